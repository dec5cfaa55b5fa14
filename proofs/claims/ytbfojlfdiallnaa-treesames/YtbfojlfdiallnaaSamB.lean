import Derived.Test.YtbfojlfdiallnaaSamA
namespace Go.Proofs.Ytbfojlfdiallnaa
open Go.RowKit
set_option linter.unusedVariables false

theorem sameNode_nd (x y : Nd) (W : World) : Calls Try.prog 59 #[.agg #[.int .i64 x.op, .int .i32 x.val, .string x.name, .int .i64 x.line, .int .i64 x.col], .agg #[.int .i64 y.op, .int .i32 y.val, .string y.name, .int .i64 y.line, .int .i64 y.col]] W fun e w' => e = .returned (.bool (sameNd x y)) ∧ Below W.heap.size W w' := sameNode_any _ _ _ _ _ _ _ _ _ _ W

set_option maxRecDepth 100000 in
set_option maxHeartbeats 4000000 in
theorem equalNodes_any (L1 L2 : List Nd) (u1 u2 : Value) (S1 S2 : Nat → Prop) (w : World) (h1 : Exs S1 w u1 L1) (h2 : Exs S2 w u2 L2) :
    Calls Try.prog 58 #[u1, u2, .func (.func 59) #[] #[]] w fun e w' => e = .returned (.bool (eqF sameNd L1 L2)) ∧ Below w.heap.size w w' := by
  obtain ⟨a1, c1, rfl, hlen, k1⟩ := Rows.any h1
  obtain ⟨a2, c2, rfl, _, k2⟩ := Rows.any h2
  clear h1 h2
  by_cases hl : L1.length = L2.length
  · generalize hA : eqF sameNd L1 L2 = A
    have hl' : Hid (L1.length = L2.length) := hl
    rw [← hl]
    by_cases h0 : L1 = []
    · subst h0
      have h0' : L2 = [] := List.length_eq_zero_iff.1 (by rw [← hl]; rfl)
      subst h0'
      have hA' : A = true := by rw [← hA]; rfl
      subst hA'
      clear k1 k2 hl' hl
      go_enter Try.func58, Try.ntmps58
      go_wp2
      go_loop [17] (fun t => t = .int .i64 0) (fun _ => 0)
      case atStart => exact rfl
      case round =>
        obtain rfl := hrel
        go_wp2
        go_ret
        exact ⟨rfl, Below.refl _ _⟩
    · obtain ⟨g1, o1, rfl, _, hg1, H1⟩ := k1.resolve_left h0
      obtain ⟨g2, o2, rfl, _, hg2, H2⟩ := k2.resolve_left (by intro e; rw [e] at hl; exact h0 (List.length_eq_zero_iff.1 hl))
      clear h0 k1 k2 hl
      go_enter Try.func58, Try.ntmps58
      go_wp2
      go_loopw [17] (fun t wr => ∃ k : Nat, k ≤ L1.length ∧ t = .int .i64 (k : Int) ∧ eqF sameNd (L1.drop k) (L2.drop k) = A ∧ Below w.heap.size w wr) (fun t _ => L1.length - (intOf t).toNat)
      case atStart => exact ⟨0, by omega, rfl, hA, Below.refl _ _⟩
      case round =>
        obtain ⟨k, hk, rfl, hs, hb⟩ := hrel
        by_cases hlt : k < L1.length
        · obtain ⟨cs1, _, rfl, p⟩ := H1 k hlt
          obtain ⟨cs2, _, rfl, r⟩ := H2 k (by have := hl'.out; omega)
          have p0 := (hb.cell (p := ⟨g1, _, none⟩) hg1).trans (p 0 _ rfl)
          have p1 := (hb.cell (p := ⟨g1, _, none⟩) hg1).trans (p 1 _ rfl)
          have p2 := (hb.cell (p := ⟨g1, _, none⟩) hg1).trans (p 2 _ rfl)
          have p3 := (hb.cell (p := ⟨g1, _, none⟩) hg1).trans (p 3 _ rfl)
          have p4 := (hb.cell (p := ⟨g1, _, none⟩) hg1).trans (p 4 _ rfl)
          have r0 := (hb.cell (p := ⟨g2, _, none⟩) hg2).trans (r 0 _ rfl)
          have r1 := (hb.cell (p := ⟨g2, _, none⟩) hg2).trans (r 1 _ rfl)
          have r2 := (hb.cell (p := ⟨g2, _, none⟩) hg2).trans (r 2 _ rfl)
          have r3 := (hb.cell (p := ⟨g2, _, none⟩) hg2).trans (r 3 _ rfl)
          have r4 := (hb.cell (p := ⟨g2, _, none⟩) hg2).trans (r 4 _ rfl)
          have hstep := eqF_step sameNd L1 L2 k hlt (by have := hl'.out; omega)
          have hbs := hb.size
          rw [hs] at hstep
          have q2 : g2 < wr.heap.size := by omega
          have q2' : ¬ g2 = wr.heap.size := by omega
          have k1 : (k : Int) < (L1.length : Int) := by omega
          have k0 : (0 : Int) ≤ (k : Int) := by omega
          clear p r hs
          generalize L1[k] = x at *
          generalize L2[k]'(by have := hl'.out; omega) = y at *
          have hF' := fun (W : World) (hW : Below w.heap.size w W) => sameNode_nd x y  W 
          simp only [Nat.add_zero] at p0 r0
          cases hxy : sameNd x y with
          | true =>
            have hstep' : Hid (eqF sameNd (L1.drop (k + 1)) (L2.drop (k + 1)) = A) := by show _ = _; rw [hstep, hxy]; rfl
            rw [hxy] at hF'
            clear hstep
            go_wp2_with (go_at_call 59; (with_reducible refine Calls.mono (hF' _ (by exact (hb.alloc hbs _).alloc (by simp; omega) _)) ?_); rintro e w1 ⟨rfl, hb1⟩; have HB : Below w.heap.size w w1 := bel_after ((hb.alloc hbs _).alloc (by simp; omega) _) (by simp; omega) hb1)
            go_roundw
            case rel => exact ⟨k + 1, by omega, by go_num, hstep'.out, HB⟩
            case measure => simp [intOf]; omega
          | false =>
            have hA' : A = false := by rw [hstep, hxy]; rfl
            subst hA'
            rw [hxy] at hF'
            clear hstep
            go_wp2_with (go_at_call 59; (with_reducible refine Calls.mono (hF' _ (by exact (hb.alloc hbs _).alloc (by simp; omega) _)) ?_); rintro e w1 ⟨rfl, hb1⟩; have HB : Below w.heap.size w w1 := bel_after ((hb.alloc hbs _).alloc (by simp; omega) _) (by simp; omega) hb1)
            go_ret
            exact ⟨rfl, HB⟩
        · have k1 : ¬ (k : Int) < (L1.length : Int) := by omega
          have hA' : A = true := by rw [← hs]; exact eqF_end _ _ _ _ (by omega) (by have := hl'.out; omega)
          subst hA'
          clear H1 H2
          go_wp2
          go_ret
          exact ⟨rfl, hb⟩
  · rw [eqF_len _ _ _ hl]
    go_enter Try.func58, Try.ntmps58
    go_wp2
    go_ret
    exact ⟨rfl, Below.refl _ _⟩

set_option maxRecDepth 100000 in
set_option maxHeartbeats 4000000 in
theorem sameExpr_any (L1 L2 : List Nd) (u1 u2 : Value) (S1 S2 : Nat → Prop) (w : World) (h1 : Exs S1 w u1 L1) (h2 : Exs S2 w u2 L2) :
    Calls Try.prog 51 #[u1, u2] w fun e w' => e = .returned (.bool (eqF sameNd L1 L2)) ∧ Below w.heap.size w w' := by
  have hE := equalNodes_any L1 L2 u1 u2 S1 S2 w h1 h2
  generalize eqF sameNd L1 L2 = A at *
  clear h1 h2
  go_enter Try.func51, Try.ntmps51
  go_wp2_with (go_at_call 58; (with_reducible refine hE.mono ?_); rintro e w1 ⟨rfl, hb1⟩)
  go_ret
  exact ⟨rfl, hb1⟩
end Go.Proofs.Ytbfojlfdiallnaa
