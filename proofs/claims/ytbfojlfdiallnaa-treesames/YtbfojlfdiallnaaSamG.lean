import Derived.Test.YtbfojlfdiallnaaSamF
namespace Go.Proofs.Ytbfojlfdiallnaa
open Go.RowKit
set_option linter.unusedVariables false

set_option maxRecDepth 100000 in
set_option maxHeartbeats 4000000 in
theorem equalDecls_any (L1 L2 : List Dc) (u1 u2 : Value) (S1 S2 : Nat → Prop) (w : World) (h1 : Dcs S1 w u1 L1) (h2 : Dcs S2 w u2 L2) :
    Calls Try.prog 41 #[u1, u2, .func (.func 42) #[] #[]] w fun e w' => e = .returned (.bool (eqF sameDc L1 L2)) ∧ Below w.heap.size w w' := by
  obtain ⟨a1, c1, rfl, hlen, k1⟩ := Rows.any h1
  obtain ⟨a2, c2, rfl, _, k2⟩ := Rows.any h2
  clear h1 h2
  by_cases hl : L1.length = L2.length
  · generalize hA : eqF sameDc L1 L2 = A
    have hl' : Hid (L1.length = L2.length) := hl
    rw [← hl]
    by_cases h0 : L1 = []
    · subst h0
      have h0' : L2 = [] := List.length_eq_zero_iff.1 (by rw [← hl]; rfl)
      subst h0'
      have hA' : A = true := by rw [← hA]; rfl
      subst hA'
      clear k1 k2 hl' hl
      go_enter Try.func41, Try.ntmps41
      go_wp2
      go_loop [17] (fun t => t = .int .i64 0) (fun _ => 0)
      case atStart => exact rfl
      case round =>
        obtain rfl := hrel
        go_wp2
        go_ret
        exact ⟨rfl, Below.refl _ _⟩
    · obtain ⟨g1, o1, rfl, _, hg1, H1⟩ := k1.resolve_left h0
      obtain ⟨g2, o2, rfl, _, hg2, H2⟩ := k2.resolve_left (by intro e; rw [e] at hl; exact h0 (List.length_eq_zero_iff.1 hl))
      clear h0 k1 k2 hl
      go_enter Try.func41, Try.ntmps41
      go_wp2
      go_loopw [17] (fun t wr => ∃ k : Nat, k ≤ L1.length ∧ t = .int .i64 (k : Int) ∧ eqF sameDc (L1.drop k) (L2.drop k) = A ∧ Below w.heap.size w wr) (fun t _ => L1.length - (intOf t).toNat)
      case atStart => exact ⟨0, by omega, rfl, hA, Below.refl _ _⟩
      case round =>
        obtain ⟨k, hk, rfl, hs, hb⟩ := hrel
        by_cases hlt : k < L1.length
        · obtain ⟨cs1, _, ⟨v1, ⟨s10, s11, s12, s13, s14⟩, rfl, vN1, sN1⟩, p⟩ := H1 k hlt
          obtain ⟨cs2, _, ⟨v2, ⟨s20, s21, s22, s23, s24⟩, rfl, vN2, sN2⟩, r⟩ := H2 k (by have := hl'.out; omega)
          obtain ⟨_, _, rfl, -, -⟩ := Rows.any vN1
          obtain ⟨_, _, rfl, -, -⟩ := Rows.any sN1.1
          obtain ⟨_, _, rfl, -, -⟩ := Rows.any sN1.2.1
          obtain ⟨_, _, rfl, -, -⟩ := Rows.any sN1.2.2.1
          obtain ⟨_, _, rfl, -, -⟩ := Rows.any sN1.2.2.2.1
          obtain ⟨_, _, rfl, -, -⟩ := Rows.any sN1.2.2.2.2
          obtain ⟨_, _, rfl, -, -⟩ := Rows.any vN2
          obtain ⟨_, _, rfl, -, -⟩ := Rows.any sN2.1
          obtain ⟨_, _, rfl, -, -⟩ := Rows.any sN2.2.1
          obtain ⟨_, _, rfl, -, -⟩ := Rows.any sN2.2.2.1
          obtain ⟨_, _, rfl, -, -⟩ := Rows.any sN2.2.2.2.1
          obtain ⟨_, _, rfl, -, -⟩ := Rows.any sN2.2.2.2.2
          have p0 := (hb.cell (p := ⟨g1, _, none⟩) hg1).trans (p 0 _ rfl)
          have p1 := (hb.cell (p := ⟨g1, _, none⟩) hg1).trans (p 1 _ rfl)
          have p2 := (hb.cell (p := ⟨g1, _, none⟩) hg1).trans (p 2 _ rfl)
          have p3 := (hb.cell (p := ⟨g1, _, none⟩) hg1).trans (p 3 _ rfl)
          have p4 := (hb.cell (p := ⟨g1, _, none⟩) hg1).trans (p 4 _ rfl)
          have p5 := (hb.cell (p := ⟨g1, _, none⟩) hg1).trans (p 5 _ rfl)
          have p6 := (hb.cell (p := ⟨g1, _, none⟩) hg1).trans (p 6 _ rfl)
          have p7 := (hb.cell (p := ⟨g1, _, none⟩) hg1).trans (p 7 _ rfl)
          have p8 := (hb.cell (p := ⟨g1, _, none⟩) hg1).trans (p 8 _ rfl)
          have p9 := (hb.cell (p := ⟨g1, _, none⟩) hg1).trans (p 9 _ rfl)
          have p10 := (hb.cell (p := ⟨g1, _, none⟩) hg1).trans (p 10 _ rfl)
          have p11 := (hb.cell (p := ⟨g1, _, none⟩) hg1).trans (p 11 _ rfl)
          have p12 := (hb.cell (p := ⟨g1, _, none⟩) hg1).trans (p 12 _ rfl)
          have p13 := (hb.cell (p := ⟨g1, _, none⟩) hg1).trans (p 13 _ rfl)
          have p14 := (hb.cell (p := ⟨g1, _, none⟩) hg1).trans (p 14 _ rfl)
          have r0 := (hb.cell (p := ⟨g2, _, none⟩) hg2).trans (r 0 _ rfl)
          have r1 := (hb.cell (p := ⟨g2, _, none⟩) hg2).trans (r 1 _ rfl)
          have r2 := (hb.cell (p := ⟨g2, _, none⟩) hg2).trans (r 2 _ rfl)
          have r3 := (hb.cell (p := ⟨g2, _, none⟩) hg2).trans (r 3 _ rfl)
          have r4 := (hb.cell (p := ⟨g2, _, none⟩) hg2).trans (r 4 _ rfl)
          have r5 := (hb.cell (p := ⟨g2, _, none⟩) hg2).trans (r 5 _ rfl)
          have r6 := (hb.cell (p := ⟨g2, _, none⟩) hg2).trans (r 6 _ rfl)
          have r7 := (hb.cell (p := ⟨g2, _, none⟩) hg2).trans (r 7 _ rfl)
          have r8 := (hb.cell (p := ⟨g2, _, none⟩) hg2).trans (r 8 _ rfl)
          have r9 := (hb.cell (p := ⟨g2, _, none⟩) hg2).trans (r 9 _ rfl)
          have r10 := (hb.cell (p := ⟨g2, _, none⟩) hg2).trans (r 10 _ rfl)
          have r11 := (hb.cell (p := ⟨g2, _, none⟩) hg2).trans (r 11 _ rfl)
          have r12 := (hb.cell (p := ⟨g2, _, none⟩) hg2).trans (r 12 _ rfl)
          have r13 := (hb.cell (p := ⟨g2, _, none⟩) hg2).trans (r 13 _ rfl)
          have r14 := (hb.cell (p := ⟨g2, _, none⟩) hg2).trans (r 14 _ rfl)
          have hstep := eqF_step sameDc L1 L2 k hlt (by have := hl'.out; omega)
          have hbs := hb.size
          rw [hs] at hstep
          have q2 : g2 < wr.heap.size := by omega
          have q2' : ¬ g2 = wr.heap.size := by omega
          have k1 : (k : Int) < (L1.length : Int) := by omega
          have k0 : (0 : Int) ≤ (k : Int) := by omega
          clear p r hs
          generalize L1[k] = x at *
          generalize L2[k]'(by have := hl'.out; omega) = y at *
          have hF' := fun (W : World) (hW : Below w.heap.size w W) => sameDecl_any x y _ _ ⟨_, _, _, _, _⟩ ⟨_, _, _, _, _⟩ S1 S2 W (vN1.below hW) (sN1.below hW) (vN2.below hW) (sN2.below hW)
          simp only [Nat.add_zero] at p0 r0
          cases hxy : sameDc x y with
          | true =>
            have hstep' : Hid (eqF sameDc (L1.drop (k + 1)) (L2.drop (k + 1)) = A) := by show _ = _; rw [hstep, hxy]; rfl
            rw [hxy] at hF'
            clear hstep
            go_wp2_with (go_at_call 42; (with_reducible refine Calls.mono (hF' _ (by exact (hb.alloc hbs _).alloc (by simp; omega) _)) ?_); rintro e w1 ⟨rfl, hb1⟩; have HB : Below w.heap.size w w1 := bel_after ((hb.alloc hbs _).alloc (by simp; omega) _) (by simp; omega) hb1)
            go_roundw
            case rel => exact ⟨k + 1, by omega, by go_num, hstep'.out, HB⟩
            case measure => simp [intOf]; omega
          | false =>
            have hA' : A = false := by rw [hstep, hxy]; rfl
            subst hA'
            rw [hxy] at hF'
            clear hstep
            go_wp2_with (go_at_call 42; (with_reducible refine Calls.mono (hF' _ (by exact (hb.alloc hbs _).alloc (by simp; omega) _)) ?_); rintro e w1 ⟨rfl, hb1⟩; have HB : Below w.heap.size w w1 := bel_after ((hb.alloc hbs _).alloc (by simp; omega) _) (by simp; omega) hb1)
            go_ret
            exact ⟨rfl, HB⟩
        · have k1 : ¬ (k : Int) < (L1.length : Int) := by omega
          have hA' : A = true := by rw [← hs]; exact eqF_end _ _ _ _ (by omega) (by have := hl'.out; omega)
          subst hA'
          clear H1 H2
          go_wp2
          go_ret
          exact ⟨rfl, hb⟩
  · rw [eqF_len _ _ _ hl]
    go_enter Try.func41, Try.ntmps41
    go_wp2
    go_ret
    exact ⟨rfl, Below.refl _ _⟩

set_option maxRecDepth 100000 in
set_option maxHeartbeats 4000000 in
theorem same_any (p q : Pl) (u1 u2 : Value) (S1 S2 : Nat → Prop) (w : World) (h1 : PlR S1 w u1 p) (h2 : PlR S2 w u2 q) :
    Calls Try.prog 18 #[u1, u2] w fun e w' => e = .returned (.bool (samePl p q)) ∧ Below w.heap.size w w' := by
  obtain ⟨d1, rfl, h1⟩ := h1
  obtain ⟨d2, rfl, h2⟩ := h2
  have hE := fun (W : World) (hW : Below w.heap.size w W) => equalDecls_any _ _ _ _ S1 S2 W (h1.below hW) (h2.below hW)
  have key : samePl p q = ((p.name.toList == q.name.toList) && eqF sameDc p.decls q.decls) := rfl
  generalize samePl p q = A at *
  generalize eqF sameDc p.decls q.decls = B at *
  obtain ⟨_, _, rfl, -, -⟩ := Rows.any h1
  obtain ⟨_, _, rfl, -, -⟩ := Rows.any h2
  clear h1 h2
  go_enter Try.func18, Try.ntmps18
  go_wp2_with ((go_at_call 41; (with_reducible refine Calls.mono (hE _ (by exact ((Below.refl _ _).alloc (Nat.le_refl _) _).alloc (by simp) _)) ?_); rintro e w1 ⟨rfl, hb1⟩; have HB1 : Below w.heap.size w w1 := bel_after (((Below.refl _ _).alloc (Nat.le_refl _) _).alloc (by simp) _) (by simp; omega) hb1; have K1 := ((Has.new w _ _ rfl).alloc _).below hb1; have K2 : Has w1 (w.heap.size + 1) _ := (Has.new (w.alloc _) _ _ (by simp)).below hb1; obtain ⟨_, c1, _⟩ := id K1; obtain ⟨_, c2, _⟩ := id K2))
  all_goals (refine bodyPost_ret (v := .bool A) (by simp_all [results, Try.results18, go_sem]) rfl ⟨rfl, by first | assumption | exact ((Below.refl _ _).alloc (Nat.le_refl _) _).alloc (by simp) _⟩)
end Go.Proofs.Ytbfojlfdiallnaa
