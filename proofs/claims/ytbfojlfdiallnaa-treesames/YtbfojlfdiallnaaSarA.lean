import Derived.Test.YtbfojlfdiallnaaPlnA
namespace Go.Proofs.Ytbfojlfdiallnaa
open Go.RowKit
set_option linter.unusedVariables false

theorem drewN_more {w wr : World} {q : Nat} (h : Hid (wr = w.drewN q)) (m : Nat) : ∃ j, wr.drewN m = w.drewN j := by rw [h.out]; exact ⟨_, World.drewN_drewN ..⟩
theorem below_drewN (w : World) (n : Nat) : Below w.heap.size w (w.drewN n) := bel_drewN (Below.refl _ _)

set_option maxRecDepth 100000 in
set_option maxHeartbeats 8000000 in
theorem refSameExpr_any (L1 L2 : List Nd) (u1 u2 : Value) (S1 S2 : Nat → Prop) (w : World) (h1 : Exs S1 w u1 L1) (h2 : Exs S2 w u2 L2) :
    Calls Try.prog 43 #[u1, u2] w fun e w' => e = .returned (.bool (eqF sameNd L1 L2)) ∧ ∃ m, w' = w.drewN m := by
  obtain ⟨a1, c1, rfl, hlen, k1⟩ := Rows.any h1
  obtain ⟨a2, c2, rfl, _, k2⟩ := Rows.any h2
  clear h1 h2
  by_cases hl : L1.length = L2.length
  · generalize hA : eqF sameNd L1 L2 = A
    have hl' : Hid (L1.length = L2.length) := hl
    rw [← hl]
    by_cases h0 : L1 = []
    · subst h0
      have h0' : L2 = [] := List.length_eq_zero_iff.1 (by rw [← hl]; rfl)
      subst h0'
      have hA' : A = true := by rw [← hA]; rfl
      subst hA'
      clear k1 k2 hl' hl
      go_enter Try.func43, Try.ntmps43
      go_wp2
      go_loop [5] (fun t => t = .int .i64 0) (fun _ => 0)
      case atStart => exact rfl
      case round =>
        obtain rfl := hrel
        go_wp2
        go_ret
        exact ⟨rfl, 0, rfl⟩
    · obtain ⟨g1, o1, rfl, _, hg1, H1⟩ := k1.resolve_left h0
      obtain ⟨g2, o2, rfl, _, hg2, H2⟩ := k2.resolve_left (by intro e; rw [e] at hl; exact h0 (List.length_eq_zero_iff.1 hl))
      clear h0 k1 k2 hl
      go_enter Try.func43, Try.ntmps43
      go_wp2
      go_loopw [5] (fun t wr => ∃ k q : Nat, k ≤ L1.length ∧ t = .int .i64 (k : Int) ∧ eqF sameNd (L1.drop k) (L2.drop k) = A ∧ wr = w.drewN q) (fun t _ => L1.length - (intOf t).toNat)
      case atStart => exact ⟨0, 0, by omega, rfl, hA, rfl⟩
      case round =>
        obtain ⟨k, q, hk, rfl, hs, rfl⟩ := hrel
        by_cases hlt : k < L1.length
        · obtain ⟨cs1, _, rfl, p⟩ := H1 k hlt
          obtain ⟨cs2, _, rfl, r⟩ := H2 k (by have := hl'.out; omega)
          have p0 := p 0 _ rfl
          have r0 := r 0 _ rfl
          have p1 := p 1 _ rfl
          have r1 := r 1 _ rfl
          have p2 := p 2 _ rfl
          have r2 := r 2 _ rfl
          have hstep := eqF_step sameNd L1 L2 k hlt (by have := hl'.out; omega)
          rw [hs] at hstep
          unfold sameNd txt at hstep
          have k1 : (k : Int) < (L1.length : Int) := by omega
          have k0 : (0 : Int) ≤ (k : Int) := by omega
          have k2 : k + 1 ≤ L1.length := hlt
          clear p r hs H1 H2
          simp only [Nat.add_zero] at p0 r0
          generalize L1[k].op = x0 at *
          generalize (L2[k]'(by have := hl'.out; omega)).op = y0 at *
          generalize L1[k].val = x1 at *
          generalize (L2[k]'(by have := hl'.out; omega)).val = y1 at *
          generalize L1[k].name = x2 at *
          generalize (L2[k]'(by have := hl'.out; omega)).name = y2 at *
          by_cases e0 : x0 = y0
          · subst e0
            by_cases e1 : x1 = y1
            · subst e1
              cases e2 : (x2.toList == y2.toList) with
              | true =>
                rw [e2] at hstep
                replace hstep : Hid (eqF sameNd (L1.drop (k + 1)) (L2.drop (k + 1)) = A) := by show _ = _; rw [hstep]; simp; rfl
                have hstep := hstep
                go_wp2
                go_quiet (fail)
                go_wp2
                go_roundw
                case rel => exact ⟨k + 1, q + nq, by omega, by go_num, hstep.out, rfl⟩
                case measure => simp [intOf]; omega
              | false =>
                have hA' : A = false := by rw [hstep, e2]; simp
                subst hA'
                clear hstep
                go_wp2
                go_quiet (fail)
                go_wp2
                go_ret
                exact ⟨rfl, q + nq, World.drewN_drewN ..⟩
            · have hA' : A = false := by rw [hstep]; simp [e1]
              subst hA'
              have e1' : (x1 != y1) = true := by simpa using e1
              clear hstep e1
              go_wp2
              go_quiet (fail)
              go_wp2
              go_ret
              exact ⟨rfl, q + nq, World.drewN_drewN ..⟩
          · have hA' : A = false := by rw [hstep]; simp [e0]
            subst hA'
            have e0' : (x0 != y0) = true := by simpa using e0
            clear hstep e0
            go_wp2
            go_quiet (fail)
            go_wp2
            go_ret
            exact ⟨rfl, q + nq, World.drewN_drewN ..⟩

        · have k1 : ¬ (k : Int) < (L1.length : Int) := by omega
          have hA' : A = true := by rw [← hs]; exact eqF_end _ _ _ _ (by omega) (by have := hl'.out; omega)
          subst hA'
          clear H1 H2
          go_wp2
          go_ret
          exact ⟨rfl, q, rfl⟩
  · rw [eqF_len _ _ _ hl]
    go_enter Try.func43, Try.ntmps43
    go_wp2
    go_ret
    exact ⟨rfl, 0, rfl⟩
end Go.Proofs.Ytbfojlfdiallnaa
