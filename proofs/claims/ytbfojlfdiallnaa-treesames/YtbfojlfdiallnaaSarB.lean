import Derived.Test.YtbfojlfdiallnaaSarA
namespace Go.Proofs.Ytbfojlfdiallnaa
open Go.RowKit
set_option linter.unusedVariables false

set_option maxRecDepth 100000 in
set_option maxHeartbeats 8000000 in
theorem refSameList_any (L1 L2 : List St) (u1 u2 : Value) (S1 S2 : Nat → Prop) (w : World) (h1 : Sts S1 w u1 L1) (h2 : Sts S2 w u2 L2) :
    Calls Try.prog 53 #[u1, u2] w fun e w' => e = .returned (.bool (eqF sameSt L1 L2)) ∧ ∃ m, w' = w.drewN m := by
  obtain ⟨a1, c1, rfl, hlen, k1⟩ := Rows.any h1
  obtain ⟨a2, c2, rfl, _, k2⟩ := Rows.any h2
  clear h1 h2
  by_cases hl : L1.length = L2.length
  · generalize hA : eqF sameSt L1 L2 = A
    have hl' : Hid (L1.length = L2.length) := hl
    rw [← hl]
    by_cases h0 : L1 = []
    · subst h0
      have h0' : L2 = [] := List.length_eq_zero_iff.1 (by rw [← hl]; rfl)
      subst h0'
      have hA' : A = true := by rw [← hA]; rfl
      subst hA'
      clear k1 k2 hl' hl
      go_enter Try.func53, Try.ntmps53
      go_wp2
      go_loop [5] (fun t => t = .int .i64 0) (fun _ => 0)
      case atStart => exact rfl
      case round =>
        obtain rfl := hrel
        go_wp2
        go_ret
        exact ⟨rfl, 0, rfl⟩
    · obtain ⟨g1, o1, rfl, _, hg1, H1⟩ := k1.resolve_left h0
      obtain ⟨g2, o2, rfl, _, hg2, H2⟩ := k2.resolve_left (by intro e; rw [e] at hl; exact h0 (List.length_eq_zero_iff.1 hl))
      clear h0 k1 k2 hl
      go_enter Try.func53, Try.ntmps53
      go_wp2
      go_loopw [5] (fun t wr => ∃ k q : Nat, k ≤ L1.length ∧ t = .int .i64 (k : Int) ∧ eqF sameSt (L1.drop k) (L2.drop k) = A ∧ Hid (wr = w.drewN q)) (fun t _ => L1.length - (intOf t).toNat)
      case atStart => exact ⟨0, 0, by omega, rfl, hA, rfl⟩
      case round =>
        obtain ⟨k, q, hk, rfl, hs, hw⟩ := hrel
        have hb : Below w.heap.size w wr := by rw [hw.out]; exact below_drewN w q
        by_cases hlt : k < L1.length
        · obtain ⟨cs1, _, ⟨v1, rfl, vN1⟩, p⟩ := H1 k hlt
          obtain ⟨cs2, _, ⟨v2, rfl, vN2⟩, r⟩ := H2 k (by have := hl'.out; omega)
          have hS : ∀ n : Nat, Calls Try.prog 43 #[v1, v2] (wr.drewN n) fun e w' => e = .returned (.bool (eqF sameNd L1[k].expr (L2[k]'(by have := hl'.out; omega)).expr)) ∧ ∃ j, w' = (wr.drewN n).drewN j :=
            fun n => refSameExpr_any _ _ _ _ S1 S2 _ (vN1.below (bel_drewN hb)) (vN2.below (bel_drewN hb))
          obtain ⟨_, _, rfl, -, -⟩ := Rows.any vN1
          obtain ⟨_, _, rfl, -, -⟩ := Rows.any vN2
          have p0 := (hb.cell (p := ⟨g1, _, none⟩) hg1).trans (p 0 _ rfl)
          have r0 := (hb.cell (p := ⟨g2, _, none⟩) hg2).trans (r 0 _ rfl)
          have p1 := (hb.cell (p := ⟨g1, _, none⟩) hg1).trans (p 1 _ rfl)
          have r1 := (hb.cell (p := ⟨g2, _, none⟩) hg2).trans (r 1 _ rfl)
          have p2 := (hb.cell (p := ⟨g1, _, none⟩) hg1).trans (p 2 _ rfl)
          have r2 := (hb.cell (p := ⟨g2, _, none⟩) hg2).trans (r 2 _ rfl)
          have p3 := (hb.cell (p := ⟨g1, _, none⟩) hg1).trans (p 3 _ rfl)
          have r3 := (hb.cell (p := ⟨g2, _, none⟩) hg2).trans (r 3 _ rfl)
          have hstep := eqF_step sameSt L1 L2 k hlt (by have := hl'.out; omega)
          rw [hs] at hstep
          rw [show sameSt L1[k] (L2[k]'(by have := hl'.out; omega)) = ((L1[k].kind == (L2[k]'(by have := hl'.out; omega)).kind) && ((L1[k].name.toList == (L2[k]'(by have := hl'.out; omega)).name.toList) && ((L1[k].ix == (L2[k]'(by have := hl'.out; omega)).ix) && eqF sameNd L1[k].expr (L2[k]'(by have := hl'.out; omega)).expr))) from rfl] at hstep
          have k1 : (k : Int) < (L1.length : Int) := by omega
          have k0 : (0 : Int) ≤ (k : Int) := by omega
          have k2 : k + 1 ≤ L1.length := hlt
          clear p r hs H1 H2 vN1 vN2
          simp only [Nat.add_zero] at p0 r0
          generalize eqF sameNd L1[k].expr (L2[k]'(by have := hl'.out; omega)).expr = B at *
          generalize L1[k].expr.length = l1 at *
          generalize (L2[k]'(by have := hl'.out; omega)).expr.length = l2 at *
          generalize L1[k].kind = x0 at *
          generalize (L2[k]'(by have := hl'.out; omega)).kind = y0 at *
          generalize L1[k].name = x1 at *
          generalize (L2[k]'(by have := hl'.out; omega)).name = y1 at *
          generalize L1[k].ix = x2 at *
          generalize (L2[k]'(by have := hl'.out; omega)).ix = y2 at *
          cases eB : B with
          | true =>
            rw [eB] at hstep hS
            clear eB
            by_cases ex0 : x0 = y0
            · subst ex0
              cases ex1 : (x1.toList == y1.toList) with
              | true =>
                rw [ex1] at hstep
                by_cases ex2 : x2 = y2
                · subst ex2
                  have hstep : Hid (eqF sameSt (L1.drop (k + 1)) (L2.drop (k + 1)) = A) := by show _ = _; rw [hstep]; simp
                  go_wp2
                  go_quiet ((go_at_call 43; exact Calls.quiet_of (hS _)))
                  go_wp2
                  go_quiet (fail)
                  go_wp2
                  go_roundw
                  case rel =>
                    obtain ⟨j, hj⟩ := drewN_more hw _
                    exact ⟨k + 1, j, by omega, by go_num, hstep.out, hj⟩
                  case measure => simp [intOf]; omega
                · have hA' : A = false := by rw [hstep]; simp [ex2]
                  subst hA'
                  have e' : (x2 != y2) = true := by simpa using ex2
                  clear hstep ex2
                  go_wp2
                  go_quiet ((go_at_call 43; exact Calls.quiet_of (hS _)))
                  go_wp2
                  go_quiet (fail)
                  go_wp2
                  go_ret
                  exact ⟨rfl, by rw [World.drewN_drewN]; exact drewN_more hw _⟩
              | false =>
                have hA' : A = false := by rw [hstep, ex1]; simp
                subst hA'
                clear hstep
                go_wp2
                go_quiet ((go_at_call 43; exact Calls.quiet_of (hS _)))
                go_wp2
                go_quiet (fail)
                go_wp2
                go_ret
                exact ⟨rfl, by rw [World.drewN_drewN]; exact drewN_more hw _⟩
            · have hA' : A = false := by rw [hstep]; simp [ex0]
              subst hA'
              have e' : (x0 != y0) = true := by simpa using ex0
              clear hstep ex0
              go_wp2
              go_quiet ((go_at_call 43; exact Calls.quiet_of (hS _)))
              go_wp2
              go_quiet (fail)
              go_wp2
              go_ret
              exact ⟨rfl, by rw [World.drewN_drewN]; exact drewN_more hw _⟩
          | false =>
            have hA' : A = false := by rw [hstep, eB]; simp
            subst hA'
            rw [eB] at hS
            clear hstep eB
            go_wp2
            go_quiet ((go_at_call 43; exact Calls.quiet_of (hS _)))
            go_wp2
            go_quiet (fail)
            go_wp2
            go_ret
            exact ⟨rfl, by rw [World.drewN_drewN]; exact drewN_more hw _⟩

        · have k1 : ¬ (k : Int) < (L1.length : Int) := by omega
          have hA' : A = true := by rw [← hs]; exact eqF_end _ _ _ _ (by omega) (by have := hl'.out; omega)
          subst hA'
          clear H1 H2
          go_wp2
          go_ret
          exact ⟨rfl, q, hw.out⟩
  · rw [eqF_len _ _ _ hl]
    go_enter Try.func53, Try.ntmps53
    go_wp2
    go_ret
    exact ⟨rfl, 0, rfl⟩
end Go.Proofs.Ytbfojlfdiallnaa
