import Derived.Test.YtbfojlfdiallnaaSarB
namespace Go.Proofs.Ytbfojlfdiallnaa
open Go.RowKit
set_option linter.unusedVariables false

set_option maxRecDepth 100000 in
set_option maxHeartbeats 8000000 in
theorem refSameStage_any (x y : Sg) (s1 s2 : SgV) (S1 S2 : Nat → Prop) (w : World) (h1 : SgR S1 w s1 x) (h2 : SgR S2 w s2 y) :
    Calls Try.prog 44 #[.agg #[s1.green, s1.enter, s1.during, s1.leave, s1.nexts], .agg #[s2.green, s2.enter, s2.during, s2.leave, s2.nexts]] w fun e w' => e = .returned (.bool (sameSg x y)) ∧ Below w.heap.size w w' := by
  obtain ⟨a1, a2, a3, a4, a5⟩ := h1
  obtain ⟨b1, b2, b3, b4, b5⟩ := h2
  have hE := fun (W : World) (hW : Below w.heap.size w W) => (refSameList_any _ _ _ _ S1 S2 W (a2.below hW) (b2.below hW)).mono fun e w' ⟨h, m, hm⟩ => (⟨h, by rw [hm]; exact below_drewN W m⟩ : _ ∧ Below W.heap.size W w')
  have hD := fun (W : World) (hW : Below w.heap.size w W) => (refSameList_any _ _ _ _ S1 S2 W (a3.below hW) (b3.below hW)).mono fun e w' ⟨h, m, hm⟩ => (⟨h, by rw [hm]; exact below_drewN W m⟩ : _ ∧ Below W.heap.size W w')
  have hL := fun (W : World) (hW : Below w.heap.size w W) => (refSameList_any _ _ _ _ S1 S2 W (a4.below hW) (b4.below hW)).mono fun e w' ⟨h, m, hm⟩ => (⟨h, by rw [hm]; exact below_drewN W m⟩ : _ ∧ Below W.heap.size W w')
  have key : sameSg x y = (eqF txt x.green y.green && (eqF sameNx x.nexts y.nexts && (eqF sameSt x.enter y.enter && (eqF sameSt x.during y.during && eqF sameSt x.leave y.leave)))) := by
    unfold sameSg
    generalize eqF sameSt x.enter y.enter = B2
    generalize eqF sameSt x.during y.during = B3
    generalize eqF sameSt x.leave y.leave = B4
    generalize eqF sameNx x.nexts y.nexts = B5
    cases B2 <;> cases B3 <;> cases B4 <;> cases B5 <;> rfl
  generalize sameSg x y = A at *
  generalize eqF sameSt x.enter y.enter = B2 at *
  generalize eqF sameSt x.during y.during = B3 at *
  generalize eqF sameSt x.leave y.leave = B4 at *
  obtain ⟨s10, s11, s12, s13, s14⟩ := s1
  obtain ⟨s20, s21, s22, s23, s24⟩ := s2
  simp only at *
  obtain ⟨ga1, gc1, rfl, gl1, gk1⟩ := Rows.any a1
  obtain ⟨ga2, gc2, rfl, gl2, gk2⟩ := Rows.any b1
  obtain ⟨ea1, ec1, rfl, el1, ek1⟩ := Rows.any a2
  obtain ⟨ea2, ec2, rfl, el2, ek2⟩ := Rows.any b2
  obtain ⟨da1, dc1, rfl, dl1, dk1⟩ := Rows.any a3
  obtain ⟨da2, dc2, rfl, dl2, dk2⟩ := Rows.any b3
  obtain ⟨la1, lc1, rfl, ll1, lk1⟩ := Rows.any a4
  obtain ⟨la2, lc2, rfl, ll2, lk2⟩ := Rows.any b4
  obtain ⟨na1, nc1, rfl, nl1, nk1⟩ := Rows.any a5
  obtain ⟨na2, nc2, rfl, nl2, nk2⟩ := Rows.any b5
  clear a1 a2 a3 a4 a5 b1 b2 b3 b4 b5 ek1 ek2 dk1 dk2 lk1 lk2
  by_cases hG : x.green.length = y.green.length
  · by_cases hN : x.nexts.length = y.nexts.length
    · have hG' : Hid (x.green.length = y.green.length) := hG
      have hN' : Hid (x.nexts.length = y.nexts.length) := hN
      rw [← hG, ← hN]
      have key' : Hid (A = (eqF txt x.green y.green && (eqF sameNx x.nexts y.nexts && (B2 && (B3 && B4))))) := key
      clear hG hN key
      go_enter Try.func44, Try.ntmps44
      go_wp2
      have H1 : Has ((w.alloc (.cells #[.slice ga1 x.green.length gc1, .slice ea1 x.enter.length ec1, .slice da1 x.during.length dc1, .slice la1 x.leave.length lc1, .slice na1 x.nexts.length nc1] 68)).alloc (.cells #[.slice ga2 x.green.length gc2, .slice ea2 y.enter.length ec2, .slice da2 y.during.length dc2, .slice la2 y.leave.length lc2, .slice na2 x.nexts.length nc2] 68)) w.heap.size #[.slice ga1 x.green.length gc1, .slice ea1 x.enter.length ec1, .slice da1 x.during.length dc1, .slice la1 x.leave.length lc1, .slice na1 x.nexts.length nc1] := (Has.new _ _ _ rfl).alloc _
      have H2 : Has ((w.alloc (.cells #[.slice ga1 x.green.length gc1, .slice ea1 x.enter.length ec1, .slice da1 x.during.length dc1, .slice la1 x.leave.length lc1, .slice na1 x.nexts.length nc1] 68)).alloc (.cells #[.slice ga2 x.green.length gc2, .slice ea2 y.enter.length ec2, .slice da2 y.during.length dc2, .slice la2 y.leave.length lc2, .slice na2 x.nexts.length nc2] 68)) (w.heap.size + 1) #[.slice ga2 x.green.length gc2, .slice ea2 y.enter.length ec2, .slice da2 y.during.length dc2, .slice la2 y.leave.length lc2, .slice na2 x.nexts.length nc2] := Has.new _ _ _ (by simp)
      have HB : Below w.heap.size w ((w.alloc (.cells #[.slice ga1 x.green.length gc1, .slice ea1 x.enter.length ec1, .slice da1 x.during.length dc1, .slice la1 x.leave.length lc1, .slice na1 x.nexts.length nc1] 68)).alloc (.cells #[.slice ga2 x.green.length gc2, .slice ea2 y.enter.length ec2, .slice da2 y.during.length dc2, .slice la2 y.leave.length lc2, .slice na2 x.nexts.length nc2] 68)) := ((Below.refl _ _).alloc (Nat.le_refl _) _).alloc (by simp) _
      generalize ((w.alloc (.cells #[.slice ga1 x.green.length gc1, .slice ea1 x.enter.length ec1, .slice da1 x.during.length dc1, .slice la1 x.leave.length lc1, .slice na1 x.nexts.length nc1] 68)).alloc (.cells #[.slice ga2 x.green.length gc2, .slice ea2 y.enter.length ec2, .slice da2 y.during.length dc2, .slice la2 y.leave.length lc2, .slice na2 x.nexts.length nc2] 68)) = W0 at *
      go_loopw [5] (fun t wr => ∃ k q : Nat, k ≤ x.green.length ∧ t = .int .i64 (k : Int) ∧ (eqF txt (x.green.drop k) (y.green.drop k) && (eqF sameNx x.nexts y.nexts && (B2 && (B3 && B4)))) = A ∧ Hid (wr = W0.drewN q)) (fun t _ => x.green.length - (intOf t).toNat)
      case atStart => exact ⟨0, 0, by omega, rfl, key'.out.symm, rfl⟩
      case round =>
        obtain ⟨k, q, hk, rfl, hs, hw⟩ := hrel
        have HBW : Below W0.heap.size W0 wr := by rw [hw.out]; exact below_drewN W0 q
        have HBr : Below w.heap.size w wr := HB.trans (HBW.mono HB.size)
        have K1 := H1.below HBW
        have K2 := H2.below HBW
        obtain ⟨_, i1, _⟩ := id K1
        obtain ⟨_, i2, _⟩ := id K2
        by_cases hlt : k < x.green.length
        · obtain ⟨g1, o1, rfl, _, hg1, P1⟩ := gk1.resolve_left (by intro e; rw [e] at hlt; simp at hlt)
          obtain ⟨g2, o2, rfl, _, hg2, P2⟩ := gk2.resolve_left (by intro e; have := hG'.out; rw [e] at this; simp at this; rw [this] at hlt; simp at hlt)
          obtain ⟨cs1, _, rfl, p⟩ := P1 k hlt
          obtain ⟨cs2, _, rfl, r⟩ := P2 k (by have := hG'.out; omega)
          have p0 := (HBr.cell (p := ⟨g1, _, none⟩) hg1).trans (p 0 _ rfl)
          have r0 := (HBr.cell (p := ⟨g2, _, none⟩) hg2).trans (r 0 _ rfl)
          have hstep := eqF_step txt x.green y.green k hlt (by have := hG'.out; omega)
          have k1 : (k : Int) < (x.green.length : Int) := by omega
          have k0 : (0 : Int) ≤ (k : Int) := by omega
          have k2 : k + 1 ≤ x.green.length := hlt
          simp only [Nat.add_zero, Nat.mul_one] at p0 r0
          rw [hstep, show txt x.green[k] (y.green[k]'(by have := hG'.out; omega)) = (x.green[k].toList == (y.green[k]'(by have := hG'.out; omega)).toList) from rfl] at hs
          clear p r P1 P2 hstep gk1 gk2 key'
          generalize x.green[k] = a at *
          generalize y.green[k]'(by have := hG'.out; omega) = b at *
          cases e : (a.toList == b.toList) with
          | true =>
            rw [e, Bool.true_and] at hs
            have hs' : Hid ((eqF txt (x.green.drop (k + 1)) (y.green.drop (k + 1)) && (eqF sameNx x.nexts y.nexts && (B2 && (B3 && B4)))) = A) := hs
            clear hs
            go_wp2
            go_quiet (fail)
            go_wp2
            go_roundw
            case rel =>
              obtain ⟨j, hj⟩ := drewN_more hw _
              exact ⟨k + 1, j, by omega, by go_num, hs'.out, hj⟩
            case measure => simp [intOf]; omega
          | false =>
            have hA' : A = false := by rw [← hs, e]; simp
            subst hA'
            clear hs
            go_wp2
            go_quiet (fail)
            go_wp2
            go_ret
            exact ⟨rfl, bel_drewN HBr⟩
        · have k1 : ¬ (k : Int) < (x.green.length : Int) := by omega
          rw [eqF_end txt _ _ k (by omega) (by have := hG'.out; omega), Bool.true_and] at hs
          clear gk1 gk2 key'
          go_wp2
          obtain ⟨V, hV⟩ : ∃ V, V = wr := ⟨_, rfl⟩
          subst hV
          go_loopw [6] (fun t wr => ∃ k q : Nat, k ≤ x.nexts.length ∧ t = .int .i64 (k : Int) ∧ (eqF sameNx (x.nexts.drop k) (y.nexts.drop k) && (B2 && (B3 && B4))) = A ∧ Hid (wr = V.drewN q)) (fun t _ => x.nexts.length - (intOf t).toNat)
          case atStart => exact ⟨0, 0, by omega, rfl, hs, rfl⟩
          case round =>
            obtain ⟨n, m, hn, rfl, hs2, hw2⟩ := hrel
            have HBV : Below V.heap.size V wr := by rw [hw2.out]; exact below_drewN V m
            have HBs : Below w.heap.size w wr := HBr.trans (HBV.mono HBr.size)
            have K3 := K1.below HBV
            have K4 := K2.below HBV
            obtain ⟨_, i3, _⟩ := id K3
            obtain ⟨_, i4, _⟩ := id K4
            by_cases hlt2 : n < x.nexts.length
            · obtain ⟨g1, o1, rfl, _, hg1, P1⟩ := nk1.resolve_left (by intro e; rw [e] at hlt2; simp at hlt2)
              obtain ⟨g2, o2, rfl, _, hg2, P2⟩ := nk2.resolve_left (by intro e; have := hN'.out; rw [e] at this; simp at this; rw [this] at hlt2; simp at hlt2)
              obtain ⟨cs1, _, ⟨v1, rfl, vN1⟩, p⟩ := P1 n hlt2
              obtain ⟨cs2, _, ⟨v2, rfl, vN2⟩, r⟩ := P2 n (by have := hN'.out; omega)
              have hS : ∀ j : Nat, Calls Try.prog 43 #[v1, v2] (wr.drewN j) fun e w' => e = .returned (.bool (eqF sameNd x.nexts[n].cnd (y.nexts[n]'(by have := hN'.out; omega)).cnd)) ∧ ∃ i, w' = (wr.drewN j).drewN i :=
                fun j => refSameExpr_any _ _ _ _ S1 S2 _ (vN1.below (bel_drewN HBs)) (vN2.below (bel_drewN HBs))
              obtain ⟨_, _, rfl, -, -⟩ := Rows.any vN1
              obtain ⟨_, _, rfl, -, -⟩ := Rows.any vN2
              have p0 := (HBs.cell (p := ⟨g1, _, none⟩) hg1).trans (p 0 _ rfl)
              have p1 := (HBs.cell (p := ⟨g1, _, none⟩) hg1).trans (p 1 _ rfl)
              have r0 := (HBs.cell (p := ⟨g2, _, none⟩) hg2).trans (r 0 _ rfl)
              have r1 := (HBs.cell (p := ⟨g2, _, none⟩) hg2).trans (r 1 _ rfl)
              have hstep := eqF_step sameNx x.nexts y.nexts n hlt2 (by have := hN'.out; omega)
              have k1' : (n : Int) < (x.nexts.length : Int) := by omega
              have k0 : (0 : Int) ≤ (n : Int) := by omega
              have k2 : n + 1 ≤ x.nexts.length := hlt2
              simp only [Nat.add_zero] at p0 r0
              rw [hstep, show sameNx x.nexts[n] (y.nexts[n]'(by have := hN'.out; omega)) = ((x.nexts[n].dst.toList == (y.nexts[n]'(by have := hN'.out; omega)).dst.toList) && eqF sameNd x.nexts[n].cnd (y.nexts[n]'(by have := hN'.out; omega)).cnd) from rfl] at hs2
              clear p r P1 P2 hstep nk1 nk2 vN1 vN2 hs
              generalize eqF sameNd x.nexts[n].cnd (y.nexts[n]'(by have := hN'.out; omega)).cnd = B at *
              generalize x.nexts[n].cnd.length = l1 at *
              generalize (y.nexts[n]'(by have := hN'.out; omega)).cnd.length = l2 at *
              generalize x.nexts[n].dst = a at *
              generalize (y.nexts[n]'(by have := hN'.out; omega)).dst = b at *
              cases eB : B with
              | true =>
                rw [eB] at hs2 hS
                clear eB
                cases e : (a.toList == b.toList) with
                | true =>
                  rw [e, Bool.true_and, Bool.true_and] at hs2
                  have hs' : Hid ((eqF sameNx (x.nexts.drop (n + 1)) (y.nexts.drop (n + 1)) && (B2 && (B3 && B4))) = A) := hs2
                  clear hs2
                  go_wp2
                  go_quiet ((go_at_call 43; exact Calls.quiet_of (hS _)))
                  go_wp2
                  go_quiet (fail)
                  go_wp2
                  go_roundw
                  case rel =>
                    obtain ⟨j, hj⟩ := drewN_more hw2 _
                    exact ⟨n + 1, j, by omega, by go_num, hs'.out, hj⟩
                  case measure => simp [intOf]; omega
                | false =>
                  have hA' : A = false := by rw [← hs2, e]; simp
                  subst hA'
                  clear hs2
                  go_wp2
                  go_quiet ((go_at_call 43; exact Calls.quiet_of (hS _)))
                  go_wp2
                  go_quiet (fail)
                  go_wp2
                  go_ret
                  exact ⟨rfl, bel_drewN (bel_drewN HBs)⟩
              | false =>
                have hA' : A = false := by rw [← hs2, eB]; simp
                subst hA'
                rw [eB] at hS
                clear hs2 eB
                go_wp2
                go_quiet ((go_at_call 43; exact Calls.quiet_of (hS _)))
                go_wp2
                go_quiet (fail)
                go_wp2
                go_ret
                exact ⟨rfl, bel_drewN (bel_drewN HBs)⟩
            · have k1' : ¬ (n : Int) < (x.nexts.length : Int) := by omega
              rw [eqF_end sameNx _ _ n (by omega) (by have := hN'.out; omega), Bool.true_and] at hs2
              clear nk1 nk2 hs
              go_wp2_with (first
                | (go_at_call 53; (with_reducible refine Calls.mono (hE _ (by exact HBs)) ?_); rintro e w1 ⟨rfl, hb1⟩; have HB1 : Below w.heap.size w w1 := bel_after HBs HBs.size hb1; have J1 := K3.below hb1; have M1 := K4.below hb1; obtain ⟨_, j1, _⟩ := id J1; obtain ⟨_, m1, _⟩ := id M1)
                | (go_at_call 53; (with_reducible refine Calls.mono (hD _ (by exact HB1)) ?_); rintro e w2 ⟨rfl, hb2⟩; have HB2 : Below w.heap.size w w2 := bel_after HB1 HB1.size hb2; have J2 := J1.below hb2; have M2 := M1.below hb2; obtain ⟨_, j2, _⟩ := id J2; obtain ⟨_, m2, _⟩ := id M2)
                | (go_at_call 53; (with_reducible refine Calls.mono (hL _ (by exact HB2)) ?_); rintro e w3 ⟨rfl, hb3⟩; have HB3 : Below w.heap.size w w3 := bel_after HB2 HB2.size hb3; have J3 := J2.below hb3; have M3 := M2.below hb3; obtain ⟨_, j3, _⟩ := id J3; obtain ⟨_, m3, _⟩ := id M3))
              all_goals (refine bodyPost_ret (v := .bool A) (by simp_all [results, Try.results44, go_sem]) rfl ⟨rfl, by assumption⟩)
    · have hA : A = false := by rw [key, eqF_len sameNx _ _ hN]; simp
      subst hA
      clear key
      go_enter Try.func44, Try.ntmps44
      go_wp2
      go_ret
      exact ⟨rfl, ((Below.refl _ _).alloc (Nat.le_refl _) _).alloc (by simp) _⟩
  · have hA : A = false := by rw [key, eqF_len txt _ _ hG]; simp
    subst hA
    clear key
    go_enter Try.func44, Try.ntmps44
    go_wp2
    go_ret
    exact ⟨rfl, ((Below.refl _ _).alloc (Nat.le_refl _) _).alloc (by simp) _⟩
end Go.Proofs.Ytbfojlfdiallnaa
