import Derived.Test.YthflpnahifpdnaaGaM
import Derived.Test.YthflpnahifpdnaaSdA
namespace Go.Proofs.Ythflpnahifpdnaa
open Go.RowKit
set_option linter.unusedVariables false

set_option maxRecDepth 100000 in
set_option maxHeartbeats 4000000 in
theorem settled_any (G : List Gp) (C : List Cf) (A I W : List Int) (vg vc v1 v2 v3 : Value) (M : Nat) (w : World) (h1 : Fl 5 Gp.cs w vg G) (h2 : Fl 4 Cf.cs w vc C) (h3 : Fl 1 n64 w v1 A) (h4 : Fl 1 n32 w v2 I) (h5 : Fl 1 n32 w v3 W) (lG : G.length ≤ 2932031007317) (lC : C.length ≤ 4398046511000) (lA : A.length ≤ 17592186044000) (lI : I.length ≤ 35184372088000) (lW : W.length ≤ 35184372088000) (okI : ∀ x ∈ I, inI32 x) (hM : M < 18446744073709551616) :
    Calls Try.prog 14 #[.agg #[vg, vc], .agg #[v1, v2, v3], .int .u64 (M : Int)] w fun e w' => e = .returned (.bool (setB G C A I W M)) ∧ Below w.heap.size w w' := by
  have hSd := fun (X : World) (hX : Below w.heap.size w X) => sound_any G C A I W vg vc v1 v2 v3 X (h1.below hX) (h2.below hX) (h3.below hX) (h4.below hX) (h5.below hX) lG lC lA lI lW okI
  obtain ⟨va, cg, rfl, kG⟩ := h1.any
  obtain ⟨vb, cc, rfl, kC⟩ := h2.any
  obtain ⟨vA, cA, rfl, kA⟩ := h3.nums
  obtain ⟨vI, cI, rfl, kI⟩ := h4.nums
  obtain ⟨vW, cW, rfl, kW⟩ := h5.nums
  clear h1 h2 h3 h4 h5
  have B0 : Has ((w.alloc (.cells #[.slice va G.length cg, .slice vb C.length cc] 25)).alloc (.cells #[.slice vA A.length cA, .slice vI I.length cI, .slice vW W.length cW] 37)) w.heap.size #[.slice va G.length cg, .slice vb C.length cc] := (Has.new _ _ _ rfl).alloc _
  have B1 : Has ((w.alloc (.cells #[.slice va G.length cg, .slice vb C.length cc] 25)).alloc (.cells #[.slice vA A.length cA, .slice vI I.length cI, .slice vW W.length cW] 37)) (w.heap.size + 1) #[.slice vA A.length cA, .slice vI I.length cI, .slice vW W.length cW] := Has.new _ _ _ (by simp)
  have hb0 : Below w.heap.size w ((w.alloc (.cells #[.slice va G.length cg, .slice vb C.length cc] 25)).alloc (.cells #[.slice vA A.length cA, .slice vI I.length cI, .slice vW W.length cW] 37)) := belA
  unfold setB
  cases hg : soundB G C A I W with
  | false =>
    rw [hg] at hSd
    clear kG kC kA kI kW
    go_enter Try.func14, Try.ntmps14
    go_wp2_with (go_at_call 24; (with_reducible refine Calls.mono (hSd _ (by exact hb0)) ?_); rintro e w2 ⟨rfl, hb2⟩; have hbM := bel_after hb0 hb0.size hb2; clear hb2)
    go_ret
    exact ⟨rfl, hbM⟩
  | true =>
    rw [hg] at hSd
    obtain ⟨e1, e2, e3, -, h64⟩ := sound_len hg
    clear hg
    rw [Bool.true_and]
    have i1 : (A.length : Int) = (G.length : Int) := by omega
    have i2 : (I.length : Int) = (G.length : Int) := by omega
    have i3 : (W.length : Int) = (G.length : Int) := by omega
    have hHas := fun (k : Nat) (hk : k < 64) (X : World) => has_any M k X hM hk
    replace e1 : Hid (A.length = G.length) := e1
    replace e2 : Hid (I.length = G.length) := e2
    replace e3 : Hid (W.length = G.length) := e3
    generalize hA : setF M 0 A = R
    go_enter Try.func14, Try.ntmps14
    go_wp2_with (go_at_call 24; (with_reducible refine Calls.mono (hSd _ (by exact hb0)) ?_); rintro e w2 ⟨rfl, hb2⟩; have hbM := bel_after hb0 hb0.size hb2; have BM := B0.below hb2; have B1M := B1.below hb2; obtain ⟨_, m1, _⟩ := id BM; obtain ⟨_, m2, _⟩ := id B1M; clear hb2)
    clear B0 B1 hb0 m1 m2 hSd
    go_loopw [17] (fun t wr => ∃ k : Nat, k ≤ G.length ∧ t = .int .i64 (k : Int) ∧ Hid (setF M k (A.drop k) = R) ∧ Hid (Has wr w.heap.size #[.slice va G.length cg, .slice vb C.length cc]) ∧ Hid (Has wr (w.heap.size + 1) #[.slice vA A.length cA, .slice vI I.length cI, .slice vW W.length cW]) ∧ Hid (Below w.heap.size w wr)) (fun t _ => G.length - (intOf t).toNat)
    case atStart => exact ⟨0, by omega, rfl, hA, BM, B1M, hbM⟩
    case round =>
      clear BM B1M hbM hA
      obtain ⟨k, hkl, rfl, hs, B, B1, hb⟩ := hrel
      obtain ⟨_, b1, _⟩ := id B.out
      obtain ⟨_, b2, _⟩ := id B1.out
      by_cases hlt : k < G.length
      case pos =>
        obtain ⟨g, o, rfl, hg, P⟩ := kG.resolve_left (by intro e; rw [e] at hlt; simp at hlt)
        obtain ⟨gA, oA, rfl, hgA, PA⟩ := kA.resolve_left (by intro e; have := e1.out; rw [e] at this; simp at this; omega)
        obtain ⟨gI, oI, rfl, hgI, PI⟩ := kI.resolve_left (by intro e; have := e2.out; rw [e] at this; simp at this; omega)
        obtain ⟨gW, oW, rfl, hgW, PW⟩ := kW.resolve_left (by intro e; have := e3.out; rw [e] at this; simp at this; omega)
        have lA' : k < A.length := by have := e1.out; omega
        have lI' : k < I.length := by have := e2.out; omega
        have lW' : k < W.length := by have := e3.out; omega
        have hP : ∀ (X : World), Below w.heap.size w X → X.cell? ⟨gA, oA + k, none⟩ = some (.int .i64 A[k]) ∧ X.cell? ⟨gI, oI + k, none⟩ = some (.int .i32 I[k]) ∧ X.cell? ⟨gW, oW + k, none⟩ = some (.int .i32 W[k]) := fun X hX => ⟨(hX.cell (p := ⟨gA, _, none⟩) hgA).trans (PA k lA' _ rfl), (hX.cell (p := ⟨gI, _, none⟩) hgI).trans (PI k lI' _ rfl), (hX.cell (p := ⟨gW, _, none⟩) hgW).trans (PW k lW' _ rfl)⟩
        have hQ : ∀ (X : World), Below w.heap.size w X → X.cell? ⟨g, o + k * 5, none⟩ = some (.string G[k].name) ∧ X.cell? ⟨g, o + k * 5 + 1, none⟩ = some (.int .i64 G[k].sort) ∧ X.cell? ⟨g, o + k * 5 + 2, none⟩ = some (.int .i64 G[k].min) ∧ X.cell? ⟨g, o + k * 5 + 3, none⟩ = some (.int .i64 G[k].amber) ∧ X.cell? ⟨g, o + k * 5 + 4, none⟩ = some (.int .i64 G[k].lead) := fun X hX => ⟨(hX.cell (p := ⟨g, _, none⟩) hg).trans (P k hlt 0 _ rfl), (hX.cell (p := ⟨g, _, none⟩) hg).trans (P k hlt 1 _ rfl), (hX.cell (p := ⟨g, _, none⟩) hg).trans (P k hlt 2 _ rfl), (hX.cell (p := ⟨g, _, none⟩) hg).trans (P k hlt 3 _ rfl), (hX.cell (p := ⟨g, _, none⟩) hg).trans (P k hlt 4 _ rfl)⟩
        have hc := conv32 (okI _ (List.getElem_mem lI'))
        have hH := fun (X : World) => hHas k (by omega) X
        have t0 : (0 : Int) ≤ (k : Int) := by omega
        have t1 : (k : Int) < (G.length : Int) := by omega
        have t2 : k + 1 ≤ G.length := hlt
        have tA : (k : Int) < (A.length : Int) := by omega
        have tI : (k : Int) < (I.length : Int) := by omega
        have tW : (k : Int) < (W.length : Int) := by omega
        have hs' := hs.out
        rw [setF_step M A k lA'] at hs'
        obtain ⟨y1, y2, y3⟩ := hP _ hb.out
        generalize A[k] = ya at *
        generalize I[k] = yi at *
        generalize W[k] = yw at *
        generalize G[k].name = x0 at *
        generalize G[k].sort = x1 at *
        generalize G[k].min = x2 at *
        generalize G[k].amber = x3 at *
        generalize G[k].lead = x4 at *
        clear P PA PI PW kG kA kI kW hs okI hHas hP hQ
        cases d2 : M.testBit k with
        | true =>
          rw [d2] at hH hs'
          by_cases d1 : ya = 2
          · subst d1
            have hs2 : Hid (setF M (k + 1) (A.drop (k + 1)) = R) := by show _ = _; rw [← hs']; simp
            clear hs'
            go_wp2_with (go_at_call 35; (with_reducible refine Calls.mono (hH _) ?_); rintro e w2 ⟨rfl, rfl⟩)
            go_roundw
            case rel => exact ⟨k + 1, by omega, by go_num, hs2, B, B1, hb⟩
            case measure => simp [intOf]; omega
          · have D1 : (ya == 2) = false := by simpa using d1
            have D2 : (ya != 2) = true := by simpa using d1
            have hR : R = false := by rw [← hs']; simp [d1]
            subst hR
            clear hs'
            go_wp2_with (go_at_call 35; (with_reducible refine Calls.mono (hH _) ?_); rintro e w2 ⟨rfl, rfl⟩)
            go_ret
            exact ⟨rfl, hb.out⟩
        | false =>
          rw [d2] at hH hs'
          by_cases d1 : ya = 0
          · subst d1
            have hs2 : Hid (setF M (k + 1) (A.drop (k + 1)) = R) := by show _ = _; rw [← hs']; simp
            clear hs'
            go_wp2_with (go_at_call 35; (with_reducible refine Calls.mono (hH _) ?_); rintro e w2 ⟨rfl, rfl⟩)
            go_roundw
            case rel => exact ⟨k + 1, by omega, by go_num, hs2, B, B1, hb⟩
            case measure => simp [intOf]; omega
          · have D1 : (ya == 0) = false := by simpa using d1
            have D2 : (ya != 0) = true := by simpa using d1
            have hR : R = false := by rw [← hs']; simp [d1]
            subst hR
            clear hs'
            go_wp2_with (go_at_call 35; (with_reducible refine Calls.mono (hH _) ?_); rintro e w2 ⟨rfl, rfl⟩)
            go_ret
            exact ⟨rfl, hb.out⟩
      case neg =>
        have t1 : ¬ (k : Int) < (G.length : Int) := by omega
        have t1' : ¬ (k : Int) < (A.length : Int) := by omega
        have hR : R = true := by rw [← hs.out]; exact setF_end M A k (by have := e1.out; omega)
        subst hR
        clear kG hs
        go_wp2
        go_ret
        exact ⟨rfl, hb.out⟩
end Go.Proofs.Ythflpnahifpdnaa
