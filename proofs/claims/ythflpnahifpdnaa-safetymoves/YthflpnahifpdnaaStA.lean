import Derived.Test.YthflpnahifpdnaaSpM
import Derived.Test.YthflpnahifpdnaaSpK
import Derived.Test.YthflpnahifpdnaaGrC
import Derived.Deep.RegionHeld3
namespace Go.Proofs.Ythflpnahifpdnaa
open Go.RowKit
set_option linter.unusedVariables false

set_option maxRecDepth 100000 in
set_option maxHeartbeats 4000000 in
theorem start_bad (G : List Gp) (C : List Cf) (vg vc : Value) (w : World) (h1 : Fl 5 Gp.cs w vg G) (h2 : Fl 4 Cf.cs w vc C) (lG : G.length ≤ 2932031007317) (lC : C.length ≤ 4398046511000) (hg : gridB G C = false) :
    Calls Try.prog 16 #[.agg #[vg, vc]] w fun e w' => e = .returned (.tuple #[.agg #[.slice none 0 0, .slice none 0 0, .slice none 0 0], .int .i64 70]) ∧ Below w.heap.size w w' := by
  have hGd := fun (X : World) (hX : Below w.heap.size w X) => grid_any G C vg vc X (h1.below hX) (h2.below hX) lG lC
  rw [hg] at hGd
  obtain ⟨va, cg, rfl, -⟩ := h1.any
  obtain ⟨vb, cc, rfl, -⟩ := h2.any
  have B0 : Has ((w.alloc (.cells #[.slice va G.length cg, .slice vb C.length cc] 25)).alloc (.cells #[.slice none 0 0, .slice none 0 0, .slice none 0 0] 37)) w.heap.size #[.slice va G.length cg, .slice vb C.length cc] := (Has.new _ _ _ rfl).alloc _
  have R0 : Has ((w.alloc (.cells #[.slice va G.length cg, .slice vb C.length cc] 25)).alloc (.cells #[.slice none 0 0, .slice none 0 0, .slice none 0 0] 37)) (w.heap.size + 1) #[.slice none 0 0, .slice none 0 0, .slice none 0 0] := Has.new _ _ _ (by simp)
  have hb0 : Below w.heap.size w ((w.alloc (.cells #[.slice va G.length cg, .slice vb C.length cc] 25)).alloc (.cells #[.slice none 0 0, .slice none 0 0, .slice none 0 0] 37)) := belA
  clear h1 h2 hg
  go_enter Try.func16, Try.ntmps16
  go_wp2_with (go_at_call 36; (with_reducible refine Calls.mono (hGd _ (by exact hb0)) ?_); rintro e w2 ⟨rfl, hb2⟩; have hbM := bel_after hb0 hb0.size hb2; have RM := R0.below hb2; obtain ⟨_, r1, r2⟩ := id RM; clear hb2)
  have O : Only (fun q => q = w.heap.size + 1) w2 (((w2.setCell ⟨w.heap.size + 1, 0, none⟩ (.slice none 0 0)).setCell ⟨w.heap.size + 1, 1, none⟩ (.slice none 0 0)).setCell ⟨w.heap.size + 1, 2, none⟩ (.slice none 0 0)) := ((only_of_set _ _ _ _).trans (only_of_set _ _ _ _)).trans (only_of_set _ _ _ _)
  have HH : Has (((w2.setCell ⟨w.heap.size + 1, 0, none⟩ (.slice none 0 0)).setCell ⟨w.heap.size + 1, 1, none⟩ (.slice none 0 0)).setCell ⟨w.heap.size + 1, 2, none⟩ (.slice none 0 0)) (w.heap.size + 1) #[.slice none 0 0, .slice none 0 0, .slice none 0 0] := by simpa using ((RM.set 0 (by simp) (.slice none 0 0)).set 1 (by simp) (.slice none 0 0)).set 2 (by simp) (.slice none 0 0)
  have bF := bel_only hbM O (Nat.le_refl _) (fun q hq h => by omega)
  generalize (((w2.setCell ⟨w.heap.size + 1, 0, none⟩ (.slice none 0 0)).setCell ⟨w.heap.size + 1, 1, none⟩ (.slice none 0 0)).setCell ⟨w.heap.size + 1, 2, none⟩ (.slice none 0 0)) = WF at *
  obtain ⟨_, k1, _⟩ := id HH
  exact bodyPost_ret (v := .tuple #[.agg #[.slice none 0 0, .slice none 0 0, .slice none 0 0], .int .i64 70]) (by simp [results, Try.results16, go_sem, k1]) rfl ⟨rfl, bF⟩
set_option maxRecDepth 100000 in
set_option maxHeartbeats 4000000 in
theorem start_ok (G : List Gp) (C : List Cf) (vg vc : Value) (w : World) (h1 : Fl 5 Gp.cs w vg G) (h2 : Fl 4 Cf.cs w vc C) (lG : G.length ≤ 2932031007317) (lC : C.length ≤ 4398046511000) (hg : gridB G C = true) :
    Calls Try.prog 16 #[.agg #[vg, vc]] w fun e w' => (∃ r p0 p1, e = .returned (.tuple #[.agg #[.slice (some ⟨r, 0, none⟩) G.length G.length, .slice (some ⟨p0, 0, none⟩) G.length G.length, .slice (some ⟨p1, 0, none⟩) G.length G.length], .int .i64 0]) ∧ w'.ownsRow w.heap.size 3 1 (.slice (some ⟨r, 0, none⟩) G.length G.length) G.length (valR G.length (fun _ => 0)) ∧ w'.ownsRow w.heap.size 21 1 (.slice (some ⟨p0, 0, none⟩) G.length G.length) G.length (v32 G.length (fun _ => 1)) ∧ w'.ownsRow w.heap.size 21 1 (.slice (some ⟨p1, 0, none⟩) G.length G.length) G.length (v32 G.length (fun _ => 1)) ∧ r ≠ p0 ∧ r ≠ p1 ∧ p0 ≠ p1) ∧ Below w.heap.size w w' := by
  have hGd := fun (X : World) (hX : Below w.heap.size w X) => grid_any G C vg vc X (h1.below hX) (h2.below hX) lG lC
  rw [hg] at hGd
  have hAr := fun (X : World) => allRed_any G.length X (grid_len hg)
  obtain ⟨va, cg, rfl, -⟩ := h1.any
  obtain ⟨vb, cc, rfl, -⟩ := h2.any
  have B0 : Has ((w.alloc (.cells #[.slice va G.length cg, .slice vb C.length cc] 25)).alloc (.cells #[.slice none 0 0, .slice none 0 0, .slice none 0 0] 37)) w.heap.size #[.slice va G.length cg, .slice vb C.length cc] := (Has.new _ _ _ rfl).alloc _
  have R0 : Has ((w.alloc (.cells #[.slice va G.length cg, .slice vb C.length cc] 25)).alloc (.cells #[.slice none 0 0, .slice none 0 0, .slice none 0 0] 37)) (w.heap.size + 1) #[.slice none 0 0, .slice none 0 0, .slice none 0 0] := Has.new _ _ _ (by simp)
  have hb0 : Below w.heap.size w ((w.alloc (.cells #[.slice va G.length cg, .slice vb C.length cc] 25)).alloc (.cells #[.slice none 0 0, .slice none 0 0, .slice none 0 0] 37)) := belA
  clear h1 h2 hg
  go_enter Try.func16, Try.ntmps16
  go_wp2_with (first
    | (go_at_call 36; (with_reducible refine Calls.mono (hGd _ (by exact hb0)) ?_); rintro e w2 ⟨rfl, hb2⟩; have hbM := bel_after hb0 hb0.size hb2; have RM := R0.below hb2; have BM := B0.below hb2; obtain ⟨_, b1, _⟩ := id BM; clear hb2)
    | (go_at_call 37; (with_reducible refine Calls.mono (hAr _) ?_); rintro e w3 ⟨⟨r, p0, p1, rfl, a0, a1, a2, n1, n2, n3⟩, hb3⟩; have hbK := bel_after hbM hbM.size hb3; have RK := RM.below hb3; have g0 := (own_lt a0 r rfl).1; have g1 := (own_lt a1 p0 rfl).1; have g2 := (own_lt a2 p1 rfl).1; have zR := RM.1; obtain ⟨_, r1, r2⟩ := id RK; clear hb3))
  have O : Only (fun q => q = w.heap.size + 1) w3 (((w3.setCell ⟨w.heap.size + 1, 0, none⟩ (.slice (some ⟨r, 0, none⟩) G.length G.length)).setCell ⟨w.heap.size + 1, 1, none⟩ (.slice (some ⟨p0, 0, none⟩) G.length G.length)).setCell ⟨w.heap.size + 1, 2, none⟩ (.slice (some ⟨p1, 0, none⟩) G.length G.length)) := ((only_of_set _ _ _ _).trans (only_of_set _ _ _ _)).trans (only_of_set _ _ _ _)
  have HH : Has (((w3.setCell ⟨w.heap.size + 1, 0, none⟩ (.slice (some ⟨r, 0, none⟩) G.length G.length)).setCell ⟨w.heap.size + 1, 1, none⟩ (.slice (some ⟨p0, 0, none⟩) G.length G.length)).setCell ⟨w.heap.size + 1, 2, none⟩ (.slice (some ⟨p1, 0, none⟩) G.length G.length)) (w.heap.size + 1) #[.slice (some ⟨r, 0, none⟩) G.length G.length, .slice (some ⟨p0, 0, none⟩) G.length G.length, .slice (some ⟨p1, 0, none⟩) G.length G.length] := by simpa using ((RK.set 0 (by simp) (.slice (some ⟨r, 0, none⟩) G.length G.length)).set 1 (by simp) (.slice (some ⟨p0, 0, none⟩) G.length G.length)).set 2 (by simp) (.slice (some ⟨p1, 0, none⟩) G.length G.length)
  have bF := bel_only hbK O (Nat.le_refl _) (fun q hq h => by omega)
  have f1 := own_only2 a0 O (fun q hq h => by have e : r = q := (by injection hq); omega)
  have f2 := own_only2 a1 O (fun q hq h => by have e : p0 = q := (by injection hq); omega)
  have f3 := own_only2 a2 O (fun q hq h => by have e : p1 = q := (by injection hq); omega)
  generalize (((w3.setCell ⟨w.heap.size + 1, 0, none⟩ (.slice (some ⟨r, 0, none⟩) G.length G.length)).setCell ⟨w.heap.size + 1, 1, none⟩ (.slice (some ⟨p0, 0, none⟩) G.length G.length)).setCell ⟨w.heap.size + 1, 2, none⟩ (.slice (some ⟨p1, 0, none⟩) G.length G.length)) = WF at *
  obtain ⟨_, k1, _⟩ := id HH
  exact bodyPost_ret (v := .tuple #[.agg #[.slice (some ⟨r, 0, none⟩) G.length G.length, .slice (some ⟨p0, 0, none⟩) G.length G.length, .slice (some ⟨p1, 0, none⟩) G.length G.length], .int .i64 0]) (by simp [results, Try.results16, go_sem, k1]) rfl ⟨⟨r, p0, p1, rfl, own_base f1 hbM.size, own_base f2 hbM.size, own_base f3 hbM.size, n1, n2, n3⟩, bF⟩
set_option maxRecDepth 100000 in
set_option maxHeartbeats 4000000 in
theorem step_bad1 (G : List Gp) (C : List Cf) (A I W : List Int) (vg vc v1 v2 v3 : Value) (M : Nat) (w : World) (h1 : Fl 5 Gp.cs w vg G) (h2 : Fl 4 Cf.cs w vc C) (h3 : Fl 1 n64 w v1 A) (h4 : Fl 1 n32 w v2 I) (h5 : Fl 1 n32 w v3 W) (lG : G.length ≤ 2932031007317) (lC : C.length ≤ 4398046511000) (lA : A.length ≤ 17592186044000) (lI : I.length ≤ 35184372088000) (lW : W.length ≤ 35184372088000) (hg : gridB G C = false) :
    Calls Try.prog 19 #[.agg #[vg, vc], .agg #[v1, v2, v3], .int .u64 (M : Int)] w fun e w' => e = .returned (.tuple #[.agg #[.slice none 0 0, .slice none 0 0, .slice none 0 0], .int .i64 70]) ∧ Below w.heap.size w w' := by
  have hGd := fun (X : World) (hX : Below w.heap.size w X) => grid_any G C vg vc X (h1.below hX) (h2.below hX) lG lC
  rw [hg] at hGd
  obtain ⟨va, cg, rfl, -⟩ := h1.any
  obtain ⟨vb, cc, rfl, -⟩ := h2.any
  obtain ⟨vA, cA, rfl, -⟩ := h3.any
  obtain ⟨vI, cI, rfl, -⟩ := h4.any
  obtain ⟨vW, cW, rfl, -⟩ := h5.any
  have B0 : Has (((w.alloc (.cells #[.slice va G.length cg, .slice vb C.length cc] 25)).alloc (.cells #[.slice vA A.length cA, .slice vI I.length cI, .slice vW W.length cW] 37)).alloc (.cells #[.slice none 0 0, .slice none 0 0, .slice none 0 0] 37)) w.heap.size #[.slice va G.length cg, .slice vb C.length cc] := ((Has.new _ _ _ rfl).alloc _).alloc _
  have B1 : Has (((w.alloc (.cells #[.slice va G.length cg, .slice vb C.length cc] 25)).alloc (.cells #[.slice vA A.length cA, .slice vI I.length cI, .slice vW W.length cW] 37)).alloc (.cells #[.slice none 0 0, .slice none 0 0, .slice none 0 0] 37)) (w.heap.size + 1) #[.slice vA A.length cA, .slice vI I.length cI, .slice vW W.length cW] := (Has.new _ _ _ (by simp)).alloc _
  have R0 : Has (((w.alloc (.cells #[.slice va G.length cg, .slice vb C.length cc] 25)).alloc (.cells #[.slice vA A.length cA, .slice vI I.length cI, .slice vW W.length cW] 37)).alloc (.cells #[.slice none 0 0, .slice none 0 0, .slice none 0 0] 37)) (w.heap.size + 1 + 1) #[.slice none 0 0, .slice none 0 0, .slice none 0 0] := Has.new _ _ _ (by simp)
  have hb0 : Below w.heap.size w (((w.alloc (.cells #[.slice va G.length cg, .slice vb C.length cc] 25)).alloc (.cells #[.slice vA A.length cA, .slice vI I.length cI, .slice vW W.length cW] 37)).alloc (.cells #[.slice none 0 0, .slice none 0 0, .slice none 0 0] 37)) := bel3
  clear h1 h2 h3 h4 h5
  go_enter Try.func19, Try.ntmps19
  go_wp2_with (go_at_call 36; (with_reducible refine Calls.mono (hGd _ (by exact hb0)) ?_); rintro e w2 ⟨rfl, hb2⟩; have hbM := bel_after hb0 hb0.size hb2; have RM := R0.below hb2; have BM := B0.below hb2; have BN := B1.below hb2; obtain ⟨_, b1, _⟩ := id BM; obtain ⟨_, b2, _⟩ := id BN; obtain ⟨_, r1, r2⟩ := id RM; clear hb2)
  have O : Only (fun q => q = w.heap.size + 1 + 1) w2 (((w2.setCell ⟨w.heap.size + 1 + 1, 0, none⟩ (.slice none 0 0)).setCell ⟨w.heap.size + 1 + 1, 1, none⟩ (.slice none 0 0)).setCell ⟨w.heap.size + 1 + 1, 2, none⟩ (.slice none 0 0)) := ((only_of_set _ _ _ _).trans (only_of_set _ _ _ _)).trans (only_of_set _ _ _ _)
  have HH : Has (((w2.setCell ⟨w.heap.size + 1 + 1, 0, none⟩ (.slice none 0 0)).setCell ⟨w.heap.size + 1 + 1, 1, none⟩ (.slice none 0 0)).setCell ⟨w.heap.size + 1 + 1, 2, none⟩ (.slice none 0 0)) (w.heap.size + 1 + 1) #[.slice none 0 0, .slice none 0 0, .slice none 0 0] := by simpa using ((RM.set 0 (by simp) (.slice none 0 0)).set 1 (by simp) (.slice none 0 0)).set 2 (by simp) (.slice none 0 0)
  have bF := bel_only hbM O (Nat.le_refl _) (fun q hq h => by omega)
  generalize (((w2.setCell ⟨w.heap.size + 1 + 1, 0, none⟩ (.slice none 0 0)).setCell ⟨w.heap.size + 1 + 1, 1, none⟩ (.slice none 0 0)).setCell ⟨w.heap.size + 1 + 1, 2, none⟩ (.slice none 0 0)) = WF at *
  obtain ⟨_, k1, _⟩ := id HH
  exact bodyPost_ret (v := .tuple #[.agg #[.slice none 0 0, .slice none 0 0, .slice none 0 0], .int .i64 70]) (by simp [results, Try.results19, go_sem, k1]) rfl ⟨rfl, bF⟩
set_option maxRecDepth 100000 in
set_option maxHeartbeats 4000000 in
theorem step_bad2 (G : List Gp) (C : List Cf) (A I W : List Int) (vg vc v1 v2 v3 : Value) (M : Nat) (w : World) (h1 : Fl 5 Gp.cs w vg G) (h2 : Fl 4 Cf.cs w vc C) (h3 : Fl 1 n64 w v1 A) (h4 : Fl 1 n32 w v2 I) (h5 : Fl 1 n32 w v3 W) (lG : G.length ≤ 2932031007317) (lC : C.length ≤ 4398046511000) (lA : A.length ≤ 17592186044000) (lI : I.length ≤ 35184372088000) (lW : W.length ≤ 35184372088000) (okI : ∀ x ∈ I, inI32 x) (hg : gridB G C = true) (hf : fitsB G C A I W = false) :
    Calls Try.prog 19 #[.agg #[vg, vc], .agg #[v1, v2, v3], .int .u64 (M : Int)] w fun e w' => e = .returned (.tuple #[.agg #[.slice none 0 0, .slice none 0 0, .slice none 0 0], .int .i64 71]) ∧ Below w.heap.size w w' := by
  have hGd := fun (X : World) (hX : Below w.heap.size w X) => grid_any G C vg vc X (h1.below hX) (h2.below hX) lG lC
  rw [hg] at hGd
  have hFt := fun (X : World) (hX : Below w.heap.size w X) => fits_any G C A I W vg vc v1 v2 v3 X (h1.below hX) (h2.below hX) (h3.below hX) (h4.below hX) (h5.below hX) lG lC lA lI lW okI hg
  rw [hf] at hFt
  obtain ⟨va, cg, rfl, -⟩ := h1.any
  obtain ⟨vb, cc, rfl, -⟩ := h2.any
  obtain ⟨vA, cA, rfl, -⟩ := h3.any
  obtain ⟨vI, cI, rfl, -⟩ := h4.any
  obtain ⟨vW, cW, rfl, -⟩ := h5.any
  have B0 : Has (((w.alloc (.cells #[.slice va G.length cg, .slice vb C.length cc] 25)).alloc (.cells #[.slice vA A.length cA, .slice vI I.length cI, .slice vW W.length cW] 37)).alloc (.cells #[.slice none 0 0, .slice none 0 0, .slice none 0 0] 37)) w.heap.size #[.slice va G.length cg, .slice vb C.length cc] := ((Has.new _ _ _ rfl).alloc _).alloc _
  have B1 : Has (((w.alloc (.cells #[.slice va G.length cg, .slice vb C.length cc] 25)).alloc (.cells #[.slice vA A.length cA, .slice vI I.length cI, .slice vW W.length cW] 37)).alloc (.cells #[.slice none 0 0, .slice none 0 0, .slice none 0 0] 37)) (w.heap.size + 1) #[.slice vA A.length cA, .slice vI I.length cI, .slice vW W.length cW] := (Has.new _ _ _ (by simp)).alloc _
  have R0 : Has (((w.alloc (.cells #[.slice va G.length cg, .slice vb C.length cc] 25)).alloc (.cells #[.slice vA A.length cA, .slice vI I.length cI, .slice vW W.length cW] 37)).alloc (.cells #[.slice none 0 0, .slice none 0 0, .slice none 0 0] 37)) (w.heap.size + 1 + 1) #[.slice none 0 0, .slice none 0 0, .slice none 0 0] := Has.new _ _ _ (by simp)
  have hb0 : Below w.heap.size w (((w.alloc (.cells #[.slice va G.length cg, .slice vb C.length cc] 25)).alloc (.cells #[.slice vA A.length cA, .slice vI I.length cI, .slice vW W.length cW] 37)).alloc (.cells #[.slice none 0 0, .slice none 0 0, .slice none 0 0] 37)) := bel3
  clear h1 h2 h3 h4 h5
  go_enter Try.func19, Try.ntmps19
  go_wp2_with (first | (go_at_call 36; (with_reducible refine Calls.mono (hGd _ (by exact hb0)) ?_); rintro e w2 ⟨rfl, hb2⟩; have hbM := bel_after hb0 hb0.size hb2; have RM := R0.below hb2; have BM := B0.below hb2; have BN := B1.below hb2; obtain ⟨_, b1, _⟩ := id BM; obtain ⟨_, b2, _⟩ := id BN; obtain ⟨_, r1, r2⟩ := id RM; clear hb2) | (go_at_call 38; (with_reducible refine Calls.mono (hFt _ (by exact hbM)) ?_); rintro e w3 ⟨rfl, hb3⟩; have hbK := bel_after hbM hbM.size hb3; have RK := RM.below hb3; have BK := BM.below hb3; have BL := BN.below hb3; obtain ⟨_, c1, _⟩ := id BK; obtain ⟨_, c2, _⟩ := id BL; obtain ⟨_, s1, s2⟩ := id RK; clear hb3))
  have O : Only (fun q => q = w.heap.size + 1 + 1) w3 (((w3.setCell ⟨w.heap.size + 1 + 1, 0, none⟩ (.slice none 0 0)).setCell ⟨w.heap.size + 1 + 1, 1, none⟩ (.slice none 0 0)).setCell ⟨w.heap.size + 1 + 1, 2, none⟩ (.slice none 0 0)) := ((only_of_set _ _ _ _).trans (only_of_set _ _ _ _)).trans (only_of_set _ _ _ _)
  have HH : Has (((w3.setCell ⟨w.heap.size + 1 + 1, 0, none⟩ (.slice none 0 0)).setCell ⟨w.heap.size + 1 + 1, 1, none⟩ (.slice none 0 0)).setCell ⟨w.heap.size + 1 + 1, 2, none⟩ (.slice none 0 0)) (w.heap.size + 1 + 1) #[.slice none 0 0, .slice none 0 0, .slice none 0 0] := by simpa using ((RK.set 0 (by simp) (.slice none 0 0)).set 1 (by simp) (.slice none 0 0)).set 2 (by simp) (.slice none 0 0)
  have bF := bel_only hbK O (Nat.le_refl _) (fun q hq h => by omega)
  generalize (((w3.setCell ⟨w.heap.size + 1 + 1, 0, none⟩ (.slice none 0 0)).setCell ⟨w.heap.size + 1 + 1, 1, none⟩ (.slice none 0 0)).setCell ⟨w.heap.size + 1 + 1, 2, none⟩ (.slice none 0 0)) = WF at *
  obtain ⟨_, k1, _⟩ := id HH
  exact bodyPost_ret (v := .tuple #[.agg #[.slice none 0 0, .slice none 0 0, .slice none 0 0], .int .i64 71]) (by simp [results, Try.results19, go_sem, k1]) rfl ⟨rfl, bF⟩
theorem fitsF_a {G : List Gp} {A I W : List Int} : ∀ (h : fitsF G A I W = true) (h1 : A.length = G.length) (h2 : I.length = G.length) (h3 : W.length = G.length), ∀ x ∈ A, 0 ≤ x ∧ x ≤ 3 := by
  intro h h1 h2 h3 x hx
  obtain ⟨k, hk, e⟩ := List.getElem_of_mem hx
  have hall : ∀ k (hk : k < A.length), fitB (G[k]'(by omega)) A[k] (I[k]'(by omega)) (W[k]'(by omega)) = true := by
    intro k hk
    have hd : ∀ m, m ≤ G.length → fitsF (G.drop m) (A.drop m) (I.drop m) (W.drop m) = true := by
      intro m
      induction m with
      | zero => intro _; simpa using h
      | succ m ih =>
        intro hm
        have := ih (by omega)
        rw [fitsF_step G A I W m (by omega) (by omega) (by omega) (by omega)] at this
        simp only [Bool.and_eq_true] at this
        exact this.2
    have := hd k (by omega)
    rw [fitsF_step G A I W k (by omega) (by omega) (by omega) (by omega)] at this
    simp only [Bool.and_eq_true] at this
    exact this.1
  have := hall k hk
  rw [e] at this
  unfold fitB at this
  simp only [Bool.and_eq_true, Bool.or_eq_true, decide_eq_true_eq] at this
  omega
theorem spOk_of {G : List Gp} {C : List Cf} {A I W : List Int} {M : Nat} (hg : gridB G C = true) (hf : fitsB G C A I W = true) (hM : M < 18446744073709551616) (lC : C.length ≤ 4398046511000) (okI : ∀ x ∈ I, inI32 x) (okW : ∀ x ∈ W, inI32 x) : SpOk G C A I W M := by
  unfold fitsB at hf
  simp only [Bool.and_eq_true, decide_eq_true_eq] at hf
  exact ⟨hg, hf.1, hf.2.1, hf.2.2.1, okI, okW, hM, lC, fitsF_a hf.2.2.2.1 hf.1 hf.2.1 hf.2.2.1⟩
set_option maxRecDepth 100000 in
set_option maxHeartbeats 4000000 in
theorem step_ok (G : List Gp) (C : List Cf) (A I W : List Int) (vg vc v1 v2 v3 : Value) (M : Nat) (w : World) (h1 : Fl 5 Gp.cs w vg G) (h2 : Fl 4 Cf.cs w vc C) (h3 : Fl 1 n64 w v1 A) (h4 : Fl 1 n32 w v2 I) (h5 : Fl 1 n32 w v3 W) (lG : G.length ≤ 2932031007317) (lC : C.length ≤ 4398046511000) (lA : A.length ≤ 17592186044000) (lI : I.length ≤ 35184372088000) (lW : W.length ≤ 35184372088000) (okI : ∀ x ∈ I, inI32 x) (okW : ∀ x ∈ W, inI32 x) (hM : M < 18446744073709551616) (hg : gridB G C = true) (hf : fitsB G C A I W = true) :
    Calls Try.prog 19 #[.agg #[vg, vc], .agg #[v1, v2, v3], .int .u64 (M : Int)] w fun e w' => (∃ r p0 p1, e = .returned (.tuple #[.agg #[.slice (some ⟨r, 0, none⟩) G.length G.length, .slice (some ⟨p0, 0, none⟩) G.length G.length, .slice (some ⟨p1, 0, none⟩) G.length G.length], .int .i64 0]) ∧ w'.ownsRow w.heap.size 3 1 (.slice (some ⟨r, 0, none⟩) G.length G.length) G.length (valR G.length (nxF G C A I W M)) ∧ w'.ownsRow w.heap.size 21 1 (.slice (some ⟨p0, 0, none⟩) G.length G.length) G.length (v32 G.length (inF A I (nxF G C A I W M))) ∧ w'.ownsRow w.heap.size 21 1 (.slice (some ⟨p1, 0, none⟩) G.length G.length) G.length (v32 G.length (awF W (nxF G C A I W M))) ∧ r ≠ p0 ∧ r ≠ p1 ∧ p0 ≠ p1) ∧ Below w.heap.size w w' := by
  have hNx := fun (X : World) (hX : Below w.heap.size w X) => next_any G C A I W vg vc v1 v2 v3 M X (h1.below hX) (h2.below hX) (h3.below hX) (h4.below hX) (h5.below hX) (spOk_of hg hf hM lC okI okW)
  have hGd := fun (X : World) (hX : Below w.heap.size w X) => grid_any G C vg vc X (h1.below hX) (h2.below hX) lG lC
  rw [hg] at hGd
  have hFt := fun (X : World) (hX : Below w.heap.size w X) => fits_any G C A I W vg vc v1 v2 v3 X (h1.below hX) (h2.below hX) (h3.below hX) (h4.below hX) (h5.below hX) lG lC lA lI lW okI hg
  rw [hf] at hFt
  obtain ⟨va, cg, rfl, -⟩ := h1.any
  obtain ⟨vb, cc, rfl, -⟩ := h2.any
  obtain ⟨vA, cA, rfl, -⟩ := h3.any
  obtain ⟨vI, cI, rfl, -⟩ := h4.any
  obtain ⟨vW, cW, rfl, -⟩ := h5.any
  have B0 : Has (((w.alloc (.cells #[.slice va G.length cg, .slice vb C.length cc] 25)).alloc (.cells #[.slice vA A.length cA, .slice vI I.length cI, .slice vW W.length cW] 37)).alloc (.cells #[.slice none 0 0, .slice none 0 0, .slice none 0 0] 37)) w.heap.size #[.slice va G.length cg, .slice vb C.length cc] := ((Has.new _ _ _ rfl).alloc _).alloc _
  have B1 : Has (((w.alloc (.cells #[.slice va G.length cg, .slice vb C.length cc] 25)).alloc (.cells #[.slice vA A.length cA, .slice vI I.length cI, .slice vW W.length cW] 37)).alloc (.cells #[.slice none 0 0, .slice none 0 0, .slice none 0 0] 37)) (w.heap.size + 1) #[.slice vA A.length cA, .slice vI I.length cI, .slice vW W.length cW] := (Has.new _ _ _ (by simp)).alloc _
  have R0 : Has (((w.alloc (.cells #[.slice va G.length cg, .slice vb C.length cc] 25)).alloc (.cells #[.slice vA A.length cA, .slice vI I.length cI, .slice vW W.length cW] 37)).alloc (.cells #[.slice none 0 0, .slice none 0 0, .slice none 0 0] 37)) (w.heap.size + 1 + 1) #[.slice none 0 0, .slice none 0 0, .slice none 0 0] := Has.new _ _ _ (by simp)
  have hb0 : Below w.heap.size w (((w.alloc (.cells #[.slice va G.length cg, .slice vb C.length cc] 25)).alloc (.cells #[.slice vA A.length cA, .slice vI I.length cI, .slice vW W.length cW] 37)).alloc (.cells #[.slice none 0 0, .slice none 0 0, .slice none 0 0] 37)) := bel3
  clear h1 h2 h3 h4 h5
  go_enter Try.func19, Try.ntmps19
  go_wp2_with (first | (go_at_call 36; (with_reducible refine Calls.mono (hGd _ (by exact hb0)) ?_); rintro e w2 ⟨rfl, hb2⟩; have hbM := bel_after hb0 hb0.size hb2; have RM := R0.below hb2; have BM := B0.below hb2; have BN := B1.below hb2; obtain ⟨_, b1, _⟩ := id BM; obtain ⟨_, b2, _⟩ := id BN; obtain ⟨_, r1, r2⟩ := id RM; clear hb2) | (go_at_call 38; (with_reducible refine Calls.mono (hFt _ (by exact hbM)) ?_); rintro e w3 ⟨rfl, hb3⟩; have hbK := bel_after hbM hbM.size hb3; have RK := RM.below hb3; have BK := BM.below hb3; have BL := BN.below hb3; obtain ⟨_, c1, _⟩ := id BK; obtain ⟨_, c2, _⟩ := id BL; obtain ⟨_, s1, s2⟩ := id RK; clear hb3) | (go_at_call 39; (with_reducible refine Calls.mono (hNx _ (by exact hbK)) ?_); rintro e w4 ⟨⟨r, p0, p1, rfl, a0, a1, a2, n1, n2, n3⟩, hb4⟩; have hbL := bel_after hbK hbK.size hb4; have RL := RK.below hb4; have g0 := (own_lt a0 r rfl).1; have g1 := (own_lt a1 p0 rfl).1; have g2 := (own_lt a2 p1 rfl).1; have zR := RK.1; obtain ⟨_, u1, u2⟩ := id RL; clear hb4))
  have O : Only (fun q => q = w.heap.size + 1 + 1) w4 (((w4.setCell ⟨w.heap.size + 1 + 1, 0, none⟩ (.slice (some ⟨r, 0, none⟩) G.length G.length)).setCell ⟨w.heap.size + 1 + 1, 1, none⟩ (.slice (some ⟨p0, 0, none⟩) G.length G.length)).setCell ⟨w.heap.size + 1 + 1, 2, none⟩ (.slice (some ⟨p1, 0, none⟩) G.length G.length)) := ((only_of_set _ _ _ _).trans (only_of_set _ _ _ _)).trans (only_of_set _ _ _ _)
  have HH : Has (((w4.setCell ⟨w.heap.size + 1 + 1, 0, none⟩ (.slice (some ⟨r, 0, none⟩) G.length G.length)).setCell ⟨w.heap.size + 1 + 1, 1, none⟩ (.slice (some ⟨p0, 0, none⟩) G.length G.length)).setCell ⟨w.heap.size + 1 + 1, 2, none⟩ (.slice (some ⟨p1, 0, none⟩) G.length G.length)) (w.heap.size + 1 + 1) #[.slice (some ⟨r, 0, none⟩) G.length G.length, .slice (some ⟨p0, 0, none⟩) G.length G.length, .slice (some ⟨p1, 0, none⟩) G.length G.length] := by simpa using ((RL.set 0 (by simp) (.slice (some ⟨r, 0, none⟩) G.length G.length)).set 1 (by simp) (.slice (some ⟨p0, 0, none⟩) G.length G.length)).set 2 (by simp) (.slice (some ⟨p1, 0, none⟩) G.length G.length)
  have bF := bel_only hbL O (Nat.le_refl _) (fun q hq h => by omega)
  have f1 := own_only2 a0 O (fun q hq h => by have e : r = q := (by injection hq); omega)
  have f2 := own_only2 a1 O (fun q hq h => by have e : p0 = q := (by injection hq); omega)
  have f3 := own_only2 a2 O (fun q hq h => by have e : p1 = q := (by injection hq); omega)
  generalize (((w4.setCell ⟨w.heap.size + 1 + 1, 0, none⟩ (.slice (some ⟨r, 0, none⟩) G.length G.length)).setCell ⟨w.heap.size + 1 + 1, 1, none⟩ (.slice (some ⟨p0, 0, none⟩) G.length G.length)).setCell ⟨w.heap.size + 1 + 1, 2, none⟩ (.slice (some ⟨p1, 0, none⟩) G.length G.length)) = WF at *
  obtain ⟨_, k1, _⟩ := id HH
  exact bodyPost_ret (v := .tuple #[.agg #[.slice (some ⟨r, 0, none⟩) G.length G.length, .slice (some ⟨p0, 0, none⟩) G.length G.length, .slice (some ⟨p1, 0, none⟩) G.length G.length], .int .i64 0]) (by simp [results, Try.results19, go_sem, k1]) rfl ⟨⟨r, p0, p1, rfl, own_base f1 hbK.size, own_base f2 hbK.size, own_base f3 hbK.size, n1, n2, n3⟩, bF⟩
end Go.Proofs.Ythflpnahifpdnaa
