import Derived.Test.YtbonmajnkbggcaaKtA
import Derived.Test.YtbonmajnkbggcaaRSo
import Derived.Deep.RegionHeld3
namespace Go.Proofs.Ytbonmajnkbggcaa
open Go.RowKit
set_option linter.unusedVariables false

set_option maxRecDepth 100000 in
set_option maxHeartbeats 4000000 in
theorem kept_bad1 (G : List Gp) (C : List Cf) (A I W : List Int) (Ms : List Nat) (vg vc v1 v2 v3 vm : Value) (w : World) (h1 : Fl 5 Gp.cs w vg G) (h2 : Fl 4 Cf.cs w vc C) (h3 : Fl 1 n64 w v1 A) (h4 : Fl 1 n32 w v2 I) (h5 : Fl 1 n32 w v3 W) (h6 : Fl 1 u64 w vm Ms) (lG : G.length ≤ 2932031007317) (lC : C.length ≤ 4398046511000) (lA : A.length ≤ 17592186044000) (lI : I.length ≤ 35184372088000) (lW : W.length ≤ 35184372088000) (lM : Ms.length ≤ 17592186044000) (okI : ∀ x ∈ I, inI32 x) (okW : ∀ x ∈ W, inI32 x) (hM : ∀ x ∈ Ms, x < 18446744073709551616) (hg : gridB G C = false) :
    Calls Try.prog 6 #[.agg #[vg, vc], .agg #[v1, v2, v3], vm] w fun e w' => e = .returned (.bool true) ∧ Below w.heap.size w w' := by
  have hsb : soundB G C A I W = false := by unfold soundB; simp [*]
  have hSo := fun (X : World) (hX : Below w.heap.size w X) => refSound_any G C A I W vg vc v1 v2 v3 X (h1.below hX) (h2.below hX) (h3.below hX) (h4.below hX) (h5.below hX) lG lC lA lI lW okI
  have hSd := fun (X : World) (hX : Below w.heap.size w X) => sound_any G C A I W vg vc v1 v2 v3 X (h1.below hX) (h2.below hX) (h3.below hX) (h4.below hX) (h5.below hX) lG lC lA lI lW okI
  rw [hsb] at hSo hSd
  have hSt := fun (X : World) (hX : Below w.heap.size w X) => step_bad1 G C A I W vg vc v1 v2 v3 0 X (h1.below hX) (h2.below hX) (h3.below hX) (h4.below hX) (h5.below hX) lG lC lA lI lW hg
  have hGd := fun (X : World) (hX : Below w.heap.size w X) => ref7Grid_any G C vg vc X (h1.below hX) (h2.below hX) lG lC
  rw [hg] at hGd
  obtain ⟨va, cg, rfl, kG⟩ := h1.any
  obtain ⟨vb, cc, rfl, -⟩ := h2.any
  obtain ⟨vA, cA, rfl, -⟩ := h3.any
  obtain ⟨vI, cI, rfl, -⟩ := h4.any
  obtain ⟨vW, cW, rfl, -⟩ := h5.any
  obtain ⟨am, cm, rfl, km⟩ := h6.nums
  have E0 : Has ((w.alloc (.cells #[.slice va G.length cg, .slice vb C.length cc] 25)).alloc (.cells #[.slice vA A.length cA, .slice vI I.length cI, .slice vW W.length cW] 37)) w.heap.size #[.slice va G.length cg, .slice vb C.length cc] := (Has.new _ _ _ rfl).alloc _
  have E1 : Has ((w.alloc (.cells #[.slice va G.length cg, .slice vb C.length cc] 25)).alloc (.cells #[.slice vA A.length cA, .slice vI I.length cI, .slice vW W.length cW] 37)) (w.heap.size + 1) #[.slice vA A.length cA, .slice vI I.length cI, .slice vW W.length cW] := Has.new _ _ _ (by simp)
  have hb0 : Below w.heap.size w ((w.alloc (.cells #[.slice va G.length cg, .slice vb C.length cc] 25)).alloc (.cells #[.slice vA A.length cA, .slice vI I.length cI, .slice vW W.length cW] 37)) := belA
  clear h1 h2 h3 h4 h5 h6 hsb hg
  go_enter Try.func6, Try.ntmps6
  go_upto_region 3 with (first
    | (go_at_call 23; (with_reducible refine Calls.mono (hSo _ (by exact hb0)) ?_); rintro e y1 ⟨rfl, hy1⟩; have hb1 := bel_after hb0 hb0.size hy1; have E2 := E0.below hy1; have E3 := E1.below hy1; obtain ⟨_, o2, _⟩ := id E2; obtain ⟨_, o3, _⟩ := id E3; clear hy1)
    | (go_at_call 19; (with_reducible refine Calls.mono (hSt _ (by exact hb1)) ?_); rintro e y2 ⟨rfl, hy2⟩; have hb2 := bel_after hb1 hb1.size hy2; have E4 := E2.below hy2; have E5 := E3.below hy2; clear hy2))
  have N0 : Has (y2.alloc (.cells #[.slice none 0 0, .slice none 0 0, .slice none 0 0] 37)) y2.heap.size #[.slice none 0 0, .slice none 0 0, .slice none 0 0] := Has.new _ _ _ rfl
  have hb3 := hb2.alloc hb2.size (.cells #[.slice none 0 0, .slice none 0 0, .slice none 0 0] 37)
  replace E4 := E4.alloc (.cells #[.slice none 0 0, .slice none 0 0, .slice none 0 0] 37)
  replace E5 := E5.alloc (.cells #[.slice none 0 0, .slice none 0 0, .slice none 0 0] 37)
  clear o2 o3 E2 E3 hb1 hb0 hb2 hSo hSt E0 E1
  generalize (y2.alloc (.cells #[.slice none 0 0, .slice none 0 0, .slice none 0 0] 37)) = Y at *
  generalize y2.heap.size = Nb at *
  obtain ⟨_, o4, _⟩ := id E4
  obtain ⟨_, o5, _⟩ := id E5
  obtain ⟨_, o6, _⟩ := id N0
  go_wp2_with (first
    | (go_at_call 24; (with_reducible refine Calls.mono (hSd _ (by exact hb3)) ?_); rintro e y3 ⟨rfl, hy3⟩; have hb4 := bel_after hb3 hb3.size hy3; have E6 := E4.below hy3; have N1 := N0.below hy3; obtain ⟨_, o7, _⟩ := id E6; obtain ⟨_, o8, _⟩ := id N1; clear hy3)
    | (go_at_call 21; (with_reducible refine Calls.mono (hGd _ (by exact hb4)) ?_); rintro e y4 ⟨rfl, hy4⟩; have hb5 := bel_after hb4 hb4.size hy4; have N2 := N1.below hy4; obtain ⟨_, o9, _⟩ := id N2; clear hy4))
  go_ret
  exact ⟨by first | rfl | (simp; done), hb5⟩
set_option maxRecDepth 100000 in
set_option maxHeartbeats 4000000 in
theorem kept_bad2 (G : List Gp) (C : List Cf) (A I W : List Int) (Ms : List Nat) (vg vc v1 v2 v3 vm : Value) (w : World) (h1 : Fl 5 Gp.cs w vg G) (h2 : Fl 4 Cf.cs w vc C) (h3 : Fl 1 n64 w v1 A) (h4 : Fl 1 n32 w v2 I) (h5 : Fl 1 n32 w v3 W) (h6 : Fl 1 u64 w vm Ms) (lG : G.length ≤ 2932031007317) (lC : C.length ≤ 4398046511000) (lA : A.length ≤ 17592186044000) (lI : I.length ≤ 35184372088000) (lW : W.length ≤ 35184372088000) (lM : Ms.length ≤ 17592186044000) (okI : ∀ x ∈ I, inI32 x) (okW : ∀ x ∈ W, inI32 x) (hM : ∀ x ∈ Ms, x < 18446744073709551616) (hg : gridB G C = true) (hf : fitsB G C A I W = false) :
    Calls Try.prog 6 #[.agg #[vg, vc], .agg #[v1, v2, v3], vm] w fun e w' => e = .returned (.bool true) ∧ Below w.heap.size w w' := by
  have hsb : soundB G C A I W = false := by unfold soundB; simp [*]
  have hSo := fun (X : World) (hX : Below w.heap.size w X) => refSound_any G C A I W vg vc v1 v2 v3 X (h1.below hX) (h2.below hX) (h3.below hX) (h4.below hX) (h5.below hX) lG lC lA lI lW okI
  have hSd := fun (X : World) (hX : Below w.heap.size w X) => sound_any G C A I W vg vc v1 v2 v3 X (h1.below hX) (h2.below hX) (h3.below hX) (h4.below hX) (h5.below hX) lG lC lA lI lW okI
  rw [hsb] at hSo hSd
  have hSt := fun (X : World) (hX : Below w.heap.size w X) => step_bad2 G C A I W vg vc v1 v2 v3 0 X (h1.below hX) (h2.below hX) (h3.below hX) (h4.below hX) (h5.below hX) lG lC lA lI lW okI hg hf
  have hGd := fun (X : World) (hX : Below w.heap.size w X) => ref7Grid_any G C vg vc X (h1.below hX) (h2.below hX) lG lC
  rw [hg] at hGd
  obtain ⟨va, cg, rfl, kG⟩ := h1.any
  obtain ⟨vb, cc, rfl, -⟩ := h2.any
  obtain ⟨vA, cA, rfl, -⟩ := h3.any
  obtain ⟨vI, cI, rfl, -⟩ := h4.any
  obtain ⟨vW, cW, rfl, -⟩ := h5.any
  obtain ⟨am, cm, rfl, km⟩ := h6.nums
  have E0 : Has ((w.alloc (.cells #[.slice va G.length cg, .slice vb C.length cc] 25)).alloc (.cells #[.slice vA A.length cA, .slice vI I.length cI, .slice vW W.length cW] 37)) w.heap.size #[.slice va G.length cg, .slice vb C.length cc] := (Has.new _ _ _ rfl).alloc _
  have E1 : Has ((w.alloc (.cells #[.slice va G.length cg, .slice vb C.length cc] 25)).alloc (.cells #[.slice vA A.length cA, .slice vI I.length cI, .slice vW W.length cW] 37)) (w.heap.size + 1) #[.slice vA A.length cA, .slice vI I.length cI, .slice vW W.length cW] := Has.new _ _ _ (by simp)
  have hb0 : Below w.heap.size w ((w.alloc (.cells #[.slice va G.length cg, .slice vb C.length cc] 25)).alloc (.cells #[.slice vA A.length cA, .slice vI I.length cI, .slice vW W.length cW] 37)) := belA
  clear h1 h2 h3 h4 h5 h6 hsb hg
  go_enter Try.func6, Try.ntmps6
  go_upto_region 3 with (first
    | (go_at_call 23; (with_reducible refine Calls.mono (hSo _ (by exact hb0)) ?_); rintro e y1 ⟨rfl, hy1⟩; have hb1 := bel_after hb0 hb0.size hy1; have E2 := E0.below hy1; have E3 := E1.below hy1; obtain ⟨_, o2, _⟩ := id E2; obtain ⟨_, o3, _⟩ := id E3; clear hy1)
    | (go_at_call 19; (with_reducible refine Calls.mono (hSt _ (by exact hb1)) ?_); rintro e y2 ⟨rfl, hy2⟩; have hb2 := bel_after hb1 hb1.size hy2; have E4 := E2.below hy2; have E5 := E3.below hy2; clear hy2))
  have N0 : Has (y2.alloc (.cells #[.slice none 0 0, .slice none 0 0, .slice none 0 0] 37)) y2.heap.size #[.slice none 0 0, .slice none 0 0, .slice none 0 0] := Has.new _ _ _ rfl
  have hb3 := hb2.alloc hb2.size (.cells #[.slice none 0 0, .slice none 0 0, .slice none 0 0] 37)
  replace E4 := E4.alloc (.cells #[.slice none 0 0, .slice none 0 0, .slice none 0 0] 37)
  replace E5 := E5.alloc (.cells #[.slice none 0 0, .slice none 0 0, .slice none 0 0] 37)
  clear o2 o3 E2 E3 hb1 hb0 hb2 hSo hSt E0 E1
  generalize (y2.alloc (.cells #[.slice none 0 0, .slice none 0 0, .slice none 0 0] 37)) = Y at *
  generalize y2.heap.size = Nb at *
  obtain ⟨_, o4, _⟩ := id E4
  obtain ⟨_, o5, _⟩ := id E5
  obtain ⟨_, o6, _⟩ := id N0
  go_wp2_with (first
    | (go_at_call 24; (with_reducible refine Calls.mono (hSd _ (by exact hb3)) ?_); rintro e y3 ⟨rfl, hy3⟩; have hb4 := bel_after hb3 hb3.size hy3; have E6 := E4.below hy3; have N1 := N0.below hy3; obtain ⟨_, o7, _⟩ := id E6; obtain ⟨_, o8, _⟩ := id N1; clear hy3)
    | (go_at_call 21; (with_reducible refine Calls.mono (hGd _ (by exact hb4)) ?_); rintro e y4 ⟨rfl, hy4⟩; have hb5 := bel_after hb4 hb4.size hy4; have N2 := N1.below hy4; obtain ⟨_, o9, _⟩ := id N2; clear hy4))
  go_ret
  exact ⟨by first | rfl | (simp; done), hb5⟩
end Go.Proofs.Ytbonmajnkbggcaa
