import Derived.Test.YthflpnahifpdnaaRuM
import Derived.Deep.RegionHeld3
namespace Go.Proofs.Ythflpnahifpdnaa
open Go.RowKit
set_option linter.unusedVariables false

set_option maxRecDepth 100000 in
set_option maxHeartbeats 4000000 in
theorem run_bad (G : List Gp) (C : List Cf) (vg vc : Value) (am : Option Addr) (nm cm : Nat) (w : World) (h1 : Fl 5 Gp.cs w vg G) (h2 : Fl 4 Cf.cs w vc C) (lG : G.length ≤ 2932031007317) (lC : C.length ≤ 4398046511000) (hg : gridB G C = false) :
    Calls Try.prog 22 #[.agg #[vg, vc], .slice am nm cm] w fun e w' => e = .returned (.tuple #[.slice none 0 0, .int .i64 70]) ∧ Below w.heap.size w w' := by
  have hSt := fun (X : World) (hX : Below w.heap.size w X) => start_bad G C vg vc X (h1.below hX) (h2.below hX) lG lC hg
  obtain ⟨va, cg, rfl, -⟩ := h1.any
  obtain ⟨vb, cc, rfl, -⟩ := h2.any
  have B0 : Has (w.alloc (.cells #[.slice va G.length cg, .slice vb C.length cc] 25)) w.heap.size #[.slice va G.length cg, .slice vb C.length cc] := Has.new _ _ _ rfl
  have hb0 : Below w.heap.size w (w.alloc (.cells #[.slice va G.length cg, .slice vb C.length cc] 25)) := belN1
  clear h1 h2 hg
  go_enter Try.func22, Try.ntmps22
  go_wp2_with (go_at_call 16; (with_reducible refine Calls.mono (hSt _ (by exact hb0)) ?_); rintro e w2 ⟨rfl, hb2⟩; have hbM := bel_after hb0 hb0.size hb2; have R0 : Has (w2.alloc (.cells #[.slice none 0 0, .slice none 0 0, .slice none 0 0] 37)) w2.heap.size #[.slice none 0 0, .slice none 0 0, .slice none 0 0] := Has.new _ _ _ rfl; obtain ⟨_, r1, r2⟩ := id R0; have hbN := hbM.alloc hbM.size (.cells #[.slice none 0 0, .slice none 0 0, .slice none 0 0] 37); have zs := hbM.size; clear hb2)
  exact bodyPost_ret (v := .tuple #[.slice none 0 0, .int .i64 70]) (by simp [results, Try.results22, go_sem]) rfl ⟨rfl, hbN⟩
end Go.Proofs.Ythflpnahifpdnaa
