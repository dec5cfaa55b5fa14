import Derived.Test.YtiaklfjpmmifjaaRfB
namespace Go.Proofs.Ytiaklfjpmmifjaa
open Go.RowKit
set_option linter.unusedVariables false


def spanV (G : List Gp) (C : List Cf) (F T : Nat) (all : Bool) : Int × Int := if gridB G C = true then (if ((clashF G.length F C).2.2 || (clashF G.length T C).2.2) = true then (0, 60) else (mvF G C F T all G 0 0, 0)) else (0, 70)

set_option maxRecDepth 100000 in
set_option maxHeartbeats 4000000 in
theorem refSpan_any (G : List Gp) (C : List Cf) (vg vc : Value) (F T : Nat) (w : World) (hF : F < 18446744073709551616) (hT : T < 18446744073709551616) (h1 : Fl 5 Gp.cs w vg G) (h2 : Fl 4 Cf.cs w vc C) (lG : G.length ≤ 2932031007317) (lC : C.length ≤ 4398046511000) (ok : ∀ (i : Nat) (h : i < C.length), C[i].ok) :
    Calls Try.prog 22 #[.agg #[vg, vc], .int .u64 (F : Int), .int .u64 (T : Int)] w fun e w' => e = .returned (.tuple #[.int .i64 (spanV G C F T false).1, .int .i64 (spanV G C F T false).2]) ∧ Below w.heap.size w w' := by
  have hGr := fun (W : World) (hW : Below w.heap.size w W) => refGrid_any G C vg vc W (h1.below hW) (h2.below hW) lG lC
  have hMv := fun (gr : gridB G C = true) (W : World) (hW : Below w.heap.size w W) => move_any G C vg vc F T false W hF hT (h1.below hW) (h2.below hW) lG lC gr
  obtain ⟨va, cg, rfl, -⟩ := h1.any
  have hCl := fun (W : World) (hW : Below w.heap.size w W) => clashes2_any G.length C va cg vc F T W hF hT lG (h2.below hW) lC ok
  clear h1 h2 ok
  cases eg : gridB G C with
  | false =>
    have eV : spanV G C F T false = (0, 70) := by simp [spanV, eg]
    rw [eg] at hGr
    rw [eV]
    clear eV eg hMv hCl
    go_enter Try.func22, Try.ntmps22
    go_wp2_with (go_at_call 15; (with_reducible refine Calls.mono (hGr _ (by exact belN1)) ?_); rintro e w1 ⟨rfl, hb1⟩; have B1 : Has w1 w.heap.size #[.slice va G.length cg, vc] := (Has.new w _ _ rfl).below hb1; have hbM := bel_after belN1 (by simp) hb1; obtain ⟨_, y1, _⟩ := id B1; clear hb1)
    exact bodyPost_ret (v := .tuple #[.int .i64 0, .int .i64 70]) (by simp [results, Try.results22, go_sem]) rfl ⟨rfl, hbM⟩
  | true =>
    replace hMv := hMv eg
    rw [eg] at hGr
    cases ec : ((clashF G.length F C).2.2 || (clashF G.length T C).2.2) with
    | true =>
      have eV : spanV G C F T false = (0, 60) := by simp only [spanV, eg, ec]; rfl
      rw [ec] at hCl
      rw [eV]
      clear eV eg ec hMv
      go_enter Try.func22, Try.ntmps22
      go_wp2_with (first | (go_at_call 15; (with_reducible refine Calls.mono (hGr _ (by exact belN1)) ?_); rintro e w1 ⟨rfl, hb1⟩; have B1 : Has w1 w.heap.size #[.slice va G.length cg, vc] := (Has.new w _ _ rfl).below hb1; have hbM := bel_after belN1 (by simp) hb1; obtain ⟨_, y1, _⟩ := id B1; clear hb1) | (go_at_call 31; (with_reducible refine Calls.mono (hCl _ hbM) ?_); rintro e w2 ⟨rfl, hb2⟩; have B2 := B1.below hb2; have hbK := bel_after hbM hbM.size hb2; obtain ⟨_, y2, _⟩ := id B2; clear hb2))
      exact bodyPost_ret (v := .tuple #[.int .i64 0, .int .i64 60]) (by simp [results, Try.results22, go_sem]) rfl ⟨rfl, hbK⟩
    | false =>
      have eV : spanV G C F T false = (mvF G C F T false G 0 0, 0) := by simp only [spanV, eg, ec]; rfl
      rw [ec] at hCl
      rw [eV]
      clear eV eg ec
      generalize mvF G C F T false G 0 0 = A at *
      go_enter Try.func22, Try.ntmps22
      go_wp2_with (first | (go_at_call 15; (with_reducible refine Calls.mono (hGr _ (by exact belN1)) ?_); rintro e w1 ⟨rfl, hb1⟩; have B1 : Has w1 w.heap.size #[.slice va G.length cg, vc] := (Has.new w _ _ rfl).below hb1; have hbM := bel_after belN1 (by simp) hb1; obtain ⟨_, y1, _⟩ := id B1; clear hb1) | (go_at_call 31; (with_reducible refine Calls.mono (hCl _ hbM) ?_); rintro e w2 ⟨rfl, hb2⟩; have B2 := B1.below hb2; have hbK := bel_after hbM hbM.size hb2; obtain ⟨_, y2, _⟩ := id B2; clear hb2) | (go_at_call 32; (with_reducible refine Calls.mono (hMv _ hbK) ?_); rintro e w3 ⟨rfl, hb3⟩; have hbL := bel_after hbK hbK.size hb3; clear hb3))
      exact bodyPost_ret (v := .tuple #[.int .i64 A, .int .i64 0]) (by simp [results, Try.results22, go_sem]) rfl ⟨rfl, hbL⟩

set_option maxRecDepth 100000 in
set_option maxHeartbeats 4000000 in
theorem refLongest_any (G : List Gp) (C : List Cf) (vg vc : Value) (F T : Nat) (w : World) (hF : F < 18446744073709551616) (hT : T < 18446744073709551616) (h1 : Fl 5 Gp.cs w vg G) (h2 : Fl 4 Cf.cs w vc C) (lG : G.length ≤ 2932031007317) (lC : C.length ≤ 4398046511000) (ok : ∀ (i : Nat) (h : i < C.length), C[i].ok) :
    Calls Try.prog 23 #[.agg #[vg, vc], .int .u64 (F : Int), .int .u64 (T : Int)] w fun e w' => e = .returned (.tuple #[.int .i64 (spanV G C F T true).1, .int .i64 (spanV G C F T true).2]) ∧ Below w.heap.size w w' := by
  have hGr := fun (W : World) (hW : Below w.heap.size w W) => refGrid_any G C vg vc W (h1.below hW) (h2.below hW) lG lC
  have hMv := fun (gr : gridB G C = true) (W : World) (hW : Below w.heap.size w W) => move_any G C vg vc F T true W hF hT (h1.below hW) (h2.below hW) lG lC gr
  obtain ⟨va, cg, rfl, -⟩ := h1.any
  have hCl := fun (W : World) (hW : Below w.heap.size w W) => clashes2_any G.length C va cg vc F T W hF hT lG (h2.below hW) lC ok
  clear h1 h2 ok
  cases eg : gridB G C with
  | false =>
    have eV : spanV G C F T true = (0, 70) := by simp [spanV, eg]
    rw [eg] at hGr
    rw [eV]
    clear eV eg hMv hCl
    go_enter Try.func23, Try.ntmps23
    go_wp2_with (go_at_call 15; (with_reducible refine Calls.mono (hGr _ (by exact belN1)) ?_); rintro e w1 ⟨rfl, hb1⟩; have B1 : Has w1 w.heap.size #[.slice va G.length cg, vc] := (Has.new w _ _ rfl).below hb1; have hbM := bel_after belN1 (by simp) hb1; obtain ⟨_, y1, _⟩ := id B1; clear hb1)
    exact bodyPost_ret (v := .tuple #[.int .i64 0, .int .i64 70]) (by simp [results, Try.results23, go_sem]) rfl ⟨rfl, hbM⟩
  | true =>
    replace hMv := hMv eg
    rw [eg] at hGr
    cases ec : ((clashF G.length F C).2.2 || (clashF G.length T C).2.2) with
    | true =>
      have eV : spanV G C F T true = (0, 60) := by simp only [spanV, eg, ec]; rfl
      rw [ec] at hCl
      rw [eV]
      clear eV eg ec hMv
      go_enter Try.func23, Try.ntmps23
      go_wp2_with (first | (go_at_call 15; (with_reducible refine Calls.mono (hGr _ (by exact belN1)) ?_); rintro e w1 ⟨rfl, hb1⟩; have B1 : Has w1 w.heap.size #[.slice va G.length cg, vc] := (Has.new w _ _ rfl).below hb1; have hbM := bel_after belN1 (by simp) hb1; obtain ⟨_, y1, _⟩ := id B1; clear hb1) | (go_at_call 31; (with_reducible refine Calls.mono (hCl _ hbM) ?_); rintro e w2 ⟨rfl, hb2⟩; have B2 := B1.below hb2; have hbK := bel_after hbM hbM.size hb2; obtain ⟨_, y2, _⟩ := id B2; clear hb2))
      exact bodyPost_ret (v := .tuple #[.int .i64 0, .int .i64 60]) (by simp [results, Try.results23, go_sem]) rfl ⟨rfl, hbK⟩
    | false =>
      have eV : spanV G C F T true = (mvF G C F T true G 0 0, 0) := by simp only [spanV, eg, ec]; rfl
      rw [ec] at hCl
      rw [eV]
      clear eV eg ec
      generalize mvF G C F T true G 0 0 = A at *
      go_enter Try.func23, Try.ntmps23
      go_wp2_with (first | (go_at_call 15; (with_reducible refine Calls.mono (hGr _ (by exact belN1)) ?_); rintro e w1 ⟨rfl, hb1⟩; have B1 : Has w1 w.heap.size #[.slice va G.length cg, vc] := (Has.new w _ _ rfl).below hb1; have hbM := bel_after belN1 (by simp) hb1; obtain ⟨_, y1, _⟩ := id B1; clear hb1) | (go_at_call 31; (with_reducible refine Calls.mono (hCl _ hbM) ?_); rintro e w2 ⟨rfl, hb2⟩; have B2 := B1.below hb2; have hbK := bel_after hbM hbM.size hb2; obtain ⟨_, y2, _⟩ := id B2; clear hb2) | (go_at_call 32; (with_reducible refine Calls.mono (hMv _ hbK) ?_); rintro e w3 ⟨rfl, hb3⟩; have hbL := bel_after hbK hbK.size hb3; clear hb3))
      exact bodyPost_ret (v := .tuple #[.int .i64 A, .int .i64 0]) (by simp [results, Try.results23, go_sem]) rfl ⟨rfl, hbL⟩
end Go.Proofs.Ytiaklfjpmmifjaa
