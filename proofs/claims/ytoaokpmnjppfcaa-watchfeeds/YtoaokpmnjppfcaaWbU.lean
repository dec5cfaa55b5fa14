import Derived.Test.YtoaokpmnjppfcaaRows
import Derived.ProofKit
import Derived.OpenShut
import Derived.ChangeOld
import Derived.SizedLaws
import Derived.ChangeArms
import Derived.Deep.Slices
import Derived.Test.YtoaokpmnjppfcaaWbQ
import Derived.Test.YtoaokpmnjppfcaaWbR
import Derived.Test.YtoaokpmnjppfcaaWbS
import Derived.Test.YtoaokpmnjppfcaaWbT
namespace Go.Proofs.Ytoaokpmnjppfcaa
open Go.ChangeShapes Go.WideShapes Go.ChangeAt Go.RowKit
set_option linter.unusedVariables false

theorem ownS : ownKnob Try.prog.godebug = none := by kernel_rfl
theorem laidOutS : laidOutB Try.prog = true := by kernel_rfl
def OqR (S : Nat → Prop) (w : World) (cs : List Value) (x : Oq) : Prop := cs = x.cs ∧ True
theorem k38 : Try.prog.cellsOf 38 = 3 := by kernel_rfl
theorem y38 : Try.prog.bytesOf 38 = 32 := by kernel_rfl
section
variable {H : Type} {enc : TypeId × Value → H} {W : World} {base n : Nat} {held : Bool} {cs : List Value} {y : DataW H × List MemPlace}
set_option maxRecDepth 100000 in
theorem op_open (h : DataW.trod enc Try.prog W base (fun _ => true) held n 38 cs = some y) : ∃ a : Oq, cs.length = 3 ∧ OqR (fun _ => True) W cs a := by
  obtain ⟨xs, k, _, _, hl, hlen, hf⟩ := DataW.trod_struct Try.underlying38 h
  rw [k38] at hl
  match cs, hl, xs, hlen with
  | [a0, a1, a2], _, [y0, y1, y2], _ =>
    have f0 : DataW.trod enc Try.prog W base (fun _ => true) held k 3 [a0] = some y0 := by simpa [k3] using hf 0 _ rfl
    have f1 : DataW.trod enc Try.prog W base (fun _ => true) held k 3 [a1] = some y1 := by simpa [k3] using hf 1 _ rfl
    have f2 : DataW.trod enc Try.prog W base (fun _ => true) held k 9 [a2] = some y2 := by simpa [k9] using hf 2 _ rfl
    obtain ⟨n1, e1, _, r1⟩ := DataW.trod_int Try.underlying3 f0
    obtain ⟨n2, e2, _, r2⟩ := DataW.trod_int Try.underlying3 f1
    obtain ⟨s0, e0, _⟩ := DataW.trod_string Try.underlying9 f2
    simp at e0 e1 e2
    subst e0 e1 e2
    exact ⟨⟨n1, n2, s0⟩, rfl, rfl, trivial⟩
theorem ops_open (h : DataW.trod enc Try.prog W base (fun _ => true) held n 26 cs = some y) (hw : WOk Try.prog 26 y.1) : ∃ v L, cs = [v] ∧ Fl 3 Oq.cs W v L ∧ L.length ≤ 4398046511000 := by
  haveI : Inhabited Oq := ⟨⟨0, 0, ⟨#[]⟩⟩⟩
  obtain ⟨v0, A, e0, h0⟩ := rows_open (R := OqR) (sz := 3) (mx := 4398046511000) (by decide) Try.underlying26 k38 y38 (fun n hn => by unfold reachBytes at hn; omega) (fun _ _ _ h w => op_open h) h hw
  obtain ⟨a1, a2, a3⟩ := rows_fl (ok := fun _ => True) (fun _ _ _ _ h => h) h0
  exact ⟨v0, A, e0, a1, a2⟩
end
set_option maxRecDepth 100000 in
theorem ops_arg {H : Type} {enc : TypeId × Value → H} {W : World} {base b0 : Nat} {held : Bool} {v : Value} {d : DataW H} {ps : List MemPlace} (h : DataW.Trod enc Try.prog W base (fun _ => true) held 26 v d ps) (hv : Value.okWide Try.prog W .any b0 26 v) (hw : WOk Try.prog 26 d) : (∃ L, Fl 3 Oq.cs W v L ∧ L.length ≤ 4398046511000) ∧ ∃ a l c, v = .slice a l c := by
  obtain ⟨a, l, c, rfl⟩ := okWide_slice Try.underlying26 hv
  obtain ⟨fuel, hf⟩ := h
  obtain ⟨v, L, e, r⟩ := ops_open hf hw
  simp [Value.cells] at e
  subst e
  exact ⟨⟨L, r⟩, _, _, _, rfl⟩
theorem feeds_walk (G G' : List Gp) (C C' : List Cf) (S : List Oq) (vg vc vg' vc' vs : Value) (w : World) (h1 : Fl 5 Gp.cs w vg G) (h2 : Fl 4 Cf.cs w vc C) (h3 : Fl 5 Gp.cs w vg' G') (h4 : Fl 4 Cf.cs w vc' C') (h5 : Fl 3 Oq.cs w vs S) (lG : G.length ≤ 2932031007317) (lC : C.length ≤ 4398046511000) (lG' : G'.length ≤ 2932031007317) (lC' : C'.length ≤ 4398046511000) (lS : S.length ≤ 4398046511000) :
    Calls Try.prog 3 #[.agg #[vg, vc], .agg #[vg', vc'], vs] w fun e w' => e = .returned (.bool true) ∧ Below w.heap.size w w' := by
  cases hg : gridB G C with
  | false =>
    cases hg' : gridB G' C' with
    | false => exact feeds_ff G G' C C' S vg vc vg' vc' vs w h1 h2 h3 h4 h5 lG lC lG' lC' lS hg hg'
    | true => exact feeds_ft G G' C C' S vg vc vg' vc' vs w h1 h2 h3 h4 h5 lG lC lG' lC' lS hg hg'
  | true =>
    cases hg' : gridB G' C' with
    | false => exact feeds_tf G G' C C' S vg vc vg' vc' vs w h1 h2 h3 h4 h5 lG lC lG' lC' lS hg hg'
    | true => exact feeds_tt G G' C C' S vg vc vg' vc' vs w h1 h2 h3 h4 h5 lG lC lG' lC' lS hg hg'
set_option maxRecDepth 100000 in
theorem lifted3 (os : Os) (started : os.Started) (H : Type) (enc : TypeId × Value → H) :
    ReturnsInHanded {} Try.checked os 3 .any (Rows.watchFeedsSpec.pre6 enc Try.prog Try.f3 Rows.watchFeedsRow.domain false) (Rows.watchFeedsSpec.post enc Try.prog Try.f3 false true false false) := by
  refine returnsInHanded_of_change_sized (C := Try.checked) ownS started (by kernel_rfl) Try.func3
    (ChangeSpec.witness6 (enc := enc) (C := Try.checked) false ⟨#[], #[.agg #[.slice none 0 0, .slice none 0 0], .agg #[.slice none 0 0, .slice none 0 0], .slice none 0 0], []⟩ 8 (by kernel_rfl) (by kernel_rfl) (by kernel_rfl) (by kernel_rfl)) ?_
  intro W base args ds gs before hval0 hW hcnd hsz _
  have hval : ∀ (j : Nat) t v, Try.f3.params[j]? = some t → args[j]? = some v → Value.okWide Try.prog W .any base t v := hval0
  have hW' := hW
  obtain ⟨p, q, hA0, hV, rfl, hfz, hnd⟩ := hW
  have hA : DataW.TrodAll enc Try.prog W 0 (fun _ => true) true Try.f3.params.toList args.toList ds p := hA0
  rw [Try.params3] at hA hval hsz
  obtain ⟨v0, vs0, d0, ds0, p0, q0, hargs, rfl, rfl, h0, r0⟩ := trodAll_cons hA
  obtain ⟨v1, vs1, d1, ds1, p1, q1, rfl, rfl, rfl, h1, r1⟩ := trodAll_cons r0
  obtain ⟨v2, vs2, d2, ds2, p2, q2, rfl, rfl, rfl, h2, r2⟩ := trodAll_cons r1
  obtain ⟨rfl, rfl, rfl⟩ := trodAll_nil r2
  obtain rfl : args = #[v0, v1, v2] := by cases args; simp_all
  obtain ⟨rfl, rfl⟩ := trodVars_none hV
  have k0 := h0
  have lt0 : ∀ x ∈ p0, x.block < W.heap.size := by obtain ⟨m, hm⟩ := k0; exact DataW.trod_lt m _ _ _ hm
  have k1 := h1
  have lt1 : ∀ x ∈ p1, x.block < W.heap.size := by obtain ⟨m, hm⟩ := k1; exact DataW.trod_lt m _ _ _ hm
  have k2 := h2
  have lt2 : ∀ x ∈ p2, x.block < W.heap.size := by obtain ⟨m, hm⟩ := k2; exact DataW.trod_lt m _ _ _ hm
  obtain ⟨G, C, vg, vc, rfl, hG, hC, lG, lC, okG, okC⟩ := tables_arg h0 (hval 0 25 v0 rfl rfl) (wok_of_each hsz (j := 0) rfl rfl)
  obtain ⟨G', C', vg', vc', rfl, hG', hC', lG', lC', okG', okC'⟩ := tables_arg h1 (hval 1 25 v1 rfl rfl) (wok_of_each hsz (j := 1) rfl rfl)
  obtain ⟨⟨L, hL, lL⟩, hvt⟩ := ops_arg h2 (hval 2 26 v2 rfl rfl) (wok_of_each hsz (j := 2) rfl rfl)
  clear hA0 hval0
  refine (feeds_walk G G' C C' L vg vc vg' vc' v2 W hG hC hG' hC' hL lG lC lG' lC' lL).mono fun e W' ⟨he, bel⟩ => ?_
  subst he
  exact ⟨_, rfl, _, _, _, [], _, [], hW', trodAll_mk1 (shut_bool Try.underlying4 _), (trodAll_cons_mk (Below.trod laidOutS (by kernel_rfl) (of_decide_eq_true (by kernel_rfl)) k0 bel lt0) (trodAll_cons_mk (Below.trod laidOutS (by kernel_rfl) (of_decide_eq_true (by kernel_rfl)) k1 bel lt1) (trodAll_cons_mk (Below.trod laidOutS (by kernel_rfl) (of_decide_eq_true (by kernel_rfl)) k2 bel lt2) trodAll_mk0))), rfl, bel.frame _, fun h => by cases h⟩
theorem watchFeeds_holds : Rows.WatchFeedsSaid :=
  OpenClaim.holds_of_wide 3 Try.f3 rfl rfl rfl rfl rfl rfl rfl ⟨rfl, rfl, rfl, rfl, rfl⟩ rfl rfl rfl rfl rfl (by kernel_rfl) Try.func3 (by kernel_rfl)
    (of_decide_eq_true (by kernel_rfl)) (by unfold Func.isWrapper; first | (rw [if_pos (by decide +kernel)]; kernel_rfl) | (rw [if_neg (by decide +kernel)]; exact ⟨rfl, rfl⟩))
    (fun os started H enc _ => lifted3 os started H enc)
end Go.Proofs.Ytoaokpmnjppfcaa
