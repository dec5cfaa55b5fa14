import Derived.Test.YtoaokpmnjppfcaaWaT
import Derived.Test.YtoaokpmnjppfcaaRows
import Derived.ProofKit
import Derived.OpenShut
import Derived.ChangeOld
import Derived.SizedLaws
import Derived.ChangeArms
import Derived.Deep.Slices
namespace Go.Proofs.Ytoaokpmnjppfcaa
open Go.ChangeShapes Go.WideShapes Go.ChangeAt Go.RowKit
set_option linter.unusedVariables false


theorem ownS : ownKnob Try.prog.godebug = none := by kernel_rfl
theorem laidOutS : laidOutB Try.prog = true := by kernel_rfl
def TxR (S : Nat → Prop) (w : World) (cs : List Value) (x : ByteArray) : Prop := cs = tx x ∧ True
theorem y9 : Try.prog.bytesOf 9 = 16 := by kernel_rfl
section
variable {H : Type} {enc : TypeId × Value → H} {W : World} {base n : Nat} {held : Bool} {cs : List Value} {y : DataW H × List MemPlace}
theorem tx_open (h : DataW.trod enc Try.prog W base (fun _ => true) held n 9 cs = some y) : ∃ a : ByteArray, cs.length = 1 ∧ TxR (fun _ => True) W cs a := by
  obtain ⟨s0, e0, _⟩ := DataW.trod_string Try.underlying9 h
  exact ⟨s0, by rw [e0]; rfl, e0, trivial⟩
theorem texts_open (h : DataW.trod enc Try.prog W base (fun _ => true) held n 47 cs = some y) (hw : WOk Try.prog 47 y.1) : ∃ v L, cs = [v] ∧ Fl 1 tx W v L ∧ L.length ≤ 8796093022000 := by
  obtain ⟨v0, A, e0, h0⟩ := rows_open (R := TxR) (sz := 1) (mx := 8796093022000) (by decide) Try.underlying47 k9 y9 (fun n hn => by unfold reachBytes at hn; omega) (fun _ _ _ h w => tx_open h) h hw
  obtain ⟨a1, a2, a3⟩ := rows_fl (ok := fun _ => True) (fun _ _ _ _ h => h) h0
  exact ⟨v0, A, e0, a1, a2⟩
end
set_option maxRecDepth 100000 in
theorem texts_arg {H : Type} {enc : TypeId × Value → H} {W : World} {base b0 : Nat} {held : Bool} {v : Value} {d : DataW H} {ps : List MemPlace} (h : DataW.Trod enc Try.prog W base (fun _ => true) held 47 v d ps) (hv : Value.okWide Try.prog W .any b0 47 v) (hw : WOk Try.prog 47 d) : (∃ L, Fl 1 tx W v L ∧ L.length ≤ 8796093022000) ∧ ∃ a l c, v = .slice a l c := by
  obtain ⟨a, l, c, rfl⟩ := okWide_slice Try.underlying47 hv
  obtain ⟨fuel, hf⟩ := h
  obtain ⟨v, L, e, r⟩ := texts_open hf hw
  simp [Value.cells] at e
  subst e
  exact ⟨⟨L, r⟩, _, _, _, rfl⟩
theorem fed_walk (G : List Gp) (C : List Cf) (T : List ByteArray) (vg vc vt : Value) (w : World) (h1 : Fl 5 Gp.cs w vg G) (h2 : Fl 4 Cf.cs w vc C) (h3 : Fl 1 tx w vt T) (hv : ∃ a l c, vt = .slice a l c) (lG : G.length ≤ 2932031007317) (lC : C.length ≤ 4398046511000) (lT : T.length ≤ 8796093022000) :
    Calls Try.prog 4 #[.agg #[vg, vc], vt] w fun e w' => e = .returned (.bool true) ∧ Below w.heap.size w w' := by
  cases hg : gridB G C with
  | false => exact fed_bad G C vg vc vt w h1 h2 hv lG lC hg
  | true => exact fed_good G C T vg vc vt w h1 h2 h3 lG lC lT hg
set_option maxRecDepth 100000 in
theorem lifted (os : Os) (started : os.Started) (H : Type) (enc : TypeId × Value → H) :
    ReturnsInHanded {} Try.checked os 4 .any (Rows.watchFedSpec.pre6 enc Try.prog Try.f4 Rows.watchFedRow.domain false) (Rows.watchFedSpec.post enc Try.prog Try.f4 false true false false) := by
  refine returnsInHanded_of_change_sized (C := Try.checked) ownS started (by kernel_rfl) Try.func4
    (ChangeSpec.witness6 (enc := enc) (C := Try.checked) false ⟨#[], #[.agg #[.slice none 0 0, .slice none 0 0], .slice none 0 0], []⟩ 8 (by kernel_rfl) (by kernel_rfl) (by kernel_rfl) (by kernel_rfl)) ?_
  intro W base args ds gs before hval0 hW hcnd hsz _
  have hval : ∀ (j : Nat) t v, Try.f4.params[j]? = some t → args[j]? = some v → Value.okWide Try.prog W .any base t v := hval0
  have hW' := hW
  obtain ⟨p, q, hA0, hV, rfl, hfz, hnd⟩ := hW
  have hA : DataW.TrodAll enc Try.prog W 0 (fun _ => true) true Try.f4.params.toList args.toList ds p := hA0
  rw [Try.params4] at hA hval hsz
  obtain ⟨v0, vs0, d0, ds0, p0, q0, hargs, rfl, rfl, h0, r0⟩ := trodAll_cons hA
  obtain ⟨v1, vs1, d1, ds1, p1, q1, rfl, rfl, rfl, h1, r1⟩ := trodAll_cons r0
  obtain ⟨rfl, rfl, rfl⟩ := trodAll_nil r1
  obtain rfl : args = #[v0, v1] := by cases args; simp_all
  obtain ⟨rfl, rfl⟩ := trodVars_none hV
  have k0 := h0
  have lt0 : ∀ x ∈ p0, x.block < W.heap.size := by obtain ⟨m, hm⟩ := k0; exact DataW.trod_lt m _ _ _ hm
  have k1 := h1
  have lt1 : ∀ x ∈ p1, x.block < W.heap.size := by obtain ⟨m, hm⟩ := k1; exact DataW.trod_lt m _ _ _ hm
  obtain ⟨G, C, vg, vc, rfl, hG, hC, lG, lC, okG, okC⟩ := tables_arg h0 (hval 0 25 v0 rfl rfl) (wok_of_each hsz (j := 0) rfl rfl)
  obtain ⟨⟨L, hL, lL⟩, hvt⟩ := texts_arg h1 (hval 1 47 v1 rfl rfl) (wok_of_each hsz (j := 1) rfl rfl)
  clear hA0 hval0
  refine (fed_walk G C L vg vc v1 W hG hC hL hvt lG lC lL).mono fun e W' ⟨he, bel⟩ => ?_
  subst he
  exact ⟨_, rfl, _, _, _, [], _, [], hW', trodAll_mk1 (shut_bool Try.underlying4 _), (trodAll_cons_mk (Below.trod laidOutS (by kernel_rfl) (of_decide_eq_true (by kernel_rfl)) k0 bel lt0) (trodAll_cons_mk (Below.trod laidOutS (by kernel_rfl) (of_decide_eq_true (by kernel_rfl)) k1 bel lt1) trodAll_mk0)), rfl, bel.frame _, fun h => by cases h⟩
theorem watchFed_holds : Rows.WatchFedSaid :=
  OpenClaim.holds_of_wide 4 Try.f4 rfl rfl rfl rfl rfl rfl rfl ⟨rfl, rfl, rfl, rfl, rfl⟩ rfl rfl rfl rfl rfl (by kernel_rfl) Try.func4 (by kernel_rfl)
    (of_decide_eq_true (by kernel_rfl)) (by unfold Func.isWrapper; first | (rw [if_pos (by decide +kernel)]; kernel_rfl) | (rw [if_neg (by decide +kernel)]; exact ⟨rfl, rfl⟩))
    (fun os started H enc _ => lifted os started H enc)
end Go.Proofs.Ytoaokpmnjppfcaa
