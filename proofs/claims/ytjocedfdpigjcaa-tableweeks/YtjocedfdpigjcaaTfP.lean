import Derived.Test.YtjocedfdpigjcaaTfL
import Derived.Test.YtjocedfdpigjcaaTfJ
import Derived.Test.YtjocedfdpigjcaaTeH
import Derived.Test.YtjocedfdpigjcaaRows
import Derived.ProofKit
import Derived.OpenShut
import Derived.ChangeOld
import Derived.SizedLaws
import Derived.ChangeArms
import Derived.Deep.Slices
namespace Go.Proofs.Ytjocedfdpigjcaa
open Go.ChangeShapes Go.WideShapes Go.ChangeAt Go.RowKit
set_option linter.unusedVariables false
set_option linter.unusedSimpArgs false

def IntR (S : Nat → Prop) (w : World) (cs : List Value) (x : Int) : Prop := cs = Int.cs x ∧ (Lit.int .i64 x).wf = true
theorem kc3' : Try.prog.cellsOf 3 = 1 := by kernel_rfl
theorem yb3' : Try.prog.bytesOf 3 = 8 := by kernel_rfl
theorem int_open {H : Type} {enc : TypeId × Value → H} {W : World} {base n : Nat} {held : Bool} {cs : List Value} {y : DataW H × List MemPlace} (h : DataW.trod enc Try.prog W base (fun _ => true) held n 3 cs = some y) : ∃ a : Int, cs.length = 1 ∧ IntR (fun _ => True) W cs a := by
  obtain ⟨n0, e0, _, r0⟩ := DataW.trod_int Try.underlying3 h
  subst e0
  exact ⟨n0, rfl, rfl, r0⟩
set_option maxRecDepth 100000 in
theorem ints_arg {H : Type} {enc : TypeId × Value → H} {W : World} {base : Nat} {held : Bool} {v : Value} {d : DataW H} {ps : List MemPlace} {b0 : Nat} (h : DataW.Trod enc Try.prog W base (fun _ => true) held 22 v d ps) (hok : Value.okWide Try.prog W .any b0 22 v) (hw : WOk Try.prog 22 d) : ∃ (L : List Int) (a : Option Addr) (c : Nat), v = .slice a L.length c ∧ ChP W L a := by
  obtain ⟨a0, len0, cap0, rfl⟩ := okWide_slice Try.underlying22 hok
  obtain ⟨fuel, hf⟩ := h
  obtain ⟨v', L, e, hR⟩ := rows_open (R := IntR) (sz := 1) (mx := 17592186044416) (by decide) Try.underlying22 kc3' yb3' (fun n hn => by unfold reachBytes at hn; omega) (fun _ _ _ h _ => int_open h) hf hw
  have hv : Value.slice a0 len0 cap0 = v' := by simpa [Value.cells] using e
  obtain ⟨p1, p2, p3⟩ := rows_fl (cs := Int.cs) (fun _ _ _ _ h => h) hR
  obtain ⟨a, c, rfl, hx⟩ := p1.any
  refine ⟨L, a, c, hv, p2, ?_, ?_⟩
  · intro i hi
    have := p3 i hi
    simp only [Lit.wf, Bool.and_eq_true, decide_eq_true_eq] at this
    exact this
  · rcases hx with e | ⟨g, o, e1, e2, e3⟩
    · exact .inl e
    · refine .inr ⟨g, o, e1, e2, fun i hi => ?_⟩
      have := e3 i hi 0 _ rfl
      simpa using this
theorem ownS : ownKnob Try.prog.godebug = none := by kernel_rfl
theorem laidOutS : laidOutB Try.prog = true := by kernel_rfl
set_option maxRecDepth 100000 in
theorem lifted (os : Os) (started : os.Started) (H : Type) (enc : TypeId × Value → H) :
    ReturnsInHanded {} Try.checked os 3 .any (Rows.tableWeeksSpec.pre6 enc Try.prog Try.f3 Rows.tableWeeksRow.domain false) (Rows.tableWeeksSpec.post enc Try.prog Try.f3 false true false false) := by
  refine returnsInHanded_of_change_sized (C := Try.checked) ownS started (by kernel_rfl) Try.func3
    (ChangeSpec.witness6 (enc := enc) (C := Try.checked) false ⟨#[], #[.slice none 0 0, .int .i64 0], []⟩ 8 (by kernel_rfl) (by kernel_rfl) (by kernel_rfl) (by kernel_rfl)) ?_
  intro W base args ds gs before hval0 hW hcnd hsz _
  have hval : ∀ (j : Nat) t v, Try.f3.params[j]? = some t → args[j]? = some v → Value.okWide Try.prog W .any base t v := hval0
  have hW' := hW
  obtain ⟨p, q, hA0, hV, rfl, hfz, hnd⟩ := hW
  have hA : DataW.TrodAll enc Try.prog W 0 (fun _ => true) true Try.f3.params.toList args.toList ds p := hA0
  rw [Try.params3] at hA hval hsz
  obtain ⟨v0, vs0, d0, ds0, p0, q0, hargs, rfl, rfl, h0, r0⟩ := trodAll_cons hA
  obtain ⟨v1, vs1, d1, ds1, p1, q1, rfl, rfl, rfl, h1, r1⟩ := trodAll_cons r0
  obtain ⟨rfl, rfl, rfl⟩ := trodAll_nil r1
  obtain rfl : args = #[v0, v1] := by cases args; simp_all
  obtain ⟨rfl, rfl⟩ := trodVars_none hV
  have k0 := h0
  have lt0 : ∀ x ∈ p0, x.block < W.heap.size := by obtain ⟨m, hm⟩ := k0; exact DataW.trod_lt m _ _ _ hm
  have k1 := h1
  have lt1 : ∀ x ∈ p1, x.block < W.heap.size := by obtain ⟨m, hm⟩ := k1; exact DataW.trod_lt m _ _ _ hm
  obtain ⟨L, a, c, rfl, hL⟩ := ints_arg h0 (hval 0 22 v0 rfl rfl) (wok_of_each hsz (j := 0) rfl rfl)
  obtain ⟨mi, rfl⟩ := okWide_int Try.underlying3 (hval 1 3 v1 rfl rfl)
  have hmi : (Lit.int .i64 mi).wf = true := (by obtain ⟨fu, hfu⟩ := k1; obtain ⟨n0, e0, _, r0⟩ := DataW.trod_int Try.underlying3 hfu; simp [Value.cells] at e0; subst e0; exact r0)
  simp only [Lit.wf, Bool.and_eq_true, decide_eq_true_eq] at hmi
  clear hA0 hval0
  refine (weeks_law L a c mi W (make_any L a c W hL) hmi.1 hmi.2).mono fun e W' ⟨he, bel⟩ => ?_
  subst he
  exact ⟨_, rfl, _, _, _, [], _, [], hW', trodAll_mk1 (shut_bool Try.underlying4 _), (trodAll_cons_mk (Below.trod laidOutS (by kernel_rfl) (of_decide_eq_true (by kernel_rfl)) k0 bel lt0) (trodAll_cons_mk (Below.trod laidOutS (by kernel_rfl) (of_decide_eq_true (by kernel_rfl)) k1 bel lt1) trodAll_mk0)), rfl, bel.frame _, fun h => by cases h⟩
theorem tableWeeks_holds : Rows.TableWeeksSaid :=
  OpenClaim.holds_of_wide 3 Try.f3 rfl rfl rfl rfl rfl rfl rfl ⟨rfl, rfl, rfl, rfl, rfl⟩ rfl rfl rfl rfl rfl (by kernel_rfl) Try.func3 (by kernel_rfl)
    (of_decide_eq_true (by kernel_rfl)) (by unfold Func.isWrapper; first | (rw [if_pos (by decide +kernel)]; kernel_rfl) | (rw [if_neg (by decide +kernel)]; exact ⟨rfl, rfl⟩))
    (fun os started H enc _ => lifted os started H enc)
#print axioms tableWeeks_holds
end Go.Proofs.Ytjocedfdpigjcaa
