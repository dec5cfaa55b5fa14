import Derived.Deep.Slices
import Derived.ProofKit
import Derived.LaidMore
import Derived.OpenShut
import Derived.ShutString
import Derived.ChangeArms
import Derived.ChangeOld
import Derived.SizedLaws
import Derived.Stop.Joined
import Derived.Stop.LaidErr
import Derived.Lib.LaidTab
import Derived.WalkSmall
import Derived.Test.YtcajejfddfiidaaDoorThC
import Derived.Test.YtcajejfddfiidaaDoorDrZ
import Derived.Test.YtcajejfddfiidaaDoorOpn
import Derived.Test.YtcajejfddfiidaaDoorCards
import Derived.Test.YtcajejfddfiidaaDoorTie
namespace Go.Proofs.YtcajejfddfiidaaDoor
open Go.ChangeShapes Go.WideShapes Go.ChangeAt Go.RowKit
open Go.ChangeMaps (open_string shut_string)
set_option linter.unusedVariables false
set_option linter.unusedSimpArgs false

theorem k3 : Tryd.prog.cellsOf 3 = 1 := by kernel_rfl
theorem k34 : Tryd.prog.cellsOf 34 = 2 := by kernel_rfl
theorem y34 : Tryd.prog.bytesOf 34 = 24 := by kernel_rfl
theorem rows_impW {α : Type} {sz mx : Nat} {R R2 : (Nat → Prop) → World → List Value → α → Prop} {Q : α → Prop} {S : Nat → Prop} {w : World} {v : Value} {L : List α} (hR : ∀ cs x, R S w cs x → R2 S w cs x ∧ Q x) (h : Rows sz mx R S w v L) : Rows sz mx R2 S w v L ∧ ∀ x ∈ L, Q x := by
  rcases h with ⟨h1, h2⟩ | ⟨ad, cap, rfl, hc, hm', h | ⟨hs, hS, hg, hx⟩⟩
  · exact ⟨.inl ⟨h1, h2⟩, fun x hx => by rw [h2] at hx; cases hx⟩
  · exact ⟨.inr ⟨ad, cap, rfl, hc, hm', .inl h⟩, fun x hx => by rw [h] at hx; cases hx⟩
  · refine ⟨.inr ⟨ad, cap, rfl, hc, hm', .inr ⟨hs, hS, hg, fun i hi => ?_⟩⟩, fun x hx' => ?_⟩
    · obtain ⟨cs, a, b, c⟩ := hx i hi
      exact ⟨cs, a, (hR _ _ b).1, c⟩
    · obtain ⟨i, hi, rfl⟩ := List.getElem_of_mem hx'
      obtain ⟨cs, a, b, c⟩ := hx i hi
      exact (hR _ _ b).2
theorem fl_rowsW {α : Type} {sz mx : Nat} {cs : α → List Value} {S : Nat → Prop} {w : World} {v : Value} {L : List α} (h : Rows sz mx (fun _ _ c x => c = cs x) S w v L) : Fl sz cs w v L ∧ L.length ≤ mx := by
  refine ⟨?_, Rows.le h⟩
  rcases h with ⟨h1, h2⟩ | ⟨ad, cap, rfl, hc, hm', h | ⟨hs, hS, hg, hx⟩⟩
  · exact .inl ⟨h1, h2⟩
  · exact .inr ⟨ad, cap, rfl, hc, .inl h⟩
  · refine .inr ⟨ad, cap, rfl, hc, .inr ⟨hs, hg, fun i hi j u hu => ?_⟩⟩
    obtain ⟨c, _, b, d⟩ := hx i hi
    exact d j u (by rw [b]; exact hu)
def EnR (S : Nat → Prop) (w : World) (c : List Value) (x : En) : Prop := c = x.cs
section
variable {H : Type} {enc : TypeId × Value → H} {W : World} {base n : Nat} {held : Bool} {cs : List Value} {y : DataW H × List MemPlace}
set_option maxRecDepth 100000 in
theorem entry_openS (h : DataW.trod enc Tryd.prog W base (fun _ => true) held n 34 cs = some y) (hw : WOk Tryd.prog 34 y.1) : ∃ a : En, cs.length = 2 ∧ (EnR (fun _ => True) W cs a ∧ a.heads.size ≤ 140737488355328) := by
  obtain ⟨xs, k, _, hy, hl, hlen, hf⟩ := DataW.trod_struct Tryd.underlying34 h
  subst hy
  rw [k34] at hl
  match cs, hl, xs, hlen with
  | [a0, a1], _, [y0, y1], _ =>
    have f0 : DataW.trod enc Tryd.prog W base (fun _ => true) held k 9 [a0] = some y0 := by simpa [c9] using hf 0 _ rfl
    have f1 : DataW.trod enc Tryd.prog W base (fun _ => true) held k 3 [a1] = some y1 := by simpa [k3] using hf 1 _ rfl
    obtain ⟨s0, e0, d0, _⟩ := DataW.trod_string Tryd.underlying9 f0
    have w0 := hw.field Tryd.underlying34 (j := 0) (d := y0.1) rfl rfl
    rw [d0] at w0
    obtain ⟨n1, e1, _⟩ := DataW.trod_int Tryd.underlying3 f1
    simp at e0 e1
    subst e0 e1
    exact ⟨⟨s0, n1⟩, rfl, rfl, sm_of w0⟩
theorem entries_rowsS (h : DataW.trod enc Tryd.prog W base (fun _ => true) held n 28 cs = some y) (hw : WOk Tryd.prog 28 y.1) : ∃ v L, cs = [v] ∧ Rows 2 5864062014805 EnR (fun _ => True) W v L ∧ (∀ x ∈ L, x.heads.size ≤ 140737488355328) := by
  haveI := (⟨⟨⟨#[]⟩, 0⟩⟩ : Inhabited En)
  obtain ⟨v, L, e, r⟩ := rows_open (mx := 5864062014805) (R := fun S w cs x => EnR S w cs x ∧ (x.heads.size ≤ 140737488355328)) (sz := 2) (by decide) Tryd.underlying28 k34 y34 (fun n hn => by unfold reachBytes at hn; omega) (fun _ _ _ h w => entry_openS h w) h hw
  obtain ⟨r1, r2⟩ := rows_impW (R2 := EnR) (fun _ _ h => h) r
  exact ⟨v, L, e, r1, r2⟩
end
end Go.Proofs.YtcajejfddfiidaaDoor
namespace Go.Proofs.YtcajejfddfiidaaDoor.driverThere
open Go.ChangeShapes Go.WideShapes Go.ChangeAt Go.RowKit
set_option linter.unusedVariables false
set_option maxRecDepth 100000 in
/-- Entries handed in. -/
theorem entries_arg {H : Type} {enc : TypeId × Value → H} {W : World} {base b0 : Nat} {held : Bool} {v : Value} {d : DataW H} {ps : List MemPlace} (h : DataW.Trod enc Tryd.prog W base (fun _ => true) held 28 v d ps) (hv : Value.okWide Tryd.prog W .any b0 28 v) (hw : WOk Tryd.prog 28 d) : ∃ L : List En, Fl 2 En.cs W v L ∧ L.length ≤ 5864062014805 ∧ ∀ x ∈ L, x.heads.size ≤ 140737488355328 := by
  obtain ⟨a, len, cap, rfl⟩ := okWide_slice Tryd.underlying28 hv
  obtain ⟨fuel, hf⟩ := h
  obtain ⟨v, L, e, r, m⟩ := entries_rowsS hf hw
  simp [Value.cells] at e
  subst e
  obtain ⟨f, l⟩ := fl_rowsW (cs := En.cs) r
  exact ⟨L, f, l, m⟩
set_option maxRecDepth 100000 in
theorem lifted (os : Os) (started : os.Started) (H : Type) (enc : TypeId × Value → H) :
    ReturnsInHanded {} Tryd.checked os 5 .any (fun w args => (Rows.driverThereSpec.pre enc Tryd.prog Tryd.f5 [] false w args ∧ laidMetH Tryd.prog laidT w) ∧ sizedMet enc Tryd.prog Tryd.f5 (OpenSpec.ofChange Rows.driverThereSpec) false w args)
      (Rows.driverThereSpec.post enc Tryd.prog Tryd.f5 false true false false) := by
  refine returnsInHanded_of_change_and (C := Tryd.checked) (X := fun w _ => laidMetH Tryd.prog laidT w) (fun _ _ _ hh h => h.of_heap hh) own started (by kernel_rfl) Tryd.func5
    (ChangeSpec.witness_shaped (enc := enc) (C := Tryd.checked) (os := os) (X := fun w _ => laidMetH Tryd.prog laidT w) false (World.doorLaid Tryd.prog 400 os) #[.slice none 0 0] 8 rfl (World.shaped_of_RefB (by kernel_rfl) (by kernel_rfl)) (by kernel_rfl) (by kernel_rfl) (by kernel_rfl) (door_met os _)) ?_
  intro W base args ds gs before hval0 hW _ hsz hL _
  have hval : ∀ (j : Nat) t v, Tryd.f5.params[j]? = some t → args[j]? = some v → Value.okWide Tryd.prog W .any base t v := hval0
  have hW' := hW
  obtain ⟨p, q, hA0, hV, rfl, hfz, hnd⟩ := hW
  have hA : DataW.TrodAll enc Tryd.prog W 0 (fun _ => true) true Tryd.f5.params.toList args.toList ds p := hA0
  rw [Tryd.params5] at hA hval hsz
  obtain ⟨v0, vs0, d0, ds0, p0, q0, hargs, rfl, rfl, h0, r0⟩ := trodAll_cons hA
  obtain ⟨rfl, rfl, rfl⟩ := trodAll_nil r0
  obtain rfl : args = #[v0] := by cases args; simp_all
  obtain ⟨rfl, rfl⟩ := trodVars_none hV
  have k0 := h0
  have lt0 : ∀ x ∈ p0, x.block < W.heap.size := by obtain ⟨m, hm⟩ := k0; exact DataW.trod_lt m _ _ _ hm
  obtain ⟨L, hF, hl, hh⟩ := entries_arg h0 (hval 0 28 v0 rfl rfl) (wok_of_each hsz (j := 0) rfl rfl)
  obtain ⟨hP, hR⟩ := of_laid hL
  have h5 : 5 ≤ W.heap.size := Nat.le_of_lt hP.1
  clear hA0 hval0
  refine (there_law L v0 W hP hR h5 hF hh (by omega)).mono fun e W' ⟨he, bel⟩ => ?_
  subst he
  exact ⟨_, rfl, _, _, _, [], _, [], hW', trodAll_mk1 (shut_bool Tryd.underlying4 _), (trodAll_cons_mk (Below.trod laidOut (by kernel_rfl) (of_decide_eq_true (by kernel_rfl)) k0 bel lt0) trodAll_mk0), rfl, bel.frame _, fun h => by cases h⟩
theorem over : Rows.driverThereRow.holds Tryd.pinned (OpenSpec.ofChange Rows.driverThereSpec) :=
  OpenClaim.holds_of_wide 5 Tryd.f5 rfl rfl rfl rfl rfl rfl rfl ⟨rfl, rfl, rfl, rfl, rfl⟩ rfl rfl rfl rfl rfl (by kernel_rfl) Tryd.func5 (by kernel_rfl)
    (of_decide_eq_true (by kernel_rfl)) (by unfold Func.isWrapper; first | (rw [if_pos (by decide +kernel)]; kernel_rfl) | (rw [if_neg (by decide +kernel)]; exact ⟨rfl, rfl⟩))
    (fun os started H enc _ => lifted os started H enc)
end Go.Proofs.YtcajejfddfiidaaDoor.driverThere
namespace Go.Proofs.YtcajejfddfiidaaDoor
theorem driverThere_holds : Rows.DriverThereCardSaid :=
  Claim7.holds_tied_plain_at .later [] [.data, .data, .data, .sentinel, .sentinel] true (true, "2e539f3ee46754c2e767f92dc6d22c182848547fcf0414a9087530124980313c") true
    driverThere.over (fun _ h => by cases h) (by kernel_rfl) (fun _ h => by cases h) driverThere_row_tie rfl ⟨rfl, rfl⟩ (by kernel_rfl) rfl
    (fun f fn hf hfn => by
      obtain rfl : f = 5 := Option.some.inj ((show Tryd.prog.funcNamed "junction/junctionlaw14.DriverThere" = some 5 by kernel_rfl).symm.trans hf) |>.symm
      obtain rfl : fn = Tryd.f5 := (Option.some.inj (Tryd.func5.symm.trans hfn)).symm
      exact ⟨by kernel_rfl, fun j t ht => by
        rw [Tryd.params5] at ht
        have hm : t ∈ [28] := by simpa using Array.mem_of_getElem? ht
        have hall : ([28].all fun u => !Tryd.prog.wantsStandIn u) = true := by kernel_rfl
        exact (show Tryd.prog.wantsStandIn t = false by simpa using List.all_eq_true.1 hall t hm)⟩)
    (by kernel_rfl)
#print axioms driverThere_holds
end Go.Proofs.YtcajejfddfiidaaDoor
