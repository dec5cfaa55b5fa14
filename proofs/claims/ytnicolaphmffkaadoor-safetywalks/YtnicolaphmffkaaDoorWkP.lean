import Derived.Test.YtnicolaphmffkaaDoorRcCL
import Derived.Test.YtnicolaphmffkaaDoorSnW
import Derived.Test.YtnicolaphmffkaaDoorOpw
import Derived.Test.YtnicolaphmffkaaDoorTabs
import Derived.Test.YtnicolaphmffkaaDoorCards
import Derived.Test.YtnicolaphmffkaaDoorTie
namespace Go.Proofs.YtnicolaphmffkaaDoor.safetyWalks
open Go.ChangeShapes Go.WideShapes Go.ChangeAt Go.RowKit
set_option linter.unusedVariables false
set_option linter.unusedSimpArgs false

set_option maxRecDepth 100000 in
theorem lifted (os : Os) (started : os.Started) (H : Type) (enc : TypeId × Value → H) :
    ReturnsInHanded {} Tryd.checked os 3 .any (fun w args => (Rows.safetyWalksSpec.pre enc Tryd.prog Tryd.f3 [] false w args ∧ laidMetH Tryd.prog laidR w) ∧ sizedMet enc Tryd.prog Tryd.f3 (OpenSpec.ofChange Rows.safetyWalksSpec) false w args)
      (Rows.safetyWalksSpec.post enc Tryd.prog Tryd.f3 false true false false) := by
  refine returnsInHanded_of_change_and (C := Tryd.checked) (X := fun w _ => laidMetH Tryd.prog laidR w) (fun _ _ _ hh h => h.of_heap hh) own started (by kernel_rfl) Tryd.func3
    (ChangeSpec.witness_shaped (enc := enc) (C := Tryd.checked) (os := os) (X := fun w _ => laidMetH Tryd.prog laidR w) false (World.doorLaid Tryd.prog 400 os) #[.agg #[.string ByteArray.empty, .slice none 0 0, .slice none 0 0, .slice none 0 0, .slice none 0 0, .slice none 0 0, .slice none 0 0, .slice none 0 0, .int .i64 0], .slice none 0 0] 8 rfl (World.shaped_of_RefB (by kernel_rfl) (by kernel_rfl)) (by kernel_rfl) (by kernel_rfl) (by kernel_rfl) (door_met os _)) ?_
  intro W base args ds gs before hval0 hW _ hsz hL _
  have hval : ∀ (j : Nat) t v, Tryd.f3.params[j]? = some t → args[j]? = some v → Value.okWide Tryd.prog W .any base t v := hval0
  have hW' := hW
  obtain ⟨p, q, hA0, hV, rfl, hfz, hnd⟩ := hW
  have hA : DataW.TrodAll enc Tryd.prog W 0 (fun _ => true) true Tryd.f3.params.toList args.toList ds p := hA0
  rw [Tryd.params3] at hA hval hsz
  obtain ⟨v0, vs0, d0, ds0, p0, q0, hargs, rfl, rfl, h0, r0⟩ := trodAll_cons hA
  obtain ⟨v1, vs1, d1, ds1, p1, q1, rfl, rfl, rfl, h1, r1⟩ := trodAll_cons r0
  obtain ⟨rfl, rfl, rfl⟩ := trodAll_nil r1
  obtain rfl : args = #[v0, v1] := by cases args; simp_all
  obtain ⟨rfl, rfl⟩ := trodVars_none hV
  have k0 := h0
  have k1 := h1
  have lt0 : ∀ x ∈ p0, x.block < W.heap.size := by obtain ⟨m, hm⟩ := k0; exact DataW.trod_lt m _ _ _ hm
  have lt1 : ∀ x ∈ p1, x.block < W.heap.size := by obtain ⟨m, hm⟩ := k1; exact DataW.trod_lt m _ _ _ hm
  obtain ⟨G, C, D, TM, CT, VR, SG, pn, ga, ca, da, ta, ka, va, sa, gc, cc, dc, tc, kc, vc, sc, stt, rfl, hP, hgr⟩ := typed_arg h0 (hval 0 31 v0 rfl rfl) (wok_of_each hsz (j := 0) rfl rfl)
  obtain ⟨S, ba, bc, rfl, hB, lB⟩ := bools_arg h1 (hval 1 32 v1 rfl rfl) (wok_of_each hsz (j := 1) rfl rfl)
  obtain ⟨hw, hk, hst⟩ := of_laid hL
  have tb : Tb W := ⟨hw, hk, hst⟩
  clear hA0 hval0
  have k5 := fun (X : World) (hX : Below W.heap.size W X) => refSound_of G C D TM CT VR SG pn ga ca da ta ka va sa gc cc dc tc kc vc sc stt X (hP.below hX) (tb.below hX) (fun Y hY lG lS => rStages_any G C D TM CT VR SG pn ga ca da ta ka va sa gc cc dc tc kc vc sc stt Y (Tss.below (hP.below hX).hS hY) lG lS hP.hr hgr)
  refine (walks_law G C D TM CT VR SG pn ga ca da ta ka va sa gc cc dc tc kc vc sc stt S ba bc W hP tb hB lB k5).mono fun e W' ⟨he, bel⟩ => ?_
  subst he
  exact ⟨_, rfl, _, _, _, [], _, [], hW', trodAll_mk1 (shut_bool Tryd.underlying4 _), (trodAll_cons_mk (Below.trod laidOut (by kernel_rfl) (of_decide_eq_true (by kernel_rfl)) k0 bel lt0) (trodAll_cons_mk (Below.trod laidOut (by kernel_rfl) (of_decide_eq_true (by kernel_rfl)) k1 bel lt1) trodAll_mk0)), rfl, bel.frame _, fun h => by cases h⟩

theorem over : Rows.safetyWalksRow.holds Tryd.pinned (OpenSpec.ofChange Rows.safetyWalksSpec) :=
  OpenClaim.holds_of_wide 3 Tryd.f3 rfl rfl rfl rfl rfl rfl rfl ⟨rfl, rfl, rfl, rfl, rfl⟩ rfl rfl rfl rfl rfl (by kernel_rfl) Tryd.func3 (by kernel_rfl)
    (of_decide_eq_true (by kernel_rfl)) (by unfold Func.isWrapper; first | (rw [if_pos (by decide +kernel)]; kernel_rfl) | (rw [if_neg (by decide +kernel)]; exact ⟨rfl, rfl⟩))
    (fun os started H enc _ => lifted os started H enc)
end Go.Proofs.YtnicolaphmffkaaDoor.safetyWalks
namespace Go.Proofs.YtnicolaphmffkaaDoor
theorem safetyWalks_holds : Rows.SafetyWalksCardSaid :=
  Claim7.holds_tied_plain_at .later [] [.data, .data, .data] true (true, "e343e9d3e6ed1089c363cf85e9c2eccccde0096c75d4c625762e9bfc90aee93a") false
    safetyWalks.over (fun _ h => by cases h) (by kernel_rfl) (fun _ h => by cases h) safetyWalks_row_tie rfl ⟨rfl, rfl⟩ (by kernel_rfl) rfl
    (fun f fn hf hfn => by
      obtain rfl : f = 3 := Option.some.inj ((show Tryd.prog.funcNamed "junction/junctionlaw6.SafetyWalks" = some 3 by kernel_rfl).symm.trans hf) |>.symm
      obtain rfl : fn = Tryd.f3 := (Option.some.inj (Tryd.func3.symm.trans hfn)).symm
      exact ⟨by kernel_rfl, fun j t ht => by
        rw [Tryd.params3] at ht
        have hm : t ∈ [31, 32] := by simpa using Array.mem_of_getElem? ht
        have hall : ([31, 32].all fun u => !Tryd.prog.wantsStandIn u) = true := by kernel_rfl
        exact (show Tryd.prog.wantsStandIn t = false by simpa using List.all_eq_true.1 hall t hm)⟩)
    (by kernel_rfl)
#print axioms safetyWalks_holds
end Go.Proofs.YtnicolaphmffkaaDoor
