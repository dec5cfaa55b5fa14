import Derived.Test.YtjfieclmagbfbaaGreatDoorJCkT
import Derived.Test.YtjfieclmagbfbaaGreatDoorSnW
import Derived.Test.YtjfieclmagbfbaaGreatDoorCards
import Derived.Test.YtjfieclmagbfbaaGreatDoorTie
set_option linter.unusedSimpArgs false
set_option linter.unusedVariables false
set_option maxRecDepth 100000
set_option maxHeartbeats 8000000
namespace Go.Proofs.YtjfieclmagbfbaaGreatDoor.safetyFinds
open Go.ChangeShapes Go.WideShapes Go.ChangeAt Go.RowKit
theorem lifted (os : Os) (started : os.Started) (H : Type) (enc : TypeId × Value → H) :
  ReturnsInHanded {} Tryz.checked os 5 .any (fun w args => (Rows.safetyFindsSpec.pre enc Tryz.prog Tryz.f5 [] false w args ∧ laidMetH Tryz.prog laidN w) ∧ sizedMet enc Tryz.prog Tryz.f5 (OpenSpec.ofChange Rows.safetyFindsSpec) false w args)
   (Rows.safetyFindsSpec.post enc Tryz.prog Tryz.f5 false true false false) := by
 refine returnsInHanded_of_change_and (C := Tryz.checked) (X := fun w _ => laidMetH Tryz.prog laidN w) (fun _ _ _ hh h => h.of_heap hh) own started (by kernel_rfl) Tryz.func5
  (ChangeSpec.witness_shaped (enc := enc) (C := Tryz.checked) (os := os) (X := fun w _ => laidMetH Tryz.prog laidN w) false (World.doorLaid Tryz.prog 400 os) #[.agg #[.string ByteArray.empty, .slice none 0 0, .slice none 0 0, .slice none 0 0, .slice none 0 0, .slice none 0 0, .slice none 0 0, .slice none 0 0, .int .i64 0]] 8 rfl (World.shaped_of_RefB (by kernel_rfl) (by kernel_rfl)) (by kernel_rfl) (by kernel_rfl) (by kernel_rfl) (doorN_met os _)) ?_
 intro W base args ds gs before hval0 hW _ hsz hL _
 have hval : ∀ (j : Nat) t v, Tryz.f5.params[j]? = some t → args[j]? = some v → Value.okWide Tryz.prog W .any base t v := hval0
 have hW' := hW
 obtain ⟨p, q, hA0, hV, rfl, hfz, hnd⟩ := hW
 have hA : DataW.TrodAll enc Tryz.prog W 0 (fun _ => true) true Tryz.f5.params.toList args.toList ds p := hA0
 rw [Tryz.params5] at hA hval hsz
 obtain ⟨v0, vs0, d0, ds0, p0, q0, hargs, rfl, rfl, h0, r0⟩ := trodAll_cons hA
 obtain ⟨rfl, rfl, rfl⟩ := trodAll_nil r0
 obtain rfl : args = #[v0] := by cases args; simp_all
 obtain ⟨rfl, rfl⟩ := trodVars_none hV
 have k0 := h0
 have lt0 : ∀ x ∈ p0, x.block < W.heap.size := by obtain ⟨m, hm⟩ := k0; exact DataW.trod_lt m _ _ _ hm
 obtain ⟨G, C, D, TM, CT, VR, SG, pn, ga, ca, da, ta, ka, va, sa, gc, cc, dc, tc, kc, vc, sc, stt, rfl, hP, hgr, lD, lT, lC, lV, lS, cok⟩ := typed_argW h0 (hval 0 31 v0 rfl rfl) (wok_of_each hsz (j := 0) rfl rfl)
 obtain ⟨hw, hk, hst, nt⟩ := ofN_laid hL
 have tb : Tb W := ⟨hw, hk, hst⟩
 clear hA0 hval0
 have k9 := fun (X : World) (hX : Below W.heap.size W X) => refSound_of G C D TM CT VR SG pn ga ca da ta ka va sa gc cc dc tc kc vc sc stt X (hP.below hX) (tb.below hX) (fun Y hY lG lS => rStages_any G C D TM CT VR SG pn ga ca da ta ka va sa gc cc dc tc kc vc sc stt Y (Tss.below (hP.below hX).hS hY) lG lS hP.hr hgr)
 refine (finds_law G C D TM CT VR SG pn ga ca da ta ka va sa gc cc dc tc kc vc sc stt W hP tb nt cok hgr hP.lG hP.lF lD lT lC lV lS k9).mono fun e W' ⟨he, bel⟩ => ?_
 subst he
 exact ⟨_, rfl, _, _, _, [], _, [], hW', trodAll_mk1 (shut_bool Tryz.underlying4 _), (trodAll_cons_mk (Below.trod laidOut (by kernel_rfl) (of_decide_eq_true (by kernel_rfl)) k0 bel lt0) trodAll_mk0), rfl, bel.frame _, fun h => by cases h⟩
theorem over : Rows.safetyFindsRow.holds Tryz.pinned (OpenSpec.ofChange Rows.safetyFindsSpec) :=
 OpenClaim.holds_of_wide 5 Tryz.f5 rfl rfl rfl rfl rfl rfl rfl ⟨rfl, rfl, rfl, rfl, rfl⟩ rfl rfl rfl rfl rfl (by kernel_rfl) Tryz.func5 (by kernel_rfl)
  (of_decide_eq_true (by kernel_rfl)) (by unfold Func.isWrapper; first | (rw [if_pos (by decide +kernel)]; kernel_rfl) | (rw [if_neg (by decide +kernel)]; exact ⟨rfl, rfl⟩))
  (fun os started H enc _ => lifted os started H enc)
end Go.Proofs.YtjfieclmagbfbaaGreatDoor.safetyFinds
namespace Go.Proofs.YtjfieclmagbfbaaGreatDoor
theorem safetyFinds_holds : Rows.SafetyFindsCardSaid :=
 Claim7.holds_tied_plain_at .later [] [.data, .data, .data, .data] true (true, "820aac80e734aa5ddc740d25a8bb2a137b5f18c1741d16643701945f76101e9d") false
  safetyFinds.over (fun _ h => by cases h) (by kernel_rfl) (fun _ h => by cases h) safetyFinds_row_tie rfl ⟨rfl, rfl⟩ (by kernel_rfl) rfl
  (fun f fn hf hfn => by
   obtain rfl : f = 5 := Option.some.inj ((show Tryz.prog.funcNamed "junction/junctionlaw6.SafetyFinds" = some 5 by kernel_rfl).symm.trans hf) |>.symm
   obtain rfl : fn = Tryz.f5 := (Option.some.inj (Tryz.func5.symm.trans hfn)).symm; exact ⟨by kernel_rfl, fun j t ht => by
    rw [Tryz.params5] at ht; have hm : t ∈ [31] := by simpa using Array.mem_of_getElem? ht
    have hall : ([31].all fun u => !Tryz.prog.wantsStandIn u) = true := by kernel_rfl
    exact (show Tryz.prog.wantsStandIn t = false by simpa using List.all_eq_true.1 hall t hm)⟩)
  (by kernel_rfl)
#print axioms safetyFinds_holds
end Go.Proofs.YtjfieclmagbfbaaGreatDoor
