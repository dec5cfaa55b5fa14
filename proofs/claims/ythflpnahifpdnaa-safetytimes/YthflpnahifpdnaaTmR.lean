import Derived.Test.YthflpnahifpdnaaTmS
import Derived.Test.YthflpnahifpdnaaOpT
import Derived.Test.YthflpnahifpdnaaRows
import Derived.ProofKit
import Derived.OpenShut
import Derived.ChangeOld
import Derived.SizedLaws
import Derived.ChangeArms
import Derived.Deep.Slices
namespace Go.Proofs.Ythflpnahifpdnaa
open Go.ChangeShapes Go.WideShapes Go.ChangeAt Go.RowKit
set_option linter.unusedVariables false


theorem ownS : ownKnob Try.prog.godebug = none := by kernel_rfl
theorem laidOutS : laidOutB Try.prog = true := by kernel_rfl
set_option maxRecDepth 100000 in
theorem lifted (os : Os) (started : os.Started) (H : Type) (enc : TypeId × Value → H) :
    ReturnsInHanded {} Try.checked os 3 .any (Rows.safetyTimesSpec.pre6 enc Try.prog Try.f3 Rows.safetyTimesRow.domain false) (Rows.safetyTimesSpec.post enc Try.prog Try.f3 false true false false) := by
  refine returnsInHanded_of_change_sized (C := Try.checked) ownS started (by kernel_rfl) Try.func3
    (ChangeSpec.witness6 (enc := enc) (C := Try.checked) false ⟨#[], #[.agg #[.slice none 0 0, .slice none 0 0], .int .u64 0, .int .u64 0], []⟩ 8 (by kernel_rfl) (by kernel_rfl) (by kernel_rfl) (by kernel_rfl)) ?_
  intro W base args ds gs before hval0 hW hcnd hsz _
  have hval : ∀ (j : Nat) t v, Try.f3.params[j]? = some t → args[j]? = some v → Value.okWide Try.prog W .any base t v := hval0
  have hW' := hW
  obtain ⟨p, q, hA0, hV, rfl, hfz, hnd⟩ := hW
  have hA : DataW.TrodAll enc Try.prog W 0 (fun _ => true) true Try.f3.params.toList args.toList ds p := hA0
  rw [Try.params3] at hA hval hsz
  obtain ⟨v0, vs0, d0, ds0, p0, q0, hargs, rfl, rfl, h0, r0⟩ := trodAll_cons hA
  obtain ⟨v1, vs1, d1, ds1, p1, q1, rfl, rfl, rfl, h1, r1⟩ := trodAll_cons r0
  obtain ⟨v2, vs2, d2, ds2, p2, q2, rfl, rfl, rfl, h2, r2⟩ := trodAll_cons r1
  obtain ⟨rfl, rfl, rfl⟩ := trodAll_nil r2
  obtain rfl : args = #[v0, v1, v2] := by cases args; simp_all
  obtain ⟨rfl, rfl⟩ := trodVars_none hV
  have k0 := h0
  have lt0 : ∀ x ∈ p0, x.block < W.heap.size := by obtain ⟨m, hm⟩ := k0; exact DataW.trod_lt m _ _ _ hm
  have k1 := h1
  have lt1 : ∀ x ∈ p1, x.block < W.heap.size := by obtain ⟨m, hm⟩ := k1; exact DataW.trod_lt m _ _ _ hm
  have k2 := h2
  have lt2 : ∀ x ∈ p2, x.block < W.heap.size := by obtain ⟨m, hm⟩ := k2; exact DataW.trod_lt m _ _ _ hm
  obtain ⟨G, C, vg, vc, rfl, hG, hC, lG, lC, okG, okC⟩ := tables_arg h0 (hval 0 25 v0 rfl rfl) (wok_of_each hsz (j := 0) rfl rfl)
  obtain ⟨m1, rfl⟩ := okWide_int Try.underlying26 (hval 1 26 v1 rfl rfl)
  have hm1 : 0 ≤ m1 ∧ m1 < 18446744073709551616 := by
    obtain ⟨fu, hf⟩ := h1
    obtain ⟨n, e, _, r⟩ := DataW.trod_int Try.underlying26 hf
    simp [Value.cells] at e
    subst e
    exact wfu64 r
  obtain ⟨F, rfl⟩ : ∃ M : Nat, m1 = (M : Int) := ⟨m1.toNat, (Int.toNat_of_nonneg hm1.1).symm⟩
  obtain ⟨m2, rfl⟩ := okWide_int Try.underlying26 (hval 2 26 v2 rfl rfl)
  have hm2 : 0 ≤ m2 ∧ m2 < 18446744073709551616 := by
    obtain ⟨fu, hf⟩ := h2
    obtain ⟨n, e, _, r⟩ := DataW.trod_int Try.underlying26 hf
    simp [Value.cells] at e
    subst e
    exact wfu64 r
  obtain ⟨T, rfl⟩ : ∃ M : Nat, m2 = (M : Int) := ⟨m2.toNat, (Int.toNat_of_nonneg hm2.1).symm⟩
  have hlaw : Calls Try.prog 3 #[.agg #[vg, vc], .int .u64 (F : Int), .int .u64 (T : Int)] W fun e w' => e = .returned (.bool true) ∧ Below W.heap.size W w' := by
    cases hg : gridB G C with
    | false => exact times_bad G C vg vc F T W (by omega) (by omega) hG hC lG lC okC hg
    | true =>
      cases hc : ((clashF G.length F C).2.2 || (clashF G.length T C).2.2) with
      | true => exact times_clash G C vg vc F T W (by omega) (by omega) hG hC lG lC okC hg hc
      | false => exact times_ok G C vg vc F T W (by omega) (by omega) hG hC lG lC okC hg hc
  clear hA0 hval0
  refine hlaw.mono fun e W' ⟨he, bel⟩ => ?_
  subst he
  exact ⟨_, rfl, _, _, _, [], _, [], hW', trodAll_mk1 (shut_bool Try.underlying4 _), (trodAll_cons_mk (Below.trod laidOutS (by kernel_rfl) (of_decide_eq_true (by kernel_rfl)) k0 bel lt0) (trodAll_cons_mk (Below.trod laidOutS (by kernel_rfl) (of_decide_eq_true (by kernel_rfl)) k1 bel lt1) (trodAll_cons_mk (Below.trod laidOutS (by kernel_rfl) (of_decide_eq_true (by kernel_rfl)) k2 bel lt2) trodAll_mk0))), rfl, bel.frame _, fun h => by cases h⟩
theorem safetyTimes_holds : Rows.SafetyTimesSaid :=
  OpenClaim.holds_of_wide 3 Try.f3 rfl rfl rfl rfl rfl rfl rfl ⟨rfl, rfl, rfl, rfl, rfl⟩ rfl rfl rfl rfl rfl (by kernel_rfl) Try.func3 (by kernel_rfl)
    (of_decide_eq_true (by kernel_rfl)) (by unfold Func.isWrapper; first | (rw [if_pos (by decide +kernel)]; kernel_rfl) | (rw [if_neg (by decide +kernel)]; exact ⟨rfl, rfl⟩))
    (fun os started H enc _ => lifted os started H enc)
#print axioms safetyTimes_holds
end Go.Proofs.Ythflpnahifpdnaa
