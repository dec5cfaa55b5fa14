import Derived.Test.YtcajejfddfiidaaDoorThB
namespace Go.Proofs.YtcajejfddfiidaaDoor
open Go.RowKit
set_option linter.unusedVariables false
set_option linter.unusedSimpArgs false


theorem one_told : trA [⟨⟨#[114]⟩, -1⟩] = some ⟨#[48, 32, 114, 32, 45, 10]⟩ := by kernel_rfl
theorem one_lies (w : World) : Fl 2 En.cs (w.alloc (.cells #[.string ⟨#[114]⟩, .int .i64 (-1)] 34)) (.slice (some ⟨w.heap.size, 0, none⟩) 1 1) [⟨⟨#[114]⟩, -1⟩] := by
  refine .inr ⟨⟨w.heap.size, 0, none⟩, 1, rfl, Nat.le_refl _, .inr ⟨rfl, by simp, ?_⟩⟩
  intro i hi j u hu
  obtain rfl : i = 0 := by simp at hi; exact hi
  have h := (Has.new w #[.string ⟨#[114]⟩, .int .i64 (-1)] 34 rfl).2.1 j
  have e : (⟨w.heap.size, 0 + 0 * 2 + j, none⟩ : Addr) = ⟨w.heap.size, j, none⟩ := by simp
  show World.cell? _ ⟨w.heap.size, 0 + 0 * 2 + j, none⟩ = _
  rw [e, h]
  have e2 : (#[Value.string ⟨#[114]⟩, .int .i64 (-1)])[j]? = (En.cs ⟨⟨#[114]⟩, -1⟩)[j]? := by unfold En.cs; simp
  rw [e2]
  exact hu
set_option maxRecDepth 100000 in
set_option maxHeartbeats 2000000 in
theorem there_law (L : List En) (v : Value) (w : World) (hPw : Pw w) (hR : Rg w) (h5 : 5 ≤ w.heap.size) (hL : Fl 2 En.cs w v L) (hh : ∀ e ∈ L, e.heads.size ≤ 140737488355328) (hl : L.length ≤ 9223372036854775806) :
    Calls Tryd.prog 5 #[v] w fun e w' => e = .returned (.bool true) ∧ Below w.heap.size w w' := by
  have hbA : Below w.heap.size w (w.alloc (.cells #[.string ⟨#[114]⟩, .int .i64 (-1)] 34)) := (Below.refl _ _).alloc (Nat.le_refl _) _
  have k10a := trace_any [⟨⟨#[114]⟩, -1⟩] _ (w.alloc (.cells #[.string ⟨#[114]⟩, .int .i64 (-1)] 34)) (hPw.below hbA) (one_lies w) (fun e he => by simp at he; subst he; decide) (by decide)
  rw [one_told] at k10a
  simp only [anV] at k10a
  have k11 := fun (X : World) (hX : Below w.heap.size w X) => plain_any L v X (hL.below hX) hh hl
  obtain ⟨t, hT, hts⟩ := pl_trA L
  have hrt := (rtR_iff t (plL L)).2 hT
  obtain ⟨_, hpl, hph⟩ := rt_fits hrt
  have k10b := fun (X : World) (hX : Below w.heap.size w X) (u : Value) (hU : Fl 2 En.cs X u (plL L)) => trace_any (plL L) u X (hPw.below hX) hU (fun e he => by have := hph e he; omega) (by omega)
  rw [hT] at k10b
  simp only [anV] at k10b
  have k9 := fun (X : World) (hX : Below w.heap.size w X) => retrace_any t X (hR.below hX h5) (Nat.le_trans h5 hX.size) (by omega)
  rw [hrt] at k9
  unfold RtP at k9
  have k11' : Hid _ := k11
  have k10b' : Hid _ := k10b
  have k9' : Hid _ := k9
  clear hPw hR k11 k10b k9 hT hrt hph hL hh
  go_enter Tryd.func5, Tryd.ntmps5
  go_wp2_with fail
  go_at_call 10
  refine Calls.mono k10a ?_
  rintro e w1 ⟨rfl, h1⟩
  have hb1 := bel_after hbA hbA.size h1
  clear k10a
  go_wp2_with fail
  go_at_call 11
  refine Calls.mono (k11'.out _ hb1) ?_
  rintro e w2 ⟨u, rfl, hU, h2⟩
  have hb2 := bel_after hb1 hb1.size h2
  go_wp2_with fail
  go_at_call 10
  refine Calls.mono (k10b'.out _ hb2 _ hU) ?_
  rintro e w3 ⟨rfl, h3⟩
  have hb3 := bel_after hb2 hb2.size h3
  have hU3 := hU.below h3
  go_wp2_with fail
  go_at_call 9
  refine Calls.mono (k9'.out _ hb3) ?_
  rintro e w4 ⟨v4, rfl, hL4, h4⟩
  have hb4 := bel_after hb3 hb3.size h4
  have k12 := same_any (plL L) u v4 w4 (hU3.below h4) hL4 (by omega)
  go_wp2_with fail
  go_at_call 12
  refine Calls.mono k12 ?_
  rintro e w5 ⟨rfl, h6⟩
  have hb5 := bel_after hb4 hb4.size h6
  go_wp2_with fail
  go_ret
  exact ⟨rfl, hb5⟩
end Go.Proofs.YtcajejfddfiidaaDoor
