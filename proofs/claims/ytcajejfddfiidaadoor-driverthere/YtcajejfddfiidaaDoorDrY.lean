import Derived.Test.YtcajejfddfiidaaDoorDrX
import Derived.Test.YtcajejfddfiidaaDoorTrE
import Derived.Test.YtcajejfddfiidaaDoorDrD
namespace Go.Proofs.YtcajejfddfiidaaDoor
open Go.RowKit
set_option linter.unusedVariables false
set_option linter.unusedSimpArgs false


theorem tr_toB : ∀ (L : List En) (a i : Nat) (t : ByteArray), trR a i L = some t → ∀ e ∈ L, toB e = true := by
  intro L
  induction L with
  | nil => intro a i t h e he; cases he
  | cons x L ih =>
    intro a i t h e he
    unfold trR at h
    by_cases hb : toB x = true
    · rw [if_pos hb] at h
      rcases List.mem_cons.1 he with rfl | he
      · exact hb
      · by_cases hn : nxS x L = true
        · rw [if_pos hn] at h
          exact ih _ _ _ h e he
        · rw [if_neg hn] at h
          obtain ⟨t', h', _⟩ := Option.map_eq_some_iff.1 h
          exact ih _ _ _ h' e he
    · rw [if_neg hb] at h; cases h
theorem rt_fits {d : ByteArray} {L : List En} (h : rtR d = some L) : trA L = some d ∧ L.length ≤ 65536 ∧ ∀ e ∈ L, e.heads.size ≤ 64 := by
  have h1 := (rtR_iff d L).1 h
  refine ⟨h1, ?_⟩
  unfold trA at h1
  by_cases hl : 65536 < L.length
  · rw [if_pos hl] at h1; cases h1
  · rw [if_neg hl] at h1
    exact ⟨by omega, fun e he => (toB_sz (tr_toB L _ _ _ h1 e he)).1⟩
theorem two_read : rtR ⟨#[48, 45, 49, 32, 114, 32, 45, 10]⟩ = some [⟨⟨#[114]⟩, -1⟩, ⟨⟨#[114]⟩, -1⟩] := (rtR_iff _ _).2 (by kernel_rfl)

set_option maxRecDepth 100000 in
set_option maxHeartbeats 2000000 in
theorem retraces_law (d : ByteArray) (w : World) (hR : Rg w) (h5 : 5 ≤ w.heap.size) (hd : d.size ≤ 140737488355328) :
    Calls Tryd.prog 6 #[.string d] w fun e w' => e = .returned (.bool true) ∧ Below w.heap.size w w' := by
  have k9 := retrace_any d w hR h5 hd
  have k13 := fun (X : World) => refRetrace_any d X hd
  clear hR
  cases ho : rtR d with
  | none =>
    rw [ho] at k9 k13
    unfold RtP at k9 k13
    go_enter Tryd.func6, Tryd.ntmps6
    go_wp2_with fail
    go_at_call 9
    refine Calls.mono k9 ?_
    rintro e w1 ⟨rfl, h1⟩
    go_wp2_with fail
    go_at_call 13
    refine Calls.mono (k13 _) ?_
    rintro e w2 ⟨rfl, h2⟩
    have hb2 := bel_after h1 h1.size h2
    have k12 := same_any [] (.slice none 0 0) (.slice none 0 0) w2 (.inl ⟨rfl, rfl⟩) (.inl ⟨rfl, rfl⟩) (by simp)
    go_wp2_with fail
    go_at_call 12
    refine Calls.mono k12 ?_
    rintro e w3 ⟨rfl, h3⟩
    have hb3 := bel_after hb2 hb2.size h3
    go_wp2_with fail
    go_ret
    exact ⟨rfl, hb3⟩
  | some L =>
    obtain ⟨_, hl, _⟩ := rt_fits ho
    rw [ho] at k9 k13
    unfold RtP at k9 k13
    go_enter Tryd.func6, Tryd.ntmps6
    go_wp2_with fail
    go_at_call 9
    refine Calls.mono k9 ?_
    rintro e w1 ⟨v1, rfl, hL1, h1⟩
    go_wp2_with fail
    go_at_call 13
    refine Calls.mono (k13 _) ?_
    rintro e w2 ⟨v2, rfl, hL2, h2⟩
    have hb2 := bel_after h1 h1.size h2
    have k12 := same_any L v1 v2 w2 (hL1.below h2) hL2 (by omega)
    go_wp2_with fail
    go_at_call 12
    refine Calls.mono k12 ?_
    rintro e w3 ⟨rfl, h3⟩
    have hb3 := bel_after hb2 hb2.size h3
    go_wp2_with fail
    go_ret
    exact ⟨rfl, hb3⟩
set_option maxRecDepth 100000 in
set_option maxHeartbeats 2000000 in
theorem back_law (d : ByteArray) (w : World) (hPw : Pw w) (hR : Rg w) (h5 : 5 ≤ w.heap.size) (hd : d.size ≤ 140737488355328) :
    Calls Tryd.prog 4 #[.string d] w fun e w' => e = .returned (.bool true) ∧ Below w.heap.size w w' := by
  have k9 := retrace_any ⟨#[48, 45, 49, 32, 114, 32, 45, 10]⟩ w hR h5 (by decide)
  rw [two_read] at k9
  unfold RtP at k9
  have k9b := fun (X : World) (hX : Below w.heap.size w X) => retrace_any d X (hR.below hX h5) (Nat.le_trans h5 hX.size) hd
  have hPw' : Hid (Pw w) := hPw
  clear hR hPw
  go_enter Tryd.func4, Tryd.ntmps4
  go_wp2_with fail
  go_at_call 9
  refine Calls.mono k9 ?_
  rintro e w1 ⟨v1, rfl, hL1, h1⟩
  have k9c := k9b w1 h1
  obtain ⟨va, vc, rfl, _⟩ := hL1.any
  clear k9 k9b hL1
  simp only [List.length_cons, List.length_nil, Nat.reduceAdd]
  cases ho : rtR d with
  | none =>
    rw [ho] at k9c
    unfold RtP at k9c
    go_wp2_with fail
    go_at_call 9
    refine Calls.mono k9c ?_
    rintro e w2 ⟨rfl, h2⟩
    have hb2 := bel_after h1 h1.size h2
    go_wp2_with fail
    go_ret
    exact ⟨rfl, hb2⟩
  | some L =>
    obtain ⟨hA, hl, hh⟩ := rt_fits ho
    rw [ho] at k9c
    unfold RtP at k9c
    go_wp2_with fail
    go_at_call 9
    refine Calls.mono k9c ?_
    rintro e w2 ⟨v2, rfl, hL2, h2⟩
    have hb2 := bel_after h1 h1.size h2
    have k10 := trace_any L v2 w2 (hPw'.out.below hb2) hL2 (fun e he => by have := hh e he; omega) (by omega)
    rw [hA] at k10
    simp only [anV] at k10
    obtain ⟨ua, uc, rfl, _⟩ := hL2.any
    clear hL2 hh k9c
    go_wp2_with fail
    go_at_call 10
    refine Calls.mono k10 ?_
    rintro e w3 ⟨rfl, h3⟩
    have hb3 := bel_after hb2 hb2.size h3
    go_wp2_with fail
    go_ret
    exact ⟨rfl, hb3⟩
end Go.Proofs.YtcajejfddfiidaaDoor
