import Derived.Test.YtahheagfgfpdmaaWmB
namespace Go.Proofs.Ytahheagfgfpdmaa
open Go.RowKit
set_option linter.unusedVariables false
set_option linter.unusedSimpArgs false

set_option maxRecDepth 100000 in
set_option maxHeartbeats 2000000 in
theorem rfm1 (s n u : Int) (l c : Nat) (va : Option Addr) (w : World) (hl : l ≤ 140737488355328) : Calls Try.prog 15 #[.agg #[.int .i64 1, .int .i64 s, .int .u32 n, .int .u32 u, .slice va l c]] w fun e w' => e = .returned (.bool (fmB 1 s n u l)) ∧ Below w.heap.size w w' := by
  by_cases s0 : 0 ≤ s
  case neg =>
    have s0' : s < 0 := by omega
    have e : fmB 1 s n u l = false := by simp [fmB, kOk, fSl, fNu, fSu, *]
    go_enter Try.func15, Try.ntmps15
    go_wp2_with (go_at_call 21; (with_reducible refine Calls.mono (within_lit _ _ _ false _ (by simp [*])) ?_); rintro e w1 ⟨rfl, rfl⟩)
    go_ret
    exact ⟨by first | rfl | exact ret_bool e.symm, belN1⟩
  have s0' : ¬ s < 0 := by omega
  by_cases s1 : s ≤ 255
  case neg =>
    have s1' : 255 < s := by omega
    have e : fmB 1 s n u l = false := by simp [fmB, kOk, fSl, fNu, fSu, *]
    go_enter Try.func15, Try.ntmps15
    go_wp2_with (go_at_call 21; (with_reducible refine Calls.mono (within_lit _ _ _ false _ (by simp [*])) ?_); rintro e w1 ⟨rfl, rfl⟩)
    go_ret
    exact ⟨by first | rfl | exact ret_bool e.symm, belN1⟩
  have s1' : ¬ 255 < s := by omega
  by_cases sz : s = 0
  case pos =>
    by_cases nz : n = 0
    case pos =>
      by_cases uz : u = 0
      case pos =>
        have e : fmB 1 s n u l = decide ((l : Int) = 0) := by simp [fmB, kOk, fSl, fNu, fSu, *]
        go_enter Try.func15, Try.ntmps15
        go_wp2_with (go_at_call 21; (with_reducible refine Calls.mono (within_lit _ _ _ true _ (by simp [*])) ?_); rintro e w1 ⟨rfl, rfl⟩)
        go_ret
        exact ⟨by first | rfl | exact ret_bool e.symm, belN1⟩
      have e : fmB 1 s n u l = decide ((l : Int) = 0) := by simp [fmB, kOk, fSl, fNu, fSu, *]
      go_enter Try.func15, Try.ntmps15
      go_wp2_with (go_at_call 21; (with_reducible refine Calls.mono (within_lit _ _ _ true _ (by simp [*])) ?_); rintro e w1 ⟨rfl, rfl⟩)
      go_ret
      exact ⟨by first | rfl | exact ret_bool e.symm, belN1⟩
    by_cases uz : u = 0
    case pos =>
      have e : fmB 1 s n u l = decide ((l : Int) = 0) := by simp [fmB, kOk, fSl, fNu, fSu, *]
      go_enter Try.func15, Try.ntmps15
      go_wp2_with (go_at_call 21; (with_reducible refine Calls.mono (within_lit _ _ _ true _ (by simp [*])) ?_); rintro e w1 ⟨rfl, rfl⟩)
      go_ret
      exact ⟨by first | rfl | exact ret_bool e.symm, belN1⟩
    have e : fmB 1 s n u l = decide ((l : Int) = 0) := by simp [fmB, kOk, fSl, fNu, fSu, *]
    go_enter Try.func15, Try.ntmps15
    go_wp2_with (go_at_call 21; (with_reducible refine Calls.mono (within_lit _ _ _ true _ (by simp [*])) ?_); rintro e w1 ⟨rfl, rfl⟩)
    go_ret
    exact ⟨by first | rfl | exact ret_bool e.symm, belN1⟩
  by_cases nz : n = 0
  case pos =>
    by_cases uz : u = 0
    case pos =>
      have e : fmB 1 s n u l = decide ((l : Int) = 0) := by simp [fmB, kOk, fSl, fNu, fSu, *]
      go_enter Try.func15, Try.ntmps15
      go_wp2_with (go_at_call 21; (with_reducible refine Calls.mono (within_lit _ _ _ true _ (by simp [*])) ?_); rintro e w1 ⟨rfl, rfl⟩)
      go_ret
      exact ⟨by first | rfl | exact ret_bool e.symm, belN1⟩
    have e : fmB 1 s n u l = decide ((l : Int) = 0) := by simp [fmB, kOk, fSl, fNu, fSu, *]
    go_enter Try.func15, Try.ntmps15
    go_wp2_with (go_at_call 21; (with_reducible refine Calls.mono (within_lit _ _ _ true _ (by simp [*])) ?_); rintro e w1 ⟨rfl, rfl⟩)
    go_ret
    exact ⟨by first | rfl | exact ret_bool e.symm, belN1⟩
  by_cases uz : u = 0
  case pos =>
    have e : fmB 1 s n u l = decide ((l : Int) = 0) := by simp [fmB, kOk, fSl, fNu, fSu, *]
    go_enter Try.func15, Try.ntmps15
    go_wp2_with (go_at_call 21; (with_reducible refine Calls.mono (within_lit _ _ _ true _ (by simp [*])) ?_); rintro e w1 ⟨rfl, rfl⟩)
    go_ret
    exact ⟨by first | rfl | exact ret_bool e.symm, belN1⟩
  have e : fmB 1 s n u l = decide ((l : Int) = 0) := by simp [fmB, kOk, fSl, fNu, fSu, *]
  go_enter Try.func15, Try.ntmps15
  go_wp2_with (go_at_call 21; (with_reducible refine Calls.mono (within_lit _ _ _ true _ (by simp [*])) ?_); rintro e w1 ⟨rfl, rfl⟩)
  go_ret
  exact ⟨by first | rfl | exact ret_bool e.symm, belN1⟩
end Go.Proofs.Ytahheagfgfpdmaa
