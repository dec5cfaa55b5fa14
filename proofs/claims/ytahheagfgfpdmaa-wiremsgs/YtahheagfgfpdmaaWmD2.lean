import Derived.Test.YtahheagfgfpdmaaWmB
namespace Go.Proofs.Ytahheagfgfpdmaa
open Go.RowKit
set_option linter.unusedVariables false
set_option linter.unusedSimpArgs false

set_option maxRecDepth 100000 in
set_option maxHeartbeats 2000000 in
theorem rfm2 (s n u : Int) (l c : Nat) (va : Option Addr) (w : World) (hl : l ≤ 140737488355328) : Calls Try.prog 15 #[.agg #[.int .i64 2, .int .i64 s, .int .u32 n, .int .u32 u, .slice va l c]] w fun e w' => e = .returned (.bool (fmB 2 s n u l)) ∧ Below w.heap.size w w' := by
  by_cases s0 : 0 ≤ s
  case neg =>
    have s0' : s < 0 := by omega
    have e : fmB 2 s n u l = false := by simp [fmB, kOk, fSl, fNu, fSu, *]
    go_enter Try.func15, Try.ntmps15
    go_wp2_with (go_at_call 21; (with_reducible refine Calls.mono (within_lit _ _ _ false _ (by simp [*])) ?_); rintro e w1 ⟨rfl, rfl⟩)
    go_ret
    exact ⟨by first | rfl | exact ret_bool e.symm, belN1⟩
  have s0' : ¬ s < 0 := by omega
  by_cases s1 : s ≤ 255
  case neg =>
    have s1' : 255 < s := by omega
    have e : fmB 2 s n u l = false := by simp [fmB, kOk, fSl, fNu, fSu, *]
    go_enter Try.func15, Try.ntmps15
    go_wp2_with (go_at_call 21; (with_reducible refine Calls.mono (within_lit _ _ _ false _ (by simp [*])) ?_); rintro e w1 ⟨rfl, rfl⟩)
    go_ret
    exact ⟨by first | rfl | exact ret_bool e.symm, belN1⟩
  have s1' : ¬ 255 < s := by omega
  by_cases sz : s = 0
  case neg =>
    have e : fmB 2 s n u l = false := by simp [fmB, kOk, fSl, fNu, fSu, *]
    go_enter Try.func15, Try.ntmps15
    go_wp2_with (go_at_call 21; (with_reducible refine Calls.mono (within_lit _ _ _ true _ (by simp [*])) ?_); rintro e w1 ⟨rfl, rfl⟩)
    go_ret
    exact ⟨by first | rfl | exact ret_bool e.symm, belN1⟩
  subst sz
  clear s0 s1 s0' s1'
  by_cases nz : n = 0
  case pos =>
    by_cases uz : u = 0
    case neg =>
      have e : fmB 2 0 n u l = false := by simp [fmB, kOk, fSl, fNu, fSu, *]
      go_enter Try.func15, Try.ntmps15
      go_wp2_with (go_at_call 21; (with_reducible refine Calls.mono (within_lit _ _ _ true _ (by simp [*])) ?_); rintro e w1 ⟨rfl, rfl⟩)
      go_ret
      exact ⟨by first | rfl | exact ret_bool e.symm, belN1⟩
    subst uz
    by_cases l0 : 1 ≤ l
    case neg =>
      have l0' : ¬ (1 : Int) ≤ (l : Int) := by omega
      have hw0 := fun X : World => within_lit 0 0 255 true X (by simp)
      have hw1 := fun X : World => within_lit (l : Int) 1 246 false X (by simp [*])
      have e : fmB 2 0 n 0 l = false := by simp [fmB, kOk, fSl, fNu, fSu, *]
      go_enter Try.func15, Try.ntmps15
      go_wp2_with (first | (go_at_call 21; (with_reducible refine Calls.mono (hw0 _) ?_); rintro e w1 ⟨rfl, rfl⟩) | (go_at_call 21; (with_reducible refine Calls.mono (hw1 _) ?_); rintro e w1 ⟨rfl, rfl⟩))
      go_ret
      exact ⟨by first | rfl | exact ret_bool e.symm, belN1⟩
    by_cases l1 : l ≤ 246
    case neg =>
      have l1' : ¬ (l : Int) ≤ 246 := by omega
      have hw0 := fun X : World => within_lit 0 0 255 true X (by simp)
      have hw1 := fun X : World => within_lit (l : Int) 1 246 false X (by simp [*])
      have e : fmB 2 0 n 0 l = false := by simp [fmB, kOk, fSl, fNu, fSu, *]
      go_enter Try.func15, Try.ntmps15
      go_wp2_with (first | (go_at_call 21; (with_reducible refine Calls.mono (hw0 _) ?_); rintro e w1 ⟨rfl, rfl⟩) | (go_at_call 21; (with_reducible refine Calls.mono (hw1 _) ?_); rintro e w1 ⟨rfl, rfl⟩))
      go_ret
      exact ⟨by first | rfl | exact ret_bool e.symm, belN1⟩
    have l0' : (1 : Int) ≤ (l : Int) := by omega
    have l1' : (l : Int) ≤ 246 := by omega
    have hw0 := fun X : World => within_lit 0 0 255 true X (by simp)
    have hw1 := fun X : World => within_lit (l : Int) 1 246 true X (by simp [*])
    have e : fmB 2 0 n 0 l = true := by simp [fmB, kOk, fSl, fNu, fSu, *]
    go_enter Try.func15, Try.ntmps15
    go_wp2_with (first | (go_at_call 21; (with_reducible refine Calls.mono (hw0 _) ?_); rintro e w1 ⟨rfl, rfl⟩) | (go_at_call 21; (with_reducible refine Calls.mono (hw1 _) ?_); rintro e w1 ⟨rfl, rfl⟩))
    go_ret
    exact ⟨by first | rfl | exact ret_bool e.symm, belN1⟩
  by_cases uz : u = 0
  case neg =>
    have e : fmB 2 0 n u l = false := by simp [fmB, kOk, fSl, fNu, fSu, *]
    go_enter Try.func15, Try.ntmps15
    go_wp2_with (go_at_call 21; (with_reducible refine Calls.mono (within_lit _ _ _ true _ (by simp [*])) ?_); rintro e w1 ⟨rfl, rfl⟩)
    go_ret
    exact ⟨by first | rfl | exact ret_bool e.symm, belN1⟩
  subst uz
  by_cases l0 : 1 ≤ l
  case neg =>
    have l0' : ¬ (1 : Int) ≤ (l : Int) := by omega
    have hw0 := fun X : World => within_lit 0 0 255 true X (by simp)
    have hw1 := fun X : World => within_lit (l : Int) 1 246 false X (by simp [*])
    have e : fmB 2 0 n 0 l = false := by simp [fmB, kOk, fSl, fNu, fSu, *]
    go_enter Try.func15, Try.ntmps15
    go_wp2_with (first | (go_at_call 21; (with_reducible refine Calls.mono (hw0 _) ?_); rintro e w1 ⟨rfl, rfl⟩) | (go_at_call 21; (with_reducible refine Calls.mono (hw1 _) ?_); rintro e w1 ⟨rfl, rfl⟩))
    go_ret
    exact ⟨by first | rfl | exact ret_bool e.symm, belN1⟩
  by_cases l1 : l ≤ 246
  case neg =>
    have l1' : ¬ (l : Int) ≤ 246 := by omega
    have hw0 := fun X : World => within_lit 0 0 255 true X (by simp)
    have hw1 := fun X : World => within_lit (l : Int) 1 246 false X (by simp [*])
    have e : fmB 2 0 n 0 l = false := by simp [fmB, kOk, fSl, fNu, fSu, *]
    go_enter Try.func15, Try.ntmps15
    go_wp2_with (first | (go_at_call 21; (with_reducible refine Calls.mono (hw0 _) ?_); rintro e w1 ⟨rfl, rfl⟩) | (go_at_call 21; (with_reducible refine Calls.mono (hw1 _) ?_); rintro e w1 ⟨rfl, rfl⟩))
    go_ret
    exact ⟨by first | rfl | exact ret_bool e.symm, belN1⟩
  have l0' : (1 : Int) ≤ (l : Int) := by omega
  have l1' : (l : Int) ≤ 246 := by omega
  have hw0 := fun X : World => within_lit 0 0 255 true X (by simp)
  have hw1 := fun X : World => within_lit (l : Int) 1 246 true X (by simp [*])
  have e : fmB 2 0 n 0 l = true := by simp [fmB, kOk, fSl, fNu, fSu, *]
  go_enter Try.func15, Try.ntmps15
  go_wp2_with (first | (go_at_call 21; (with_reducible refine Calls.mono (hw0 _) ?_); rintro e w1 ⟨rfl, rfl⟩) | (go_at_call 21; (with_reducible refine Calls.mono (hw1 _) ?_); rintro e w1 ⟨rfl, rfl⟩))
  go_ret
  exact ⟨by first | rfl | exact ret_bool e.symm, belN1⟩
set_option maxRecDepth 100000 in
set_option maxHeartbeats 2000000 in
theorem rfm3 (s n u : Int) (l c : Nat) (va : Option Addr) (w : World) (hl : l ≤ 140737488355328) : Calls Try.prog 15 #[.agg #[.int .i64 3, .int .i64 s, .int .u32 n, .int .u32 u, .slice va l c]] w fun e w' => e = .returned (.bool (fmB 3 s n u l)) ∧ Below w.heap.size w w' := by
  by_cases s0 : 0 ≤ s
  case neg =>
    have s0' : s < 0 := by omega
    have e : fmB 3 s n u l = false := by simp [fmB, kOk, fSl, fNu, fSu, *]
    go_enter Try.func15, Try.ntmps15
    go_wp2_with (go_at_call 21; (with_reducible refine Calls.mono (within_lit _ _ _ false _ (by simp [*])) ?_); rintro e w1 ⟨rfl, rfl⟩)
    go_ret
    exact ⟨by first | rfl | exact ret_bool e.symm, belN1⟩
  have s0' : ¬ s < 0 := by omega
  by_cases s1 : s ≤ 255
  case neg =>
    have s1' : 255 < s := by omega
    have e : fmB 3 s n u l = false := by simp [fmB, kOk, fSl, fNu, fSu, *]
    go_enter Try.func15, Try.ntmps15
    go_wp2_with (go_at_call 21; (with_reducible refine Calls.mono (within_lit _ _ _ false _ (by simp [*])) ?_); rintro e w1 ⟨rfl, rfl⟩)
    go_ret
    exact ⟨by first | rfl | exact ret_bool e.symm, belN1⟩
  have s1' : ¬ 255 < s := by omega
  by_cases sz : s = 0
  case neg =>
    have e : fmB 3 s n u l = false := by simp [fmB, kOk, fSl, fNu, fSu, *]
    go_enter Try.func15, Try.ntmps15
    go_wp2_with (go_at_call 21; (with_reducible refine Calls.mono (within_lit _ _ _ true _ (by simp [*])) ?_); rintro e w1 ⟨rfl, rfl⟩)
    go_ret
    exact ⟨by first | rfl | exact ret_bool e.symm, belN1⟩
  subst sz
  clear s0 s1 s0' s1'
  by_cases nz : n = 0
  case neg =>
    have e : fmB 3 0 n u l = false := by simp [fmB, kOk, fSl, fNu, fSu, *]
    go_enter Try.func15, Try.ntmps15
    go_wp2_with (go_at_call 21; (with_reducible refine Calls.mono (within_lit _ _ _ true _ (by simp [*])) ?_); rintro e w1 ⟨rfl, rfl⟩)
    go_ret
    exact ⟨by first | rfl | exact ret_bool e.symm, belN1⟩
  subst nz
  by_cases uz : u = 0
  case neg =>
    have e : fmB 3 0 0 u l = false := by simp [fmB, kOk, fSl, fNu, fSu, *]
    go_enter Try.func15, Try.ntmps15
    go_wp2_with (go_at_call 21; (with_reducible refine Calls.mono (within_lit _ _ _ true _ (by simp [*])) ?_); rintro e w1 ⟨rfl, rfl⟩)
    go_ret
    exact ⟨by first | rfl | exact ret_bool e.symm, belN1⟩
  subst uz
  have e : fmB 3 0 0 0 l = decide ((l : Int) = 0) := by simp [fmB, kOk, fSl, fNu, fSu, *]
  go_enter Try.func15, Try.ntmps15
  go_wp2_with (go_at_call 21; (with_reducible refine Calls.mono (within_lit _ _ _ true _ (by simp [*])) ?_); rintro e w1 ⟨rfl, rfl⟩)
  go_ret
  exact ⟨by first | rfl | exact ret_bool e.symm, belN1⟩
end Go.Proofs.Ytahheagfgfpdmaa
