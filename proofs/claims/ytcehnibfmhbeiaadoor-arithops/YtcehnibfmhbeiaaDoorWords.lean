import Derived.Test.YtcehnibfmhbeiaaDoorTab
namespace Go.Proofs.YtcehnibfmhbeiaaDoor
open Go.RowKit

/-- A truth as a word. -/
def tr : Bool → Int | true => 1 | false => 0

theorem ret_int {k : IntKind} {a b : Int} (h : a = b) : Ending.returned (.int k a) = .returned (.int k b) := by rw [h]

set_option maxHeartbeats 400000 in
theorem truth_any (b : Bool) (w : World) : Calls Tryd.prog 46 #[.bool b] w fun e w' => e = .returned (.int .i32 (tr b)) ∧ w' = w := by
  cases b
  all_goals
    go_enter Tryd.func46, Tryd.ntmps46
    go_wp2
    go_ret
    exact ⟨rfl, rfl⟩

set_option maxHeartbeats 400000 in
theorem neg_any (a : Int) (w : World) : Calls Tryd.prog 22 #[.int .i32 a] w fun e w' => e = .returned (.int .i32 (wrap32 (-a))) ∧ w' = w := by
  go_enter Tryd.func22, Tryd.ntmps22
  go_wp2
  go_ret
  exact ⟨rfl, rfl⟩

set_option maxHeartbeats 400000 in
theorem not_any (a : Int) (w : World) : Calls Tryd.prog 23 #[.int .i32 a] w fun e w' => e = .returned (.int .i32 (tr (a == 0))) ∧ w' = w := by
  go_enter Tryd.func23, Tryd.ntmps23
  go_wp2_with (go_at_call 46; refine (truth_any _ _).mono ?_; rintro e w' ⟨rfl, rfl⟩)
  go_ret
  exact ⟨rfl, rfl⟩

set_option maxHeartbeats 400000 in
theorem abs_lt (a : Int) (w : World) (h : a < 0) : Calls Tryd.prog 24 #[.int .i32 a] w fun e w' => e = .returned (.int .i32 (wrap32 (-a))) ∧ w' = w := by
  go_enter Tryd.func24, Tryd.ntmps24
  go_wp2
  go_ret
  exact ⟨rfl, rfl⟩

set_option maxHeartbeats 400000 in
theorem abs_ge (a : Int) (w : World) (h : ¬ a < 0) : Calls Tryd.prog 24 #[.int .i32 a] w fun e w' => e = .returned (.int .i32 (a)) ∧ w' = w := by
  go_enter Tryd.func24, Tryd.ntmps24
  go_wp2
  go_ret
  exact ⟨rfl, rfl⟩

set_option maxHeartbeats 400000 in
theorem plus_any (a b : Int) (w : World) : Calls Tryd.prog 27 #[.int .i32 a, .int .i32 b] w fun e w' => e = .returned (.int .i32 (wrap32 (a + b))) ∧ w' = w := by
  go_enter Tryd.func27, Tryd.ntmps27
  go_wp2
  go_ret
  exact ⟨rfl, rfl⟩

set_option maxHeartbeats 400000 in
theorem minus_any (a b : Int) (w : World) : Calls Tryd.prog 28 #[.int .i32 a, .int .i32 b] w fun e w' => e = .returned (.int .i32 (wrap32 (a - b))) ∧ w' = w := by
  go_enter Tryd.func28, Tryd.ntmps28
  go_wp2
  go_ret
  exact ⟨rfl, rfl⟩

set_option maxHeartbeats 400000 in
theorem times_any (a b : Int) (w : World) : Calls Tryd.prog 29 #[.int .i32 a, .int .i32 b] w fun e w' => e = .returned (.int .i32 (wrap32 (a * b))) ∧ w' = w := by
  go_enter Tryd.func29, Tryd.ntmps29
  go_wp2
  go_ret
  exact ⟨rfl, rfl⟩

set_option maxHeartbeats 400000 in
theorem over_zero (a b : Int) (w : World) (h : (b == 0) = true) : Calls Tryd.prog 30 #[.int .i32 a, .int .i32 b] w fun e w' => e = .returned (.int .i32 (0)) ∧ w' = w := by
  go_enter Tryd.func30, Tryd.ntmps30
  go_wp2
  go_ret
  exact ⟨rfl, rfl⟩

set_option maxHeartbeats 400000 in
theorem over_any (a b : Int) (w : World) (h : (b == 0) = false) (h2 : b ≠ 0) : Calls Tryd.prog 30 #[.int .i32 a, .int .i32 b] w fun e w' => e = .returned (.int .i32 (wrap32 (a.tdiv b))) ∧ w' = w := by
  go_enter Tryd.func30, Tryd.ntmps30
  go_wp2
  go_ret
  exact ⟨rfl, rfl⟩

set_option maxHeartbeats 400000 in
theorem rest_zero (a b : Int) (w : World) (h : (b == 0) = true) : Calls Tryd.prog 31 #[.int .i32 a, .int .i32 b] w fun e w' => e = .returned (.int .i32 (0)) ∧ w' = w := by
  go_enter Tryd.func31, Tryd.ntmps31
  go_wp2
  go_ret
  exact ⟨rfl, rfl⟩

set_option maxHeartbeats 400000 in
theorem rest_any (a b : Int) (w : World) (h : (b == 0) = false) (h2 : b ≠ 0) : Calls Tryd.prog 31 #[.int .i32 a, .int .i32 b] w fun e w' => e = .returned (.int .i32 (a.tmod b)) ∧ w' = w := by
  go_enter Tryd.func31, Tryd.ntmps31
  go_wp2
  go_ret
  exact ⟨rfl, rfl⟩

set_option maxHeartbeats 400000 in
theorem min_any (a b : Int) (w : World) : Calls Tryd.prog 32 #[.int .i32 a, .int .i32 b] w fun e w' => e = .returned (.int .i32 (min a b)) ∧ w' = w := by
  go_enter Tryd.func32, Tryd.ntmps32
  go_wp2
  all_goals (go_ret; exact ⟨ret_int (by omega), rfl⟩)

set_option maxHeartbeats 400000 in
theorem max_any (a b : Int) (w : World) : Calls Tryd.prog 33 #[.int .i32 a, .int .i32 b] w fun e w' => e = .returned (.int .i32 (max a b)) ∧ w' = w := by
  go_enter Tryd.func33, Tryd.ntmps33
  go_wp2
  all_goals (go_ret; exact ⟨ret_int (by omega), rfl⟩)

set_option maxHeartbeats 400000 in
theorem eq_any (a b : Int) (w : World) : Calls Tryd.prog 34 #[.int .i32 a, .int .i32 b] w fun e w' => e = .returned (.int .i32 (tr (a == b))) ∧ w' = w := by
  go_enter Tryd.func34, Tryd.ntmps34
  go_wp2_with (go_at_call 46; refine (truth_any _ _).mono ?_; rintro e w' ⟨rfl, rfl⟩)
  go_ret
  exact ⟨rfl, rfl⟩

set_option maxHeartbeats 400000 in
theorem ne_any (a b : Int) (w : World) : Calls Tryd.prog 35 #[.int .i32 a, .int .i32 b] w fun e w' => e = .returned (.int .i32 (tr (a != b))) ∧ w' = w := by
  go_enter Tryd.func35, Tryd.ntmps35
  go_wp2_with (go_at_call 46; refine (truth_any _ _).mono ?_; rintro e w' ⟨rfl, rfl⟩)
  go_ret
  exact ⟨rfl, rfl⟩

set_option maxHeartbeats 400000 in
theorem lt_any (a b : Int) (w : World) : Calls Tryd.prog 36 #[.int .i32 a, .int .i32 b] w fun e w' => e = .returned (.int .i32 (tr (decide (a < b)))) ∧ w' = w := by
  go_enter Tryd.func36, Tryd.ntmps36
  go_wp2_with (go_at_call 46; refine (truth_any _ _).mono ?_; rintro e w' ⟨rfl, rfl⟩)
  go_ret
  exact ⟨rfl, rfl⟩

set_option maxHeartbeats 400000 in
theorem le_any (a b : Int) (w : World) : Calls Tryd.prog 37 #[.int .i32 a, .int .i32 b] w fun e w' => e = .returned (.int .i32 (tr (decide (a ≤ b)))) ∧ w' = w := by
  go_enter Tryd.func37, Tryd.ntmps37
  go_wp2_with (go_at_call 46; refine (truth_any _ _).mono ?_; rintro e w' ⟨rfl, rfl⟩)
  go_ret
  exact ⟨rfl, rfl⟩

set_option maxHeartbeats 400000 in
theorem gt_any (a b : Int) (w : World) : Calls Tryd.prog 38 #[.int .i32 a, .int .i32 b] w fun e w' => e = .returned (.int .i32 (tr (decide (b < a)))) ∧ w' = w := by
  go_enter Tryd.func38, Tryd.ntmps38
  go_wp2_with (go_at_call 46; refine (truth_any _ _).mono ?_; rintro e w' ⟨rfl, rfl⟩)
  go_ret
  exact ⟨rfl, rfl⟩

set_option maxHeartbeats 400000 in
theorem ge_any (a b : Int) (w : World) : Calls Tryd.prog 39 #[.int .i32 a, .int .i32 b] w fun e w' => e = .returned (.int .i32 (tr (decide (b ≤ a)))) ∧ w' = w := by
  go_enter Tryd.func39, Tryd.ntmps39
  go_wp2_with (go_at_call 46; refine (truth_any _ _).mono ?_; rintro e w' ⟨rfl, rfl⟩)
  go_ret
  exact ⟨rfl, rfl⟩

set_option maxHeartbeats 400000 in
theorem and_any (a b : Int) (w : World) : Calls Tryd.prog 40 #[.int .i32 a, .int .i32 b] w fun e w' => e = .returned (.int .i32 (tr (a != 0 && b != 0))) ∧ w' = w := by
  go_enter Tryd.func40, Tryd.ntmps40
  go_wp2_with (go_at_call 46; refine (truth_any _ _).mono ?_; rintro e w' ⟨rfl, rfl⟩)
  all_goals (go_ret; exact ⟨ret_int (by first | rfl | exact congrArg tr (by simp [*]) | simp_all), rfl⟩)

set_option maxHeartbeats 400000 in
theorem or_any (a b : Int) (w : World) : Calls Tryd.prog 41 #[.int .i32 a, .int .i32 b] w fun e w' => e = .returned (.int .i32 (tr (a != 0 || b != 0))) ∧ w' = w := by
  go_enter Tryd.func41, Tryd.ntmps41
  go_wp2_with (go_at_call 46; refine (truth_any _ _).mono ?_; rintro e w' ⟨rfl, rfl⟩)
  all_goals (go_ret; exact ⟨ret_int (by first | rfl | exact congrArg tr (by simp [*]) | simp_all), rfl⟩)

end Go.Proofs.YtcehnibfmhbeiaaDoor
