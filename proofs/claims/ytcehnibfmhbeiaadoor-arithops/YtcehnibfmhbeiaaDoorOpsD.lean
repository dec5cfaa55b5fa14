import Derived.Test.YtcehnibfmhbeiaaDoorOpsC
namespace Go.Proofs.YtcehnibfmhbeiaaDoor
open Go.RowKit

theorem ret_pair {x y : Int} (h : x = y) : Ending.returned (.tuple #[.int .i32 x, .int .i64 0]) = .returned (.tuple #[.int .i32 y, .int .i64 0]) := by rw [h]
theorem refArity_at (op v : Int) (h : arF op = v) (w : World) : Calls Tryd.prog 21 #[.int .i64 op] w fun e w' => e = .returned (.int .i64 v) ∧ w' = w := by
  have := refArity_any op w; rw [h] at this; exact this
theorem arity_at (op v : Int) (h : arF op = v) (w : World) (hA : ArOk w) : Calls Tryd.prog 20 #[.int .i64 op] w fun e w' => e = .returned (.int .i64 v) ∧ w' = w := by
  have := arity_any op w hA; rw [h] at this; exact this

set_option maxHeartbeats 1000000 in
theorem refBinary_30 (a b : Int) (w : World) (ha1 : -2147483648 ≤ a) (ha2 : a ≤ 2147483647) (hb1 : -2147483648 ≤ b) (hb2 : b ≤ 2147483647) :
    Calls Tryd.prog 18 #[.int .i64 30, .int .i32 a, .int .i32 b] w fun e w' => e = .returned (.tuple #[.int .i32 (wrap32 (a + b)), .int .i64 0]) ∧ w' = w := by
  have hc := refArity_at 30 2 (by decide)
  go_enter Tryd.func18, Tryd.ntmps18
  go_wp2_with (first | (go_at_call 21; refine (hc _).mono ?_; rintro e w' ⟨rfl, rfl⟩) | (go_at_call 43; refine (refSums_30 _ _ _ (by assumption) (by assumption) (by assumption) (by assumption)).mono ?_; rintro e w' ⟨rfl, rfl⟩))
  go_ret2
  exact ⟨rfl, rfl⟩

set_option maxHeartbeats 1000000 in
theorem refBinary_31 (a b : Int) (w : World) (ha1 : -2147483648 ≤ a) (ha2 : a ≤ 2147483647) (hb1 : -2147483648 ≤ b) (hb2 : b ≤ 2147483647) :
    Calls Tryd.prog 18 #[.int .i64 31, .int .i32 a, .int .i32 b] w fun e w' => e = .returned (.tuple #[.int .i32 (wrap32 (a - b)), .int .i64 0]) ∧ w' = w := by
  have hc := refArity_at 31 2 (by decide)
  go_enter Tryd.func18, Tryd.ntmps18
  go_wp2_with (first | (go_at_call 21; refine (hc _).mono ?_; rintro e w' ⟨rfl, rfl⟩) | (go_at_call 43; refine (refSums_31 _ _ _ (by assumption) (by assumption) (by assumption) (by assumption)).mono ?_; rintro e w' ⟨rfl, rfl⟩))
  go_ret2
  exact ⟨rfl, rfl⟩

set_option maxHeartbeats 1000000 in
theorem refBinary_32 (a b : Int) (w : World) (ha1 : -2147483648 ≤ a) (ha2 : a ≤ 2147483647) (hb1 : -2147483648 ≤ b) (hb2 : b ≤ 2147483647) :
    Calls Tryd.prog 18 #[.int .i64 32, .int .i32 a, .int .i32 b] w fun e w' => e = .returned (.tuple #[.int .i32 (wrap32 (a * b)), .int .i64 0]) ∧ w' = w := by
  have hc := refArity_at 32 2 (by decide)
  go_enter Tryd.func18, Tryd.ntmps18
  go_wp2_with (first | (go_at_call 21; refine (hc _).mono ?_; rintro e w' ⟨rfl, rfl⟩) | (go_at_call 43; refine (refSums_32 _ _ _ (by assumption) (by assumption) (by assumption) (by assumption)).mono ?_; rintro e w' ⟨rfl, rfl⟩))
  go_ret2
  exact ⟨rfl, rfl⟩

set_option maxHeartbeats 1000000 in
theorem refBinary_35 (a b : Int) (w : World) (ha1 : -2147483648 ≤ a) (ha2 : a ≤ 2147483647) (hb1 : -2147483648 ≤ b) (hb2 : b ≤ 2147483647) :
    Calls Tryd.prog 18 #[.int .i64 35, .int .i32 a, .int .i32 b] w fun e w' => e = .returned (.tuple #[.int .i32 (min a b), .int .i64 0]) ∧ w' = w := by
  have hc := refArity_at 35 2 (by decide)
  go_enter Tryd.func18, Tryd.ntmps18
  go_wp2_with (first | (go_at_call 21; refine (hc _).mono ?_; rintro e w' ⟨rfl, rfl⟩) | (go_at_call 43; refine (refSums_35 _ _ _ (by assumption) (by assumption) (by assumption) (by assumption)).mono ?_; rintro e w' ⟨rfl, rfl⟩))
  go_ret2
  exact ⟨rfl, rfl⟩

set_option maxHeartbeats 1000000 in
theorem refBinary_36 (a b : Int) (w : World) (ha1 : -2147483648 ≤ a) (ha2 : a ≤ 2147483647) (hb1 : -2147483648 ≤ b) (hb2 : b ≤ 2147483647) :
    Calls Tryd.prog 18 #[.int .i64 36, .int .i32 a, .int .i32 b] w fun e w' => e = .returned (.tuple #[.int .i32 (max a b), .int .i64 0]) ∧ w' = w := by
  have hc := refArity_at 36 2 (by decide)
  go_enter Tryd.func18, Tryd.ntmps18
  go_wp2_with (first | (go_at_call 21; refine (hc _).mono ?_; rintro e w' ⟨rfl, rfl⟩) | (go_at_call 43; refine (refSums_36 _ _ _ (by assumption) (by assumption) (by assumption) (by assumption)).mono ?_; rintro e w' ⟨rfl, rfl⟩))
  go_ret2
  exact ⟨rfl, rfl⟩

set_option maxHeartbeats 1000000 in
theorem refBinary_33 (a b : Int) (w : World) (ha1 : -2147483648 ≤ a) (ha2 : a ≤ 2147483647) (hb1 : -2147483648 ≤ b) (hb2 : b ≤ 2147483647) (hz : (b == 0) = false) (hn : b ≠ 0) :
    Calls Tryd.prog 18 #[.int .i64 33, .int .i32 a, .int .i32 b] w fun e w' => e = .returned (.tuple #[.int .i32 (wrap32 (a.tdiv b)), .int .i64 0]) ∧ w' = w := by
  have hc := refArity_at 33 2 (by decide)
  go_enter Tryd.func18, Tryd.ntmps18
  go_wp2_with (first | (go_at_call 21; refine (hc _).mono ?_; rintro e w' ⟨rfl, rfl⟩) | (go_at_call 43; refine (refSums_33 _ _ _ (by assumption) (by assumption) (by assumption) (by assumption) hz hn).mono ?_; rintro e w' ⟨rfl, rfl⟩))
  go_ret2
  exact ⟨rfl, rfl⟩

set_option maxHeartbeats 1000000 in
theorem refBinary_33z (a : Int) (w : World) (ha1 : -2147483648 ≤ a) (ha2 : a ≤ 2147483647) :
    Calls Tryd.prog 18 #[.int .i64 33, .int .i32 a, .int .i32 0] w fun e w' => e = .returned (.tuple #[.int .i32 (0), .int .i64 0]) ∧ w' = w := by
  have hc := refArity_at 33 2 (by decide)
  go_enter Tryd.func18, Tryd.ntmps18
  go_wp2_with (first | (go_at_call 21; refine (hc _).mono ?_; rintro e w' ⟨rfl, rfl⟩) | (go_at_call 43; refine (refSums_33z _ _).mono ?_; rintro e w' ⟨rfl, rfl⟩))
  go_ret2
  exact ⟨rfl, rfl⟩

set_option maxHeartbeats 1000000 in
theorem refBinary_34 (a b : Int) (w : World) (ha1 : -2147483648 ≤ a) (ha2 : a ≤ 2147483647) (hb1 : -2147483648 ≤ b) (hb2 : b ≤ 2147483647) (hz : (b == 0) = false) (hn : b ≠ 0) :
    Calls Tryd.prog 18 #[.int .i64 34, .int .i32 a, .int .i32 b] w fun e w' => e = .returned (.tuple #[.int .i32 (a.tmod b), .int .i64 0]) ∧ w' = w := by
  have hc := refArity_at 34 2 (by decide)
  go_enter Tryd.func18, Tryd.ntmps18
  go_wp2_with (first | (go_at_call 21; refine (hc _).mono ?_; rintro e w' ⟨rfl, rfl⟩) | (go_at_call 43; refine (refSums_34 _ _ _ (by assumption) (by assumption) (by assumption) (by assumption) hz hn).mono ?_; rintro e w' ⟨rfl, rfl⟩))
  go_ret2
  exact ⟨rfl, rfl⟩

set_option maxHeartbeats 1000000 in
theorem refBinary_34z (a : Int) (w : World) (ha1 : -2147483648 ≤ a) (ha2 : a ≤ 2147483647) :
    Calls Tryd.prog 18 #[.int .i64 34, .int .i32 a, .int .i32 0] w fun e w' => e = .returned (.tuple #[.int .i32 (0), .int .i64 0]) ∧ w' = w := by
  have hc := refArity_at 34 2 (by decide)
  go_enter Tryd.func18, Tryd.ntmps18
  go_wp2_with (first | (go_at_call 21; refine (hc _).mono ?_; rintro e w' ⟨rfl, rfl⟩) | (go_at_call 43; refine (refSums_34z _ _).mono ?_; rintro e w' ⟨rfl, rfl⟩))
  go_ret2
  exact ⟨rfl, rfl⟩

set_option maxHeartbeats 1000000 in
theorem refBinary_40 (a b : Int) (w : World) :
    Calls Tryd.prog 18 #[.int .i64 40, .int .i32 a, .int .i32 b] w fun e w' => e = .returned (.tuple #[.int .i32 (tr (a == b)), .int .i64 0]) ∧ w' = w := by
  have hc := refArity_at 40 2 (by decide)
  all_goals
    go_enter Tryd.func18, Tryd.ntmps18
    go_wp2_with (first | (go_at_call 21; refine (hc _).mono ?_; rintro e w' ⟨rfl, rfl⟩) | (go_at_call 42; refine (refTruth_any _ _).mono ?_; rintro e w' ⟨rfl, rfl⟩))
    all_goals (go_ret2; exact ⟨rfl, rfl⟩)

set_option maxHeartbeats 1000000 in
theorem refBinary_41 (a b : Int) (w : World) :
    Calls Tryd.prog 18 #[.int .i64 41, .int .i32 a, .int .i32 b] w fun e w' => e = .returned (.tuple #[.int .i32 (tr (a != b)), .int .i64 0]) ∧ w' = w := by
  have hc := refArity_at 41 2 (by decide)
  all_goals
    go_enter Tryd.func18, Tryd.ntmps18
    go_wp2_with (first | (go_at_call 21; refine (hc _).mono ?_; rintro e w' ⟨rfl, rfl⟩) | (go_at_call 42; refine (refTruth_any _ _).mono ?_; rintro e w' ⟨rfl, rfl⟩))
    all_goals (go_ret2; exact ⟨rfl, rfl⟩)

set_option maxHeartbeats 1000000 in
theorem refBinary_42 (a b : Int) (w : World) :
    Calls Tryd.prog 18 #[.int .i64 42, .int .i32 a, .int .i32 b] w fun e w' => e = .returned (.tuple #[.int .i32 (tr (decide (a < b))), .int .i64 0]) ∧ w' = w := by
  have hc := refArity_at 42 2 (by decide)
  all_goals
    go_enter Tryd.func18, Tryd.ntmps18
    go_wp2_with (first | (go_at_call 21; refine (hc _).mono ?_; rintro e w' ⟨rfl, rfl⟩) | (go_at_call 42; refine (refTruth_any _ _).mono ?_; rintro e w' ⟨rfl, rfl⟩))
    all_goals (go_ret2; exact ⟨rfl, rfl⟩)

set_option maxHeartbeats 1000000 in
theorem refBinary_44 (a b : Int) (w : World) :
    Calls Tryd.prog 18 #[.int .i64 44, .int .i32 a, .int .i32 b] w fun e w' => e = .returned (.tuple #[.int .i32 (tr (decide (b < a))), .int .i64 0]) ∧ w' = w := by
  have hc := refArity_at 44 2 (by decide)
  all_goals
    go_enter Tryd.func18, Tryd.ntmps18
    go_wp2_with (first | (go_at_call 21; refine (hc _).mono ?_; rintro e w' ⟨rfl, rfl⟩) | (go_at_call 42; refine (refTruth_any _ _).mono ?_; rintro e w' ⟨rfl, rfl⟩))
    all_goals (go_ret2; exact ⟨rfl, rfl⟩)

set_option maxHeartbeats 1000000 in
theorem refBinary_43 (a b : Int) (w : World) :
    Calls Tryd.prog 18 #[.int .i64 43, .int .i32 a, .int .i32 b] w fun e w' => e = .returned (.tuple #[.int .i32 (tr (decide (a ≤ b))), .int .i64 0]) ∧ w' = w := by
  have hc := refArity_at 43 2 (by decide)
  by_cases h : a < b
  all_goals
    go_enter Tryd.func18, Tryd.ntmps18
    go_wp2_with (first | (go_at_call 21; refine (hc _).mono ?_; rintro e w' ⟨rfl, rfl⟩) | (go_at_call 42; refine (refTruth_any _ _).mono ?_; rintro e w' ⟨rfl, rfl⟩))
    all_goals (go_ret2; exact ⟨ret_pair (congrArg tr (by first | rfl | (rw [Bool.eq_iff_iff]; simp; omega))), rfl⟩)

set_option maxHeartbeats 1000000 in
theorem refBinary_45 (a b : Int) (w : World) :
    Calls Tryd.prog 18 #[.int .i64 45, .int .i32 a, .int .i32 b] w fun e w' => e = .returned (.tuple #[.int .i32 (tr (decide (b ≤ a))), .int .i64 0]) ∧ w' = w := by
  have hc := refArity_at 45 2 (by decide)
  by_cases h : b < a
  all_goals
    go_enter Tryd.func18, Tryd.ntmps18
    go_wp2_with (first | (go_at_call 21; refine (hc _).mono ?_; rintro e w' ⟨rfl, rfl⟩) | (go_at_call 42; refine (refTruth_any _ _).mono ?_; rintro e w' ⟨rfl, rfl⟩))
    all_goals (go_ret2; exact ⟨ret_pair (congrArg tr (by first | rfl | (rw [Bool.eq_iff_iff]; simp; omega))), rfl⟩)

set_option maxHeartbeats 1000000 in
theorem refBinary_50 (a b : Int) (w : World) :
    Calls Tryd.prog 18 #[.int .i64 50, .int .i32 a, .int .i32 b] w fun e w' => e = .returned (.tuple #[.int .i32 (tr (a != 0 && b != 0)), .int .i64 0]) ∧ w' = w := by
  have hc := refArity_at 50 2 (by decide)
  by_cases h : a = 0
  all_goals
    go_enter Tryd.func18, Tryd.ntmps18
    go_wp2_with (first | (go_at_call 21; refine (hc _).mono ?_; rintro e w' ⟨rfl, rfl⟩) | (go_at_call 42; refine (refTruth_any _ _).mono ?_; rintro e w' ⟨rfl, rfl⟩))
    all_goals (go_ret2; exact ⟨ret_pair (congrArg tr (by first | rfl | simp [*])), rfl⟩)

set_option maxHeartbeats 1000000 in
theorem refBinary_51 (a b : Int) (w : World) :
    Calls Tryd.prog 18 #[.int .i64 51, .int .i32 a, .int .i32 b] w fun e w' => e = .returned (.tuple #[.int .i32 (tr (a != 0 || b != 0)), .int .i64 0]) ∧ w' = w := by
  have hc := refArity_at 51 2 (by decide)
  by_cases h : a = 0
  all_goals
    go_enter Tryd.func18, Tryd.ntmps18
    go_wp2_with (first | (go_at_call 21; refine (hc _).mono ?_; rintro e w' ⟨rfl, rfl⟩) | (go_at_call 42; refine (refTruth_any _ _).mono ?_; rintro e w' ⟨rfl, rfl⟩))
    all_goals (go_ret2; exact ⟨ret_pair (congrArg tr (by first | rfl | simp [*])), rfl⟩)

set_option maxHeartbeats 1000000 in
theorem refUnary_20 (a : Int) (w : World) (ha1 : -2147483648 ≤ a) (ha2 : a ≤ 2147483647) :
    Calls Tryd.prog 19 #[.int .i64 20, .int .i32 a] w fun e w' => e = .returned (.tuple #[.int .i32 (wrap32 (-a)), .int .i64 0]) ∧ w' = w := by
  go_enter Tryd.func19, Tryd.ntmps19
  go_wp2_with (go_at_call 44; refine (refWrap_any _ _).mono ?_; rintro e w' ⟨rfl, rfl⟩)
  go_ret2
  exact ⟨ret_pair (by first | rfl | (congr 1; omega)), rfl⟩
set_option maxHeartbeats 1000000 in
theorem refUnary_21 (a : Int) (w : World) :
    Calls Tryd.prog 19 #[.int .i64 21, .int .i32 a] w fun e w' => e = .returned (.tuple #[.int .i32 (tr (a == 0)), .int .i64 0]) ∧ w' = w := by
  go_enter Tryd.func19, Tryd.ntmps19
  go_wp2_with (go_at_call 42; refine (refTruth_any _ _).mono ?_; rintro e w' ⟨rfl, rfl⟩)
  go_ret2
  exact ⟨rfl, rfl⟩
set_option maxHeartbeats 1000000 in
theorem refUnary_22 (a : Int) (w : World) (ha1 : -2147483648 ≤ a) (ha2 : a ≤ 2147483647) :
    Calls Tryd.prog 19 #[.int .i64 22, .int .i32 a] w fun e w' => e = .returned (.tuple #[.int .i32 (wrap32 (sz a)), .int .i64 0]) ∧ w' = w := by
  go_enter Tryd.func19, Tryd.ntmps19
  go_wp2_with (first | (go_at_call 45; refine (refSize_any _ _ (by omega) (by omega)).mono ?_; rintro e w' ⟨rfl, rfl⟩) | (go_at_call 44; refine (refWrap_any _ _).mono ?_; rintro e w' ⟨rfl, rfl⟩))
  go_ret2
  exact ⟨rfl, rfl⟩

end Go.Proofs.YtcehnibfmhbeiaaDoor
