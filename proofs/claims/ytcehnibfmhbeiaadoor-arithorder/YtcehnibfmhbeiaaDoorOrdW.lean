import Derived.Test.YtcehnibfmhbeiaaDoorLaid
import Derived.Test.YtcehnibfmhbeiaaDoorMath
namespace Go.Proofs.YtcehnibfmhbeiaaDoor.arithOrder
open Go.RowKit

set_option maxRecDepth 100000 in
set_option maxHeartbeats 1000000 in
theorem ordered_lt (a b : Int) (w0 w : World) (hA : St w0 w) (hlt : a < b) :
    Calls Tryd.prog 15 #[.int .i32 a, .int .i32 b] w fun e w' => e = .returned (.bool true) ∧ St w0 w' := by
  have k1 : ∀ w, St w0 w → Calls Tryd.prog 8 #[.int .i64 42, .int .i32 a, .int .i32 b] w fun e w' => e = .returned (.tuple #[.int .i32 1, .bool true]) ∧ St w0 w' := by
    intro w h
    have := bin_42 (a) (b) w0 w h
    rw [show tr (decide (a < b)) = 1 by rw [show (decide (a < b)) = true by simp; omega]; rfl] at this
    exact this
  have k2 : ∀ w, St w0 w → Calls Tryd.prog 8 #[.int .i64 40, .int .i32 a, .int .i32 b] w fun e w' => e = .returned (.tuple #[.int .i32 0, .bool true]) ∧ St w0 w' := by
    intro w h
    have := bin_40 (a) (b) w0 w h
    rw [show tr (a == b) = 0 by rw [show (a == b) = false by simp; omega]; rfl] at this
    exact this
  have k3 : ∀ w, St w0 w → Calls Tryd.prog 8 #[.int .i64 44, .int .i32 a, .int .i32 b] w fun e w' => e = .returned (.tuple #[.int .i32 0, .bool true]) ∧ St w0 w' := by
    intro w h
    have := bin_44 (a) (b) w0 w h
    rw [show tr (decide (b < a)) = 0 by rw [show (decide (b < a)) = false by simp; omega]; rfl] at this
    exact this
  have k4 : ∀ w, St w0 w → Calls Tryd.prog 8 #[.int .i64 43, .int .i32 a, .int .i32 b] w fun e w' => e = .returned (.tuple #[.int .i32 1, .bool true]) ∧ St w0 w' := by
    intro w h
    have := bin_43 (a) (b) w0 w h
    rw [show tr (decide (a ≤ b)) = 1 by rw [show (decide (a ≤ b)) = true by simp; omega]; rfl] at this
    exact this
  have k5 : ∀ w, St w0 w → Calls Tryd.prog 8 #[.int .i64 41, .int .i32 a, .int .i32 b] w fun e w' => e = .returned (.tuple #[.int .i32 1, .bool true]) ∧ St w0 w' := by
    intro w h
    have := bin_41 (a) (b) w0 w h
    rw [show tr (a != b) = 1 by rw [show (a != b) = true by simp; omega]; rfl] at this
    exact this
  have k6 : ∀ w, St w0 w → Calls Tryd.prog 8 #[.int .i64 45, .int .i32 a, .int .i32 b] w fun e w' => e = .returned (.tuple #[.int .i32 0, .bool true]) ∧ St w0 w' := by
    intro w h
    have := bin_45 (a) (b) w0 w h
    rw [show tr (decide (b ≤ a)) = 0 by rw [show (decide (b ≤ a)) = false by simp; omega]; rfl] at this
    exact this
  have k7 : ∀ w, St w0 w → Calls Tryd.prog 8 #[.int .i64 35, .int .i32 a, .int .i32 b] w fun e w' => e = .returned (.tuple #[.int .i32 a, .bool true]) ∧ St w0 w' := by
    intro w h
    have := bin_35 (a) (b) w0 w h
    rw [show min a b = a by omega] at this
    exact this
  have k8 : ∀ w, St w0 w → Calls Tryd.prog 8 #[.int .i64 36, .int .i32 a, .int .i32 b] w fun e w' => e = .returned (.tuple #[.int .i32 b, .bool true]) ∧ St w0 w' := by
    intro w h
    have := bin_36 (a) (b) w0 w h
    rw [show max a b = b by omega] at this
    exact this
  have hne : (a == b) = false := by simp; omega
  have hne2 : (b == a) = false := by simp; omega
  go_enter Tryd.func15, Tryd.ntmps15
  go_wp2_with (first | (go_at_call 8; first | (with_reducible refine (k1 _ (by assumption)).mono ?_; rintro e w' ⟨rfl, hs⟩) | (with_reducible refine (k2 _ (by assumption)).mono ?_; rintro e w' ⟨rfl, hs⟩) | (with_reducible refine (k3 _ (by assumption)).mono ?_; rintro e w' ⟨rfl, hs⟩) | (with_reducible refine (k4 _ (by assumption)).mono ?_; rintro e w' ⟨rfl, hs⟩) | (with_reducible refine (k5 _ (by assumption)).mono ?_; rintro e w' ⟨rfl, hs⟩) | (with_reducible refine (k6 _ (by assumption)).mono ?_; rintro e w' ⟨rfl, hs⟩) | (with_reducible refine (k7 _ (by assumption)).mono ?_; rintro e w' ⟨rfl, hs⟩) | (with_reducible refine (k8 _ (by assumption)).mono ?_; rintro e w' ⟨rfl, hs⟩)))
  go_ret
  exact ⟨rfl, by assumption⟩

set_option maxRecDepth 100000 in
set_option maxHeartbeats 1000000 in
theorem ordered_eq (a : Int) (w0 w : World) (hA : St w0 w)  :
    Calls Tryd.prog 15 #[.int .i32 a, .int .i32 a] w fun e w' => e = .returned (.bool true) ∧ St w0 w' := by
  have k1 : ∀ w, St w0 w → Calls Tryd.prog 8 #[.int .i64 42, .int .i32 a, .int .i32 a] w fun e w' => e = .returned (.tuple #[.int .i32 0, .bool true]) ∧ St w0 w' := by
    intro w h
    have := bin_42 (a) (a) w0 w h
    rw [show tr (decide (a < a)) = 0 by simp [tr]] at this
    exact this
  have k2 : ∀ w, St w0 w → Calls Tryd.prog 8 #[.int .i64 40, .int .i32 a, .int .i32 a] w fun e w' => e = .returned (.tuple #[.int .i32 1, .bool true]) ∧ St w0 w' := by
    intro w h
    have := bin_40 (a) (a) w0 w h
    rw [show tr (a == a) = 1 by simp [tr]] at this
    exact this
  have k3 : ∀ w, St w0 w → Calls Tryd.prog 8 #[.int .i64 44, .int .i32 a, .int .i32 a] w fun e w' => e = .returned (.tuple #[.int .i32 0, .bool true]) ∧ St w0 w' := by
    intro w h
    have := bin_44 (a) (a) w0 w h
    rw [show tr (decide (a < a)) = 0 by simp [tr]] at this
    exact this
  have k4 : ∀ w, St w0 w → Calls Tryd.prog 8 #[.int .i64 43, .int .i32 a, .int .i32 a] w fun e w' => e = .returned (.tuple #[.int .i32 1, .bool true]) ∧ St w0 w' := by
    intro w h
    have := bin_43 (a) (a) w0 w h
    rw [show tr (decide (a ≤ a)) = 1 by simp [tr]] at this
    exact this
  have k5 : ∀ w, St w0 w → Calls Tryd.prog 8 #[.int .i64 41, .int .i32 a, .int .i32 a] w fun e w' => e = .returned (.tuple #[.int .i32 0, .bool true]) ∧ St w0 w' := by
    intro w h
    have := bin_41 (a) (a) w0 w h
    rw [show tr (a != a) = 0 by simp [tr]] at this
    exact this
  have k6 : ∀ w, St w0 w → Calls Tryd.prog 8 #[.int .i64 45, .int .i32 a, .int .i32 a] w fun e w' => e = .returned (.tuple #[.int .i32 1, .bool true]) ∧ St w0 w' := by
    intro w h
    have := bin_45 (a) (a) w0 w h
    rw [show tr (decide (a ≤ a)) = 1 by simp [tr]] at this
    exact this
  have k7 : ∀ w, St w0 w → Calls Tryd.prog 8 #[.int .i64 35, .int .i32 a, .int .i32 a] w fun e w' => e = .returned (.tuple #[.int .i32 a, .bool true]) ∧ St w0 w' := by
    intro w h
    have := bin_35 (a) (a) w0 w h
    rw [show min a a = a by omega] at this
    exact this
  have k8 : ∀ w, St w0 w → Calls Tryd.prog 8 #[.int .i64 36, .int .i32 a, .int .i32 a] w fun e w' => e = .returned (.tuple #[.int .i32 a, .bool true]) ∧ St w0 w' := by
    intro w h
    have := bin_36 (a) (a) w0 w h
    rw [show max a a = a by omega] at this
    exact this
  go_enter Tryd.func15, Tryd.ntmps15
  go_wp2_with (first | (go_at_call 8; first | (with_reducible refine (k1 _ (by assumption)).mono ?_; rintro e w' ⟨rfl, hs⟩) | (with_reducible refine (k2 _ (by assumption)).mono ?_; rintro e w' ⟨rfl, hs⟩) | (with_reducible refine (k3 _ (by assumption)).mono ?_; rintro e w' ⟨rfl, hs⟩) | (with_reducible refine (k4 _ (by assumption)).mono ?_; rintro e w' ⟨rfl, hs⟩) | (with_reducible refine (k5 _ (by assumption)).mono ?_; rintro e w' ⟨rfl, hs⟩) | (with_reducible refine (k6 _ (by assumption)).mono ?_; rintro e w' ⟨rfl, hs⟩) | (with_reducible refine (k7 _ (by assumption)).mono ?_; rintro e w' ⟨rfl, hs⟩) | (with_reducible refine (k8 _ (by assumption)).mono ?_; rintro e w' ⟨rfl, hs⟩)))
  go_ret
  exact ⟨rfl, by assumption⟩

set_option maxRecDepth 100000 in
set_option maxHeartbeats 1000000 in
theorem ordered_gt (a b : Int) (w0 w : World) (hA : St w0 w) (hlt : b < a) :
    Calls Tryd.prog 15 #[.int .i32 a, .int .i32 b] w fun e w' => e = .returned (.bool true) ∧ St w0 w' := by
  have k1 : ∀ w, St w0 w → Calls Tryd.prog 8 #[.int .i64 42, .int .i32 a, .int .i32 b] w fun e w' => e = .returned (.tuple #[.int .i32 0, .bool true]) ∧ St w0 w' := by
    intro w h
    have := bin_42 (a) (b) w0 w h
    rw [show tr (decide (a < b)) = 0 by rw [show (decide (a < b)) = false by simp; omega]; rfl] at this
    exact this
  have k2 : ∀ w, St w0 w → Calls Tryd.prog 8 #[.int .i64 40, .int .i32 a, .int .i32 b] w fun e w' => e = .returned (.tuple #[.int .i32 0, .bool true]) ∧ St w0 w' := by
    intro w h
    have := bin_40 (a) (b) w0 w h
    rw [show tr (a == b) = 0 by rw [show (a == b) = false by simp; omega]; rfl] at this
    exact this
  have k3 : ∀ w, St w0 w → Calls Tryd.prog 8 #[.int .i64 44, .int .i32 a, .int .i32 b] w fun e w' => e = .returned (.tuple #[.int .i32 1, .bool true]) ∧ St w0 w' := by
    intro w h
    have := bin_44 (a) (b) w0 w h
    rw [show tr (decide (b < a)) = 1 by rw [show (decide (b < a)) = true by simp; omega]; rfl] at this
    exact this
  have k4 : ∀ w, St w0 w → Calls Tryd.prog 8 #[.int .i64 43, .int .i32 a, .int .i32 b] w fun e w' => e = .returned (.tuple #[.int .i32 0, .bool true]) ∧ St w0 w' := by
    intro w h
    have := bin_43 (a) (b) w0 w h
    rw [show tr (decide (a ≤ b)) = 0 by rw [show (decide (a ≤ b)) = false by simp; omega]; rfl] at this
    exact this
  have k5 : ∀ w, St w0 w → Calls Tryd.prog 8 #[.int .i64 41, .int .i32 a, .int .i32 b] w fun e w' => e = .returned (.tuple #[.int .i32 1, .bool true]) ∧ St w0 w' := by
    intro w h
    have := bin_41 (a) (b) w0 w h
    rw [show tr (a != b) = 1 by rw [show (a != b) = true by simp; omega]; rfl] at this
    exact this
  have k6 : ∀ w, St w0 w → Calls Tryd.prog 8 #[.int .i64 45, .int .i32 a, .int .i32 b] w fun e w' => e = .returned (.tuple #[.int .i32 1, .bool true]) ∧ St w0 w' := by
    intro w h
    have := bin_45 (a) (b) w0 w h
    rw [show tr (decide (b ≤ a)) = 1 by rw [show (decide (b ≤ a)) = true by simp; omega]; rfl] at this
    exact this
  have k7 : ∀ w, St w0 w → Calls Tryd.prog 8 #[.int .i64 35, .int .i32 a, .int .i32 b] w fun e w' => e = .returned (.tuple #[.int .i32 b, .bool true]) ∧ St w0 w' := by
    intro w h
    have := bin_35 (a) (b) w0 w h
    rw [show min a b = b by omega] at this
    exact this
  have k8 : ∀ w, St w0 w → Calls Tryd.prog 8 #[.int .i64 36, .int .i32 a, .int .i32 b] w fun e w' => e = .returned (.tuple #[.int .i32 a, .bool true]) ∧ St w0 w' := by
    intro w h
    have := bin_36 (a) (b) w0 w h
    rw [show max a b = a by omega] at this
    exact this
  have k9 : ∀ w, St w0 w → Calls Tryd.prog 8 #[.int .i64 43, .int .i32 b, .int .i32 a] w fun e w' => e = .returned (.tuple #[.int .i32 1, .bool true]) ∧ St w0 w' := by
    intro w h
    have := bin_43 (b) (a) w0 w h
    rw [show tr (decide (b ≤ a)) = 1 by rw [show (decide (b ≤ a)) = true by simp; omega]; rfl] at this
    exact this
  have hne : (a == b) = false := by simp; omega
  have hne2 : (b == a) = false := by simp; omega
  go_enter Tryd.func15, Tryd.ntmps15
  go_wp2_with (first | (go_at_call 8; first | (with_reducible refine (k1 _ (by assumption)).mono ?_; rintro e w' ⟨rfl, hs⟩) | (with_reducible refine (k2 _ (by assumption)).mono ?_; rintro e w' ⟨rfl, hs⟩) | (with_reducible refine (k3 _ (by assumption)).mono ?_; rintro e w' ⟨rfl, hs⟩) | (with_reducible refine (k4 _ (by assumption)).mono ?_; rintro e w' ⟨rfl, hs⟩) | (with_reducible refine (k5 _ (by assumption)).mono ?_; rintro e w' ⟨rfl, hs⟩) | (with_reducible refine (k6 _ (by assumption)).mono ?_; rintro e w' ⟨rfl, hs⟩) | (with_reducible refine (k7 _ (by assumption)).mono ?_; rintro e w' ⟨rfl, hs⟩) | (with_reducible refine (k8 _ (by assumption)).mono ?_; rintro e w' ⟨rfl, hs⟩) | (with_reducible refine (k9 _ (by assumption)).mono ?_; rintro e w' ⟨rfl, hs⟩)))
  go_ret
  exact ⟨rfl, by assumption⟩


set_option maxRecDepth 100000 in
set_option maxHeartbeats 1000000 in
theorem logical_zzg (w0 w : World) (hA : St w0 w) :
    Calls Tryd.prog 16 #[.int .i32 0, .int .i32 0] w fun e w' => e = .returned (.bool true) ∧ St w0 w' := by
  have k1 : ∀ w, St w0 w → Calls Tryd.prog 9 #[.int .i64 21, .int .i32 0] w fun e w' => e = .returned (.tuple #[.int .i32 1, .int .i64 0]) ∧ St w0 w' := by
    intro w h
    have := unary_21 (0) w0 w h
    rw [show tr ((0 : Int) == 0) = 1 by rw [show ((0 : Int) == 0) = true by first | rfl | (simp; omega) | simp [*]]; rfl] at this
    exact this
  have k2 : ∀ w, St w0 w → Calls Tryd.prog 8 #[.int .i64 50, .int .i32 0, .int .i32 0] w fun e w' => e = .returned (.tuple #[.int .i32 0, .bool true]) ∧ St w0 w' := by
    intro w h
    have := bin_50 (0) (0) w0 w h
    rw [show tr ((0 : Int) != 0 && (0 : Int) != 0) = 0 by rw [show ((0 : Int) != 0 && (0 : Int) != 0) = false by first | rfl | (simp; omega) | simp [*]]; rfl] at this
    exact this
  have k3 : ∀ w, St w0 w → Calls Tryd.prog 8 #[.int .i64 51, .int .i32 0, .int .i32 0] w fun e w' => e = .returned (.tuple #[.int .i32 0, .bool true]) ∧ St w0 w' := by
    intro w h
    have := bin_51 (0) (0) w0 w h
    rw [show tr ((0 : Int) != 0 || (0 : Int) != 0) = 0 by rw [show ((0 : Int) != 0 || (0 : Int) != 0) = false by first | rfl | (simp; omega) | simp [*]]; rfl] at this
    exact this
  have k4 : ∀ w, St w0 w → Calls Tryd.prog 8 #[.int .i64 51, .int .i32 1, .int .i32 1] w fun e w' => e = .returned (.tuple #[.int .i32 1, .bool true]) ∧ St w0 w' := by
    intro w h
    have := bin_51 (1) (1) w0 w h
    rw [show tr ((1 : Int) != 0 || (1 : Int) != 0) = 1 by rw [show ((1 : Int) != 0 || (1 : Int) != 0) = true by first | rfl | (simp; omega) | simp [*]]; rfl] at this
    exact this
  have k5 : ∀ w, St w0 w → Calls Tryd.prog 8 #[.int .i64 50, .int .i32 1, .int .i32 1] w fun e w' => e = .returned (.tuple #[.int .i32 1, .bool true]) ∧ St w0 w' := by
    intro w h
    have := bin_50 (1) (1) w0 w h
    rw [show tr ((1 : Int) != 0 && (1 : Int) != 0) = 1 by rw [show ((1 : Int) != 0 && (1 : Int) != 0) = true by first | rfl | (simp; omega) | simp [*]]; rfl] at this
    exact this
  have k6 : ∀ w, St w0 w → Calls Tryd.prog 9 #[.int .i64 21, .int .i32 1] w fun e w' => e = .returned (.tuple #[.int .i32 0, .int .i64 0]) ∧ St w0 w' := by
    intro w h
    have := unary_21 (1) w0 w h
    rw [show tr ((1 : Int) == 0) = 0 by rw [show ((1 : Int) == 0) = false by first | rfl | (simp; omega) | simp [*]]; rfl] at this
    exact this
  have k7 : ∀ w, St w0 w → Calls Tryd.prog 8 #[.int .i64 42, .int .i32 0, .int .i32 0] w fun e w' => e = .returned (.tuple #[.int .i32 0, .bool true]) ∧ St w0 w' := by
    intro w h
    have := bin_42 (0) (0) w0 w h
    rw [show tr (decide ((0 : Int) < (0 : Int))) = 0 by rw [show (decide ((0 : Int) < (0 : Int))) = false by first | rfl | (simp; omega) | simp [*]]; rfl] at this
    exact this
  have k8 : ∀ w, St w0 w → Calls Tryd.prog 8 #[.int .i64 45, .int .i32 0, .int .i32 0] w fun e w' => e = .returned (.tuple #[.int .i32 1, .bool true]) ∧ St w0 w' := by
    intro w h
    have := bin_45 (0) (0) w0 w h
    rw [show tr (decide ((0 : Int) ≤ (0 : Int))) = 1 by rw [show (decide ((0 : Int) ≤ (0 : Int))) = true by first | rfl | (simp; omega) | simp [*]]; rfl] at this
    exact this
  go_enter Tryd.func16, Tryd.ntmps16
  go_wp2_with (first | (go_at_call 9; first | (with_reducible refine (k1 _ (by assumption)).mono ?_; rintro e w' ⟨rfl, hs⟩) | (with_reducible refine (k6 _ (by assumption)).mono ?_; rintro e w' ⟨rfl, hs⟩)) | (go_at_call 8; first | (with_reducible refine (k2 _ (by assumption)).mono ?_; rintro e w' ⟨rfl, hs⟩) | (with_reducible refine (k3 _ (by assumption)).mono ?_; rintro e w' ⟨rfl, hs⟩) | (with_reducible refine (k4 _ (by assumption)).mono ?_; rintro e w' ⟨rfl, hs⟩) | (with_reducible refine (k5 _ (by assumption)).mono ?_; rintro e w' ⟨rfl, hs⟩) | (with_reducible refine (k7 _ (by assumption)).mono ?_; rintro e w' ⟨rfl, hs⟩) | (with_reducible refine (k8 _ (by assumption)).mono ?_; rintro e w' ⟨rfl, hs⟩)))
  go_ret
  exact ⟨rfl, by assumption⟩

set_option maxRecDepth 100000 in
set_option maxHeartbeats 1000000 in
theorem logical_znl (b : Int) (w0 w : World) (hA : St w0 w) (hb : b ≠ 0) (hl : 0 < b) :
    Calls Tryd.prog 16 #[.int .i32 0, .int .i32 b] w fun e w' => e = .returned (.bool true) ∧ St w0 w' := by
  have k1 : ∀ w, St w0 w → Calls Tryd.prog 9 #[.int .i64 21, .int .i32 0] w fun e w' => e = .returned (.tuple #[.int .i32 1, .int .i64 0]) ∧ St w0 w' := by
    intro w h
    have := unary_21 (0) w0 w h
    rw [show tr ((0 : Int) == 0) = 1 by rw [show ((0 : Int) == 0) = true by first | rfl | (simp; omega) | simp [*]]; rfl] at this
    exact this
  have k2 : ∀ w, St w0 w → Calls Tryd.prog 9 #[.int .i64 21, .int .i32 b] w fun e w' => e = .returned (.tuple #[.int .i32 0, .int .i64 0]) ∧ St w0 w' := by
    intro w h
    have := unary_21 (b) w0 w h
    rw [show tr ((b : Int) == 0) = 0 by rw [show ((b : Int) == 0) = false by first | rfl | (simp; omega) | simp [*]]; rfl] at this
    exact this
  have k3 : ∀ w, St w0 w → Calls Tryd.prog 8 #[.int .i64 50, .int .i32 0, .int .i32 b] w fun e w' => e = .returned (.tuple #[.int .i32 0, .bool true]) ∧ St w0 w' := by
    intro w h
    have := bin_50 (0) (b) w0 w h
    rw [show tr ((0 : Int) != 0 && (b : Int) != 0) = 0 by rw [show ((0 : Int) != 0 && (b : Int) != 0) = false by first | rfl | (simp; omega) | simp [*]]; rfl] at this
    exact this
  have k4 : ∀ w, St w0 w → Calls Tryd.prog 8 #[.int .i64 51, .int .i32 0, .int .i32 b] w fun e w' => e = .returned (.tuple #[.int .i32 1, .bool true]) ∧ St w0 w' := by
    intro w h
    have := bin_51 (0) (b) w0 w h
    rw [show tr ((0 : Int) != 0 || (b : Int) != 0) = 1 by rw [show ((0 : Int) != 0 || (b : Int) != 0) = true by first | rfl | (simp; omega) | simp [*]]; rfl] at this
    exact this
  have k5 : ∀ w, St w0 w → Calls Tryd.prog 9 #[.int .i64 21, .int .i32 1] w fun e w' => e = .returned (.tuple #[.int .i32 0, .int .i64 0]) ∧ St w0 w' := by
    intro w h
    have := unary_21 (1) w0 w h
    rw [show tr ((1 : Int) == 0) = 0 by rw [show ((1 : Int) == 0) = false by first | rfl | (simp; omega) | simp [*]]; rfl] at this
    exact this
  have k6 : ∀ w, St w0 w → Calls Tryd.prog 8 #[.int .i64 51, .int .i32 1, .int .i32 0] w fun e w' => e = .returned (.tuple #[.int .i32 1, .bool true]) ∧ St w0 w' := by
    intro w h
    have := bin_51 (1) (0) w0 w h
    rw [show tr ((1 : Int) != 0 || (0 : Int) != 0) = 1 by rw [show ((1 : Int) != 0 || (0 : Int) != 0) = true by first | rfl | (simp; omega) | simp [*]]; rfl] at this
    exact this
  have k7 : ∀ w, St w0 w → Calls Tryd.prog 8 #[.int .i64 50, .int .i32 1, .int .i32 0] w fun e w' => e = .returned (.tuple #[.int .i32 0, .bool true]) ∧ St w0 w' := by
    intro w h
    have := bin_50 (1) (0) w0 w h
    rw [show tr ((1 : Int) != 0 && (0 : Int) != 0) = 0 by rw [show ((1 : Int) != 0 && (0 : Int) != 0) = false by first | rfl | (simp; omega) | simp [*]]; rfl] at this
    exact this
  have k8 : ∀ w, St w0 w → Calls Tryd.prog 8 #[.int .i64 42, .int .i32 0, .int .i32 b] w fun e w' => e = .returned (.tuple #[.int .i32 1, .bool true]) ∧ St w0 w' := by
    intro w h
    have := bin_42 (0) (b) w0 w h
    rw [show tr (decide ((0 : Int) < (b : Int))) = 1 by rw [show (decide ((0 : Int) < (b : Int))) = true by first | rfl | (simp; omega) | simp [*]]; rfl] at this
    exact this
  have k9 : ∀ w, St w0 w → Calls Tryd.prog 8 #[.int .i64 45, .int .i32 0, .int .i32 b] w fun e w' => e = .returned (.tuple #[.int .i32 0, .bool true]) ∧ St w0 w' := by
    intro w h
    have := bin_45 (0) (b) w0 w h
    rw [show tr (decide ((b : Int) ≤ (0 : Int))) = 0 by rw [show (decide ((b : Int) ≤ (0 : Int))) = false by first | rfl | (simp; omega) | simp [*]]; rfl] at this
    exact this
  go_enter Tryd.func16, Tryd.ntmps16
  go_wp2_with (first | (go_at_call 9; first | (with_reducible refine (k1 _ (by assumption)).mono ?_; rintro e w' ⟨rfl, hs⟩) | (with_reducible refine (k2 _ (by assumption)).mono ?_; rintro e w' ⟨rfl, hs⟩) | (with_reducible refine (k5 _ (by assumption)).mono ?_; rintro e w' ⟨rfl, hs⟩)) | (go_at_call 8; first | (with_reducible refine (k3 _ (by assumption)).mono ?_; rintro e w' ⟨rfl, hs⟩) | (with_reducible refine (k4 _ (by assumption)).mono ?_; rintro e w' ⟨rfl, hs⟩) | (with_reducible refine (k6 _ (by assumption)).mono ?_; rintro e w' ⟨rfl, hs⟩) | (with_reducible refine (k7 _ (by assumption)).mono ?_; rintro e w' ⟨rfl, hs⟩) | (with_reducible refine (k8 _ (by assumption)).mono ?_; rintro e w' ⟨rfl, hs⟩) | (with_reducible refine (k9 _ (by assumption)).mono ?_; rintro e w' ⟨rfl, hs⟩)))
  go_ret
  exact ⟨rfl, by assumption⟩

set_option maxRecDepth 100000 in
set_option maxHeartbeats 1000000 in
theorem logical_zng (b : Int) (w0 w : World) (hA : St w0 w) (hb : b ≠ 0) (hl : ¬ 0 < b) :
    Calls Tryd.prog 16 #[.int .i32 0, .int .i32 b] w fun e w' => e = .returned (.bool true) ∧ St w0 w' := by
  have k1 : ∀ w, St w0 w → Calls Tryd.prog 9 #[.int .i64 21, .int .i32 0] w fun e w' => e = .returned (.tuple #[.int .i32 1, .int .i64 0]) ∧ St w0 w' := by
    intro w h
    have := unary_21 (0) w0 w h
    rw [show tr ((0 : Int) == 0) = 1 by rw [show ((0 : Int) == 0) = true by first | rfl | (simp; omega) | simp [*]]; rfl] at this
    exact this
  have k2 : ∀ w, St w0 w → Calls Tryd.prog 9 #[.int .i64 21, .int .i32 b] w fun e w' => e = .returned (.tuple #[.int .i32 0, .int .i64 0]) ∧ St w0 w' := by
    intro w h
    have := unary_21 (b) w0 w h
    rw [show tr ((b : Int) == 0) = 0 by rw [show ((b : Int) == 0) = false by first | rfl | (simp; omega) | simp [*]]; rfl] at this
    exact this
  have k3 : ∀ w, St w0 w → Calls Tryd.prog 8 #[.int .i64 50, .int .i32 0, .int .i32 b] w fun e w' => e = .returned (.tuple #[.int .i32 0, .bool true]) ∧ St w0 w' := by
    intro w h
    have := bin_50 (0) (b) w0 w h
    rw [show tr ((0 : Int) != 0 && (b : Int) != 0) = 0 by rw [show ((0 : Int) != 0 && (b : Int) != 0) = false by first | rfl | (simp; omega) | simp [*]]; rfl] at this
    exact this
  have k4 : ∀ w, St w0 w → Calls Tryd.prog 8 #[.int .i64 51, .int .i32 0, .int .i32 b] w fun e w' => e = .returned (.tuple #[.int .i32 1, .bool true]) ∧ St w0 w' := by
    intro w h
    have := bin_51 (0) (b) w0 w h
    rw [show tr ((0 : Int) != 0 || (b : Int) != 0) = 1 by rw [show ((0 : Int) != 0 || (b : Int) != 0) = true by first | rfl | (simp; omega) | simp [*]]; rfl] at this
    exact this
  have k5 : ∀ w, St w0 w → Calls Tryd.prog 9 #[.int .i64 21, .int .i32 1] w fun e w' => e = .returned (.tuple #[.int .i32 0, .int .i64 0]) ∧ St w0 w' := by
    intro w h
    have := unary_21 (1) w0 w h
    rw [show tr ((1 : Int) == 0) = 0 by rw [show ((1 : Int) == 0) = false by first | rfl | (simp; omega) | simp [*]]; rfl] at this
    exact this
  have k6 : ∀ w, St w0 w → Calls Tryd.prog 8 #[.int .i64 51, .int .i32 1, .int .i32 0] w fun e w' => e = .returned (.tuple #[.int .i32 1, .bool true]) ∧ St w0 w' := by
    intro w h
    have := bin_51 (1) (0) w0 w h
    rw [show tr ((1 : Int) != 0 || (0 : Int) != 0) = 1 by rw [show ((1 : Int) != 0 || (0 : Int) != 0) = true by first | rfl | (simp; omega) | simp [*]]; rfl] at this
    exact this
  have k7 : ∀ w, St w0 w → Calls Tryd.prog 8 #[.int .i64 50, .int .i32 1, .int .i32 0] w fun e w' => e = .returned (.tuple #[.int .i32 0, .bool true]) ∧ St w0 w' := by
    intro w h
    have := bin_50 (1) (0) w0 w h
    rw [show tr ((1 : Int) != 0 && (0 : Int) != 0) = 0 by rw [show ((1 : Int) != 0 && (0 : Int) != 0) = false by first | rfl | (simp; omega) | simp [*]]; rfl] at this
    exact this
  have k8 : ∀ w, St w0 w → Calls Tryd.prog 8 #[.int .i64 42, .int .i32 0, .int .i32 b] w fun e w' => e = .returned (.tuple #[.int .i32 0, .bool true]) ∧ St w0 w' := by
    intro w h
    have := bin_42 (0) (b) w0 w h
    rw [show tr (decide ((0 : Int) < (b : Int))) = 0 by rw [show (decide ((0 : Int) < (b : Int))) = false by first | rfl | (simp; omega) | simp [*]]; rfl] at this
    exact this
  have k9 : ∀ w, St w0 w → Calls Tryd.prog 8 #[.int .i64 45, .int .i32 0, .int .i32 b] w fun e w' => e = .returned (.tuple #[.int .i32 1, .bool true]) ∧ St w0 w' := by
    intro w h
    have := bin_45 (0) (b) w0 w h
    rw [show tr (decide ((b : Int) ≤ (0 : Int))) = 1 by rw [show (decide ((b : Int) ≤ (0 : Int))) = true by first | rfl | (simp; omega) | simp [*]]; rfl] at this
    exact this
  go_enter Tryd.func16, Tryd.ntmps16
  go_wp2_with (first | (go_at_call 9; first | (with_reducible refine (k1 _ (by assumption)).mono ?_; rintro e w' ⟨rfl, hs⟩) | (with_reducible refine (k2 _ (by assumption)).mono ?_; rintro e w' ⟨rfl, hs⟩) | (with_reducible refine (k5 _ (by assumption)).mono ?_; rintro e w' ⟨rfl, hs⟩)) | (go_at_call 8; first | (with_reducible refine (k3 _ (by assumption)).mono ?_; rintro e w' ⟨rfl, hs⟩) | (with_reducible refine (k4 _ (by assumption)).mono ?_; rintro e w' ⟨rfl, hs⟩) | (with_reducible refine (k6 _ (by assumption)).mono ?_; rintro e w' ⟨rfl, hs⟩) | (with_reducible refine (k7 _ (by assumption)).mono ?_; rintro e w' ⟨rfl, hs⟩) | (with_reducible refine (k8 _ (by assumption)).mono ?_; rintro e w' ⟨rfl, hs⟩) | (with_reducible refine (k9 _ (by assumption)).mono ?_; rintro e w' ⟨rfl, hs⟩)))
  go_ret
  exact ⟨rfl, by assumption⟩

set_option maxRecDepth 100000 in
set_option maxHeartbeats 1000000 in
theorem logical_nzl (a : Int) (w0 w : World) (hA : St w0 w) (ha : a ≠ 0) (hl : a < 0) :
    Calls Tryd.prog 16 #[.int .i32 a, .int .i32 0] w fun e w' => e = .returned (.bool true) ∧ St w0 w' := by
  have k1 : ∀ w, St w0 w → Calls Tryd.prog 9 #[.int .i64 21, .int .i32 a] w fun e w' => e = .returned (.tuple #[.int .i32 0, .int .i64 0]) ∧ St w0 w' := by
    intro w h
    have := unary_21 (a) w0 w h
    rw [show tr ((a : Int) == 0) = 0 by rw [show ((a : Int) == 0) = false by first | rfl | (simp; omega) | simp [*]]; rfl] at this
    exact this
  have k2 : ∀ w, St w0 w → Calls Tryd.prog 9 #[.int .i64 21, .int .i32 0] w fun e w' => e = .returned (.tuple #[.int .i32 1, .int .i64 0]) ∧ St w0 w' := by
    intro w h
    have := unary_21 (0) w0 w h
    rw [show tr ((0 : Int) == 0) = 1 by rw [show ((0 : Int) == 0) = true by first | rfl | (simp; omega) | simp [*]]; rfl] at this
    exact this
  have k3 : ∀ w, St w0 w → Calls Tryd.prog 8 #[.int .i64 50, .int .i32 a, .int .i32 0] w fun e w' => e = .returned (.tuple #[.int .i32 0, .bool true]) ∧ St w0 w' := by
    intro w h
    have := bin_50 (a) (0) w0 w h
    rw [show tr ((a : Int) != 0 && (0 : Int) != 0) = 0 by rw [show ((a : Int) != 0 && (0 : Int) != 0) = false by first | rfl | (simp; omega) | simp [*]]; rfl] at this
    exact this
  have k4 : ∀ w, St w0 w → Calls Tryd.prog 8 #[.int .i64 51, .int .i32 a, .int .i32 0] w fun e w' => e = .returned (.tuple #[.int .i32 1, .bool true]) ∧ St w0 w' := by
    intro w h
    have := bin_51 (a) (0) w0 w h
    rw [show tr ((a : Int) != 0 || (0 : Int) != 0) = 1 by rw [show ((a : Int) != 0 || (0 : Int) != 0) = true by first | rfl | (simp; omega) | simp [*]]; rfl] at this
    exact this
  have k5 : ∀ w, St w0 w → Calls Tryd.prog 9 #[.int .i64 21, .int .i32 1] w fun e w' => e = .returned (.tuple #[.int .i32 0, .int .i64 0]) ∧ St w0 w' := by
    intro w h
    have := unary_21 (1) w0 w h
    rw [show tr ((1 : Int) == 0) = 0 by rw [show ((1 : Int) == 0) = false by first | rfl | (simp; omega) | simp [*]]; rfl] at this
    exact this
  have k6 : ∀ w, St w0 w → Calls Tryd.prog 8 #[.int .i64 51, .int .i32 0, .int .i32 1] w fun e w' => e = .returned (.tuple #[.int .i32 1, .bool true]) ∧ St w0 w' := by
    intro w h
    have := bin_51 (0) (1) w0 w h
    rw [show tr ((0 : Int) != 0 || (1 : Int) != 0) = 1 by rw [show ((0 : Int) != 0 || (1 : Int) != 0) = true by first | rfl | (simp; omega) | simp [*]]; rfl] at this
    exact this
  have k7 : ∀ w, St w0 w → Calls Tryd.prog 8 #[.int .i64 50, .int .i32 0, .int .i32 1] w fun e w' => e = .returned (.tuple #[.int .i32 0, .bool true]) ∧ St w0 w' := by
    intro w h
    have := bin_50 (0) (1) w0 w h
    rw [show tr ((0 : Int) != 0 && (1 : Int) != 0) = 0 by rw [show ((0 : Int) != 0 && (1 : Int) != 0) = false by first | rfl | (simp; omega) | simp [*]]; rfl] at this
    exact this
  have k8 : ∀ w, St w0 w → Calls Tryd.prog 8 #[.int .i64 42, .int .i32 a, .int .i32 0] w fun e w' => e = .returned (.tuple #[.int .i32 1, .bool true]) ∧ St w0 w' := by
    intro w h
    have := bin_42 (a) (0) w0 w h
    rw [show tr (decide ((a : Int) < (0 : Int))) = 1 by rw [show (decide ((a : Int) < (0 : Int))) = true by first | rfl | (simp; omega) | simp [*]]; rfl] at this
    exact this
  have k9 : ∀ w, St w0 w → Calls Tryd.prog 8 #[.int .i64 45, .int .i32 a, .int .i32 0] w fun e w' => e = .returned (.tuple #[.int .i32 0, .bool true]) ∧ St w0 w' := by
    intro w h
    have := bin_45 (a) (0) w0 w h
    rw [show tr (decide ((0 : Int) ≤ (a : Int))) = 0 by rw [show (decide ((0 : Int) ≤ (a : Int))) = false by first | rfl | (simp; omega) | simp [*]]; rfl] at this
    exact this
  have hae : (a == 0) = false := by simpa using ha
  have hae2 : (a != 0) = true := by simpa using ha
  go_enter Tryd.func16, Tryd.ntmps16
  go_wp2_with (first | (go_at_call 9; first | (with_reducible refine (k1 _ (by assumption)).mono ?_; rintro e w' ⟨rfl, hs⟩) | (with_reducible refine (k2 _ (by assumption)).mono ?_; rintro e w' ⟨rfl, hs⟩) | (with_reducible refine (k5 _ (by assumption)).mono ?_; rintro e w' ⟨rfl, hs⟩)) | (go_at_call 8; first | (with_reducible refine (k3 _ (by assumption)).mono ?_; rintro e w' ⟨rfl, hs⟩) | (with_reducible refine (k4 _ (by assumption)).mono ?_; rintro e w' ⟨rfl, hs⟩) | (with_reducible refine (k6 _ (by assumption)).mono ?_; rintro e w' ⟨rfl, hs⟩) | (with_reducible refine (k7 _ (by assumption)).mono ?_; rintro e w' ⟨rfl, hs⟩) | (with_reducible refine (k8 _ (by assumption)).mono ?_; rintro e w' ⟨rfl, hs⟩) | (with_reducible refine (k9 _ (by assumption)).mono ?_; rintro e w' ⟨rfl, hs⟩)))
  go_ret
  exact ⟨rfl, by assumption⟩

set_option maxRecDepth 100000 in
set_option maxHeartbeats 1000000 in
theorem logical_nzg (a : Int) (w0 w : World) (hA : St w0 w) (ha : a ≠ 0) (hl : ¬ a < 0) :
    Calls Tryd.prog 16 #[.int .i32 a, .int .i32 0] w fun e w' => e = .returned (.bool true) ∧ St w0 w' := by
  have k1 : ∀ w, St w0 w → Calls Tryd.prog 9 #[.int .i64 21, .int .i32 a] w fun e w' => e = .returned (.tuple #[.int .i32 0, .int .i64 0]) ∧ St w0 w' := by
    intro w h
    have := unary_21 (a) w0 w h
    rw [show tr ((a : Int) == 0) = 0 by rw [show ((a : Int) == 0) = false by first | rfl | (simp; omega) | simp [*]]; rfl] at this
    exact this
  have k2 : ∀ w, St w0 w → Calls Tryd.prog 9 #[.int .i64 21, .int .i32 0] w fun e w' => e = .returned (.tuple #[.int .i32 1, .int .i64 0]) ∧ St w0 w' := by
    intro w h
    have := unary_21 (0) w0 w h
    rw [show tr ((0 : Int) == 0) = 1 by rw [show ((0 : Int) == 0) = true by first | rfl | (simp; omega) | simp [*]]; rfl] at this
    exact this
  have k3 : ∀ w, St w0 w → Calls Tryd.prog 8 #[.int .i64 50, .int .i32 a, .int .i32 0] w fun e w' => e = .returned (.tuple #[.int .i32 0, .bool true]) ∧ St w0 w' := by
    intro w h
    have := bin_50 (a) (0) w0 w h
    rw [show tr ((a : Int) != 0 && (0 : Int) != 0) = 0 by rw [show ((a : Int) != 0 && (0 : Int) != 0) = false by first | rfl | (simp; omega) | simp [*]]; rfl] at this
    exact this
  have k4 : ∀ w, St w0 w → Calls Tryd.prog 8 #[.int .i64 51, .int .i32 a, .int .i32 0] w fun e w' => e = .returned (.tuple #[.int .i32 1, .bool true]) ∧ St w0 w' := by
    intro w h
    have := bin_51 (a) (0) w0 w h
    rw [show tr ((a : Int) != 0 || (0 : Int) != 0) = 1 by rw [show ((a : Int) != 0 || (0 : Int) != 0) = true by first | rfl | (simp; omega) | simp [*]]; rfl] at this
    exact this
  have k5 : ∀ w, St w0 w → Calls Tryd.prog 9 #[.int .i64 21, .int .i32 1] w fun e w' => e = .returned (.tuple #[.int .i32 0, .int .i64 0]) ∧ St w0 w' := by
    intro w h
    have := unary_21 (1) w0 w h
    rw [show tr ((1 : Int) == 0) = 0 by rw [show ((1 : Int) == 0) = false by first | rfl | (simp; omega) | simp [*]]; rfl] at this
    exact this
  have k6 : ∀ w, St w0 w → Calls Tryd.prog 8 #[.int .i64 51, .int .i32 0, .int .i32 1] w fun e w' => e = .returned (.tuple #[.int .i32 1, .bool true]) ∧ St w0 w' := by
    intro w h
    have := bin_51 (0) (1) w0 w h
    rw [show tr ((0 : Int) != 0 || (1 : Int) != 0) = 1 by rw [show ((0 : Int) != 0 || (1 : Int) != 0) = true by first | rfl | (simp; omega) | simp [*]]; rfl] at this
    exact this
  have k7 : ∀ w, St w0 w → Calls Tryd.prog 8 #[.int .i64 50, .int .i32 0, .int .i32 1] w fun e w' => e = .returned (.tuple #[.int .i32 0, .bool true]) ∧ St w0 w' := by
    intro w h
    have := bin_50 (0) (1) w0 w h
    rw [show tr ((0 : Int) != 0 && (1 : Int) != 0) = 0 by rw [show ((0 : Int) != 0 && (1 : Int) != 0) = false by first | rfl | (simp; omega) | simp [*]]; rfl] at this
    exact this
  have k8 : ∀ w, St w0 w → Calls Tryd.prog 8 #[.int .i64 42, .int .i32 a, .int .i32 0] w fun e w' => e = .returned (.tuple #[.int .i32 0, .bool true]) ∧ St w0 w' := by
    intro w h
    have := bin_42 (a) (0) w0 w h
    rw [show tr (decide ((a : Int) < (0 : Int))) = 0 by rw [show (decide ((a : Int) < (0 : Int))) = false by first | rfl | (simp; omega) | simp [*]]; rfl] at this
    exact this
  have k9 : ∀ w, St w0 w → Calls Tryd.prog 8 #[.int .i64 45, .int .i32 a, .int .i32 0] w fun e w' => e = .returned (.tuple #[.int .i32 1, .bool true]) ∧ St w0 w' := by
    intro w h
    have := bin_45 (a) (0) w0 w h
    rw [show tr (decide ((0 : Int) ≤ (a : Int))) = 1 by rw [show (decide ((0 : Int) ≤ (a : Int))) = true by first | rfl | (simp; omega) | simp [*]]; rfl] at this
    exact this
  have hae : (a == 0) = false := by simpa using ha
  have hae2 : (a != 0) = true := by simpa using ha
  go_enter Tryd.func16, Tryd.ntmps16
  go_wp2_with (first | (go_at_call 9; first | (with_reducible refine (k1 _ (by assumption)).mono ?_; rintro e w' ⟨rfl, hs⟩) | (with_reducible refine (k2 _ (by assumption)).mono ?_; rintro e w' ⟨rfl, hs⟩) | (with_reducible refine (k5 _ (by assumption)).mono ?_; rintro e w' ⟨rfl, hs⟩)) | (go_at_call 8; first | (with_reducible refine (k3 _ (by assumption)).mono ?_; rintro e w' ⟨rfl, hs⟩) | (with_reducible refine (k4 _ (by assumption)).mono ?_; rintro e w' ⟨rfl, hs⟩) | (with_reducible refine (k6 _ (by assumption)).mono ?_; rintro e w' ⟨rfl, hs⟩) | (with_reducible refine (k7 _ (by assumption)).mono ?_; rintro e w' ⟨rfl, hs⟩) | (with_reducible refine (k8 _ (by assumption)).mono ?_; rintro e w' ⟨rfl, hs⟩) | (with_reducible refine (k9 _ (by assumption)).mono ?_; rintro e w' ⟨rfl, hs⟩)))
  go_ret
  exact ⟨rfl, by assumption⟩

set_option maxRecDepth 100000 in
set_option maxHeartbeats 1000000 in
theorem logical_nnl (a b : Int) (w0 w : World) (hA : St w0 w) (ha : a ≠ 0) (hb : b ≠ 0) (hl : a < b) :
    Calls Tryd.prog 16 #[.int .i32 a, .int .i32 b] w fun e w' => e = .returned (.bool true) ∧ St w0 w' := by
  have k1 : ∀ w, St w0 w → Calls Tryd.prog 9 #[.int .i64 21, .int .i32 a] w fun e w' => e = .returned (.tuple #[.int .i32 0, .int .i64 0]) ∧ St w0 w' := by
    intro w h
    have := unary_21 (a) w0 w h
    rw [show tr ((a : Int) == 0) = 0 by rw [show ((a : Int) == 0) = false by first | rfl | (simp; omega) | simp [*]]; rfl] at this
    exact this
  have k2 : ∀ w, St w0 w → Calls Tryd.prog 9 #[.int .i64 21, .int .i32 b] w fun e w' => e = .returned (.tuple #[.int .i32 0, .int .i64 0]) ∧ St w0 w' := by
    intro w h
    have := unary_21 (b) w0 w h
    rw [show tr ((b : Int) == 0) = 0 by rw [show ((b : Int) == 0) = false by first | rfl | (simp; omega) | simp [*]]; rfl] at this
    exact this
  have k3 : ∀ w, St w0 w → Calls Tryd.prog 8 #[.int .i64 50, .int .i32 a, .int .i32 b] w fun e w' => e = .returned (.tuple #[.int .i32 1, .bool true]) ∧ St w0 w' := by
    intro w h
    have := bin_50 (a) (b) w0 w h
    rw [show tr ((a : Int) != 0 && (b : Int) != 0) = 1 by rw [show ((a : Int) != 0 && (b : Int) != 0) = true by first | rfl | (simp; omega) | simp [*]]; rfl] at this
    exact this
  have k4 : ∀ w, St w0 w → Calls Tryd.prog 8 #[.int .i64 51, .int .i32 a, .int .i32 b] w fun e w' => e = .returned (.tuple #[.int .i32 1, .bool true]) ∧ St w0 w' := by
    intro w h
    have := bin_51 (a) (b) w0 w h
    rw [show tr ((a : Int) != 0 || (b : Int) != 0) = 1 by rw [show ((a : Int) != 0 || (b : Int) != 0) = true by first | rfl | (simp; omega) | simp [*]]; rfl] at this
    exact this
  have k5 : ∀ w, St w0 w → Calls Tryd.prog 9 #[.int .i64 21, .int .i32 1] w fun e w' => e = .returned (.tuple #[.int .i32 0, .int .i64 0]) ∧ St w0 w' := by
    intro w h
    have := unary_21 (1) w0 w h
    rw [show tr ((1 : Int) == 0) = 0 by rw [show ((1 : Int) == 0) = false by first | rfl | (simp; omega) | simp [*]]; rfl] at this
    exact this
  have k6 : ∀ w, St w0 w → Calls Tryd.prog 8 #[.int .i64 51, .int .i32 0, .int .i32 0] w fun e w' => e = .returned (.tuple #[.int .i32 0, .bool true]) ∧ St w0 w' := by
    intro w h
    have := bin_51 (0) (0) w0 w h
    rw [show tr ((0 : Int) != 0 || (0 : Int) != 0) = 0 by rw [show ((0 : Int) != 0 || (0 : Int) != 0) = false by first | rfl | (simp; omega) | simp [*]]; rfl] at this
    exact this
  have k7 : ∀ w, St w0 w → Calls Tryd.prog 8 #[.int .i64 50, .int .i32 0, .int .i32 0] w fun e w' => e = .returned (.tuple #[.int .i32 0, .bool true]) ∧ St w0 w' := by
    intro w h
    have := bin_50 (0) (0) w0 w h
    rw [show tr ((0 : Int) != 0 && (0 : Int) != 0) = 0 by rw [show ((0 : Int) != 0 && (0 : Int) != 0) = false by first | rfl | (simp; omega) | simp [*]]; rfl] at this
    exact this
  have k8 : ∀ w, St w0 w → Calls Tryd.prog 9 #[.int .i64 21, .int .i32 0] w fun e w' => e = .returned (.tuple #[.int .i32 1, .int .i64 0]) ∧ St w0 w' := by
    intro w h
    have := unary_21 (0) w0 w h
    rw [show tr ((0 : Int) == 0) = 1 by rw [show ((0 : Int) == 0) = true by first | rfl | (simp; omega) | simp [*]]; rfl] at this
    exact this
  have k9 : ∀ w, St w0 w → Calls Tryd.prog 8 #[.int .i64 42, .int .i32 a, .int .i32 b] w fun e w' => e = .returned (.tuple #[.int .i32 1, .bool true]) ∧ St w0 w' := by
    intro w h
    have := bin_42 (a) (b) w0 w h
    rw [show tr (decide ((a : Int) < (b : Int))) = 1 by rw [show (decide ((a : Int) < (b : Int))) = true by first | rfl | (simp; omega) | simp [*]]; rfl] at this
    exact this
  have k10 : ∀ w, St w0 w → Calls Tryd.prog 8 #[.int .i64 45, .int .i32 a, .int .i32 b] w fun e w' => e = .returned (.tuple #[.int .i32 0, .bool true]) ∧ St w0 w' := by
    intro w h
    have := bin_45 (a) (b) w0 w h
    rw [show tr (decide ((b : Int) ≤ (a : Int))) = 0 by rw [show (decide ((b : Int) ≤ (a : Int))) = false by first | rfl | (simp; omega) | simp [*]]; rfl] at this
    exact this
  have hae : (a == 0) = false := by simpa using ha
  have hae2 : (a != 0) = true := by simpa using ha
  go_enter Tryd.func16, Tryd.ntmps16
  go_wp2_with (first | (go_at_call 9; first | (with_reducible refine (k1 _ (by assumption)).mono ?_; rintro e w' ⟨rfl, hs⟩) | (with_reducible refine (k2 _ (by assumption)).mono ?_; rintro e w' ⟨rfl, hs⟩) | (with_reducible refine (k5 _ (by assumption)).mono ?_; rintro e w' ⟨rfl, hs⟩) | (with_reducible refine (k8 _ (by assumption)).mono ?_; rintro e w' ⟨rfl, hs⟩)) | (go_at_call 8; first | (with_reducible refine (k3 _ (by assumption)).mono ?_; rintro e w' ⟨rfl, hs⟩) | (with_reducible refine (k4 _ (by assumption)).mono ?_; rintro e w' ⟨rfl, hs⟩) | (with_reducible refine (k6 _ (by assumption)).mono ?_; rintro e w' ⟨rfl, hs⟩) | (with_reducible refine (k7 _ (by assumption)).mono ?_; rintro e w' ⟨rfl, hs⟩) | (with_reducible refine (k9 _ (by assumption)).mono ?_; rintro e w' ⟨rfl, hs⟩) | (with_reducible refine (k10 _ (by assumption)).mono ?_; rintro e w' ⟨rfl, hs⟩)))
  go_ret
  exact ⟨rfl, by assumption⟩

set_option maxRecDepth 100000 in
set_option maxHeartbeats 1000000 in
theorem logical_nng (a b : Int) (w0 w : World) (hA : St w0 w) (ha : a ≠ 0) (hb : b ≠ 0) (hl : ¬ a < b) :
    Calls Tryd.prog 16 #[.int .i32 a, .int .i32 b] w fun e w' => e = .returned (.bool true) ∧ St w0 w' := by
  have k1 : ∀ w, St w0 w → Calls Tryd.prog 9 #[.int .i64 21, .int .i32 a] w fun e w' => e = .returned (.tuple #[.int .i32 0, .int .i64 0]) ∧ St w0 w' := by
    intro w h
    have := unary_21 (a) w0 w h
    rw [show tr ((a : Int) == 0) = 0 by rw [show ((a : Int) == 0) = false by first | rfl | (simp; omega) | simp [*]]; rfl] at this
    exact this
  have k2 : ∀ w, St w0 w → Calls Tryd.prog 9 #[.int .i64 21, .int .i32 b] w fun e w' => e = .returned (.tuple #[.int .i32 0, .int .i64 0]) ∧ St w0 w' := by
    intro w h
    have := unary_21 (b) w0 w h
    rw [show tr ((b : Int) == 0) = 0 by rw [show ((b : Int) == 0) = false by first | rfl | (simp; omega) | simp [*]]; rfl] at this
    exact this
  have k3 : ∀ w, St w0 w → Calls Tryd.prog 8 #[.int .i64 50, .int .i32 a, .int .i32 b] w fun e w' => e = .returned (.tuple #[.int .i32 1, .bool true]) ∧ St w0 w' := by
    intro w h
    have := bin_50 (a) (b) w0 w h
    rw [show tr ((a : Int) != 0 && (b : Int) != 0) = 1 by rw [show ((a : Int) != 0 && (b : Int) != 0) = true by first | rfl | (simp; omega) | simp [*]]; rfl] at this
    exact this
  have k4 : ∀ w, St w0 w → Calls Tryd.prog 8 #[.int .i64 51, .int .i32 a, .int .i32 b] w fun e w' => e = .returned (.tuple #[.int .i32 1, .bool true]) ∧ St w0 w' := by
    intro w h
    have := bin_51 (a) (b) w0 w h
    rw [show tr ((a : Int) != 0 || (b : Int) != 0) = 1 by rw [show ((a : Int) != 0 || (b : Int) != 0) = true by first | rfl | (simp; omega) | simp [*]]; rfl] at this
    exact this
  have k5 : ∀ w, St w0 w → Calls Tryd.prog 9 #[.int .i64 21, .int .i32 1] w fun e w' => e = .returned (.tuple #[.int .i32 0, .int .i64 0]) ∧ St w0 w' := by
    intro w h
    have := unary_21 (1) w0 w h
    rw [show tr ((1 : Int) == 0) = 0 by rw [show ((1 : Int) == 0) = false by first | rfl | (simp; omega) | simp [*]]; rfl] at this
    exact this
  have k6 : ∀ w, St w0 w → Calls Tryd.prog 8 #[.int .i64 51, .int .i32 0, .int .i32 0] w fun e w' => e = .returned (.tuple #[.int .i32 0, .bool true]) ∧ St w0 w' := by
    intro w h
    have := bin_51 (0) (0) w0 w h
    rw [show tr ((0 : Int) != 0 || (0 : Int) != 0) = 0 by rw [show ((0 : Int) != 0 || (0 : Int) != 0) = false by first | rfl | (simp; omega) | simp [*]]; rfl] at this
    exact this
  have k7 : ∀ w, St w0 w → Calls Tryd.prog 8 #[.int .i64 50, .int .i32 0, .int .i32 0] w fun e w' => e = .returned (.tuple #[.int .i32 0, .bool true]) ∧ St w0 w' := by
    intro w h
    have := bin_50 (0) (0) w0 w h
    rw [show tr ((0 : Int) != 0 && (0 : Int) != 0) = 0 by rw [show ((0 : Int) != 0 && (0 : Int) != 0) = false by first | rfl | (simp; omega) | simp [*]]; rfl] at this
    exact this
  have k8 : ∀ w, St w0 w → Calls Tryd.prog 9 #[.int .i64 21, .int .i32 0] w fun e w' => e = .returned (.tuple #[.int .i32 1, .int .i64 0]) ∧ St w0 w' := by
    intro w h
    have := unary_21 (0) w0 w h
    rw [show tr ((0 : Int) == 0) = 1 by rw [show ((0 : Int) == 0) = true by first | rfl | (simp; omega) | simp [*]]; rfl] at this
    exact this
  have k9 : ∀ w, St w0 w → Calls Tryd.prog 8 #[.int .i64 42, .int .i32 a, .int .i32 b] w fun e w' => e = .returned (.tuple #[.int .i32 0, .bool true]) ∧ St w0 w' := by
    intro w h
    have := bin_42 (a) (b) w0 w h
    rw [show tr (decide ((a : Int) < (b : Int))) = 0 by rw [show (decide ((a : Int) < (b : Int))) = false by first | rfl | (simp; omega) | simp [*]]; rfl] at this
    exact this
  have k10 : ∀ w, St w0 w → Calls Tryd.prog 8 #[.int .i64 45, .int .i32 a, .int .i32 b] w fun e w' => e = .returned (.tuple #[.int .i32 1, .bool true]) ∧ St w0 w' := by
    intro w h
    have := bin_45 (a) (b) w0 w h
    rw [show tr (decide ((b : Int) ≤ (a : Int))) = 1 by rw [show (decide ((b : Int) ≤ (a : Int))) = true by first | rfl | (simp; omega) | simp [*]]; rfl] at this
    exact this
  have hae : (a == 0) = false := by simpa using ha
  have hae2 : (a != 0) = true := by simpa using ha
  go_enter Tryd.func16, Tryd.ntmps16
  go_wp2_with (first | (go_at_call 9; first | (with_reducible refine (k1 _ (by assumption)).mono ?_; rintro e w' ⟨rfl, hs⟩) | (with_reducible refine (k2 _ (by assumption)).mono ?_; rintro e w' ⟨rfl, hs⟩) | (with_reducible refine (k5 _ (by assumption)).mono ?_; rintro e w' ⟨rfl, hs⟩) | (with_reducible refine (k8 _ (by assumption)).mono ?_; rintro e w' ⟨rfl, hs⟩)) | (go_at_call 8; first | (with_reducible refine (k3 _ (by assumption)).mono ?_; rintro e w' ⟨rfl, hs⟩) | (with_reducible refine (k4 _ (by assumption)).mono ?_; rintro e w' ⟨rfl, hs⟩) | (with_reducible refine (k6 _ (by assumption)).mono ?_; rintro e w' ⟨rfl, hs⟩) | (with_reducible refine (k7 _ (by assumption)).mono ?_; rintro e w' ⟨rfl, hs⟩) | (with_reducible refine (k9 _ (by assumption)).mono ?_; rintro e w' ⟨rfl, hs⟩) | (with_reducible refine (k10 _ (by assumption)).mono ?_; rintro e w' ⟨rfl, hs⟩)))
  go_ret
  exact ⟨rfl, by assumption⟩


theorem ordered_any (a b : Int) (w0 w : World) (hA : St w0 w) : Calls Tryd.prog 15 #[.int .i32 a, .int .i32 b] w fun e w' => e = .returned (.bool true) ∧ St w0 w' := by
  rcases Int.lt_trichotomy a b with h | h | h
  · exact ordered_lt a b w0 w hA h
  · subst h; exact ordered_eq a w0 w hA
  · exact ordered_gt a b w0 w hA h
theorem logical_any (a b : Int) (w0 w : World) (hA : St w0 w) : Calls Tryd.prog 16 #[.int .i32 a, .int .i32 b] w fun e w' => e = .returned (.bool true) ∧ St w0 w' := by
  by_cases ha : a = 0
  · subst ha
    by_cases hb : b = 0
    · subst hb; exact logical_zzg w0 w hA
    · by_cases hl : 0 < b
      · exact logical_znl b w0 w hA hb hl
      · exact logical_zng b w0 w hA hb hl
  · by_cases hb : b = 0
    · subst hb
      by_cases hl : a < 0
      · exact logical_nzl a w0 w hA ha hl
      · exact logical_nzg a w0 w hA ha hl
    · by_cases hl : a < b
      · exact logical_nnl a b w0 w hA ha hb hl
      · exact logical_nng a b w0 w hA ha hb hl
set_option maxHeartbeats 400000 in
theorem walks (a b : Int) (w0 w : World) (hA : St w0 w) :
    Calls Tryd.prog 6 #[.int .i32 a, .int .i32 b] w fun e w' => e = .returned (.bool true) ∧ St w0 w' := by
  go_enter Tryd.func6, Tryd.ntmps6
  go_wp2_with (first | (go_at_call 15; refine (ordered_any _ _ w0 _ (by assumption)).mono ?_; rintro e w' ⟨rfl, hs⟩) | (go_at_call 16; refine (logical_any _ _ w0 _ (by assumption)).mono ?_; rintro e w' ⟨rfl, hs⟩))
  go_ret
  exact ⟨rfl, by assumption⟩
theorem walk (a b : Int) (_w0 : (Lit.int .i32 a).wf = true) (_w1 : (Lit.int .i32 b).wf = true) (w : World) (hok : ArOk w) :
    Calls Tryd.prog 6 #[.int .i32 a, .int .i32 b] w fun e w' => e = .returned (.bool true) ∧ Grown w w' :=
  (walks a b w w ⟨hok, Grown.refl _⟩).mono fun _ _ h => ⟨h.1, h.2.2⟩
end Go.Proofs.YtcehnibfmhbeiaaDoor.arithOrder
