import Derived.Test.YtcehnibfmhbeiaaDoorOpsB
namespace Go.Proofs.YtcehnibfmhbeiaaDoor
open Go.RowKit

theorem hid_mk {p : Prop} (h : p) : Hid p := h

theorem div_bd (p q : Int) (h1 : 0 ≤ p) (h2 : p ≤ 2147483648) (h3 : 1 ≤ q) : 0 ≤ p / q ∧ p / q ≤ 2147483648 :=
  ⟨Int.ediv_nonneg h1 (by omega), Int.le_trans (Int.ediv_le_self _ h1) h2⟩
theorem div_pp (a b : Int) (ha : ¬ a < 0) : a / b = a.tdiv b := (Int.tdiv_eq_ediv_of_nonneg (by omega)).symm
theorem div_pn (a b : Int) (ha : ¬ a < 0) : -(a / -b) = a.tdiv b := by
  rw [Int.tdiv_eq_ediv_of_nonneg (by omega), Int.ediv_neg, Int.neg_neg]
theorem div_np (a b : Int) (ha : a < 0) : -(-a / b) = a.tdiv b := by
  have := Int.tdiv_eq_ediv_of_nonneg (a := -a) (b := b) (by omega)
  rw [← this, Int.neg_tdiv, Int.neg_neg]
theorem div_nn (a b : Int) (ha : a < 0) : -a / -b = a.tdiv b := by
  have := Int.tdiv_eq_ediv_of_nonneg (a := -a) (b := -b) (by omega)
  rw [← this, Int.neg_tdiv, Int.tdiv_neg, Int.neg_neg]

set_option maxHeartbeats 1000000 in
theorem refDivide_any (a b : Int) (w : World) (ha1 : -2147483648 ≤ a) (ha2 : a ≤ 2147483647) (hb1 : -2147483648 ≤ b) (hb2 : b ≤ 2147483647) (hn : b ≠ 0) :
    Calls Tryd.prog 47 #[.int .i64 a, .int .i64 b] w fun e w' => e = .returned (.int .i64 (a.tdiv b)) ∧ w' = w := by
  have hsa := refSize_any a
  have hsb := refSize_any b
  have hea : sz a = if a < 0 then -a else a := rfl
  have heb : sz b = if b < 0 then -b else b := rfl
  have hv : (if (a < 0 ↔ b < 0) then sz a / sz b else -(sz a / sz b)) = a.tdiv b := by
    by_cases ha : a < 0 <;> by_cases hb : b < 0 <;> simp only [hea, heb, ha, hb, if_true, if_false, iff_true, iff_false]
    · exact div_nn a b ha
    · exact div_np a b ha
    · exact div_pn a b ha
    · exact div_pp a b ha
  have hd := div_bd (sz a) (sz b) (by rw [hea]; split <;> omega) (by rw [hea]; split <;> omega) (by rw [heb]; split <;> omega)
  have hp1 : 0 ≤ sz a := by rw [hea]; split <;> omega
  have hp2 : sz a ≤ 2147483648 := by rw [hea]; split <;> omega
  have hq1 : 1 ≤ sz b := by rw [heb]; split <;> omega
  have hq2 : sz b ≤ 2147483648 := by rw [heb]; split <;> omega
  obtain ⟨hd1, hd2⟩ := hd
  generalize sz a = p at *
  generalize sz b = q at *
  clear hea heb
  by_cases ha : a < 0 <;> by_cases hb : b < 0
  all_goals
    simp only [ha, hb, if_true, if_false, iff_true, iff_false] at hv
    have hv' := hid_mk hv
    clear hv
    go_enter Tryd.func47, Tryd.ntmps47
    go_wp2_with (go_at_call 45; first | (with_reducible refine (hsa _ (by omega) (by omega)).mono ?_; rintro e w' ⟨rfl, rfl⟩) | (with_reducible refine (hsb _ (by omega) (by omega)).mono ?_; rintro e w' ⟨rfl, rfl⟩))
    all_goals first | (go_ret; exact ⟨ret_int hv'.out, rfl⟩) | (exfalso; rename_i hx; simp at hx; omega)

set_option maxHeartbeats 1000000 in
theorem refSums_30 (a b : Int) (w : World) (ha1 : -2147483648 ≤ a) (ha2 : a ≤ 2147483647) (hb1 : -2147483648 ≤ b) (hb2 : b ≤ 2147483647) :
    Calls Tryd.prog 43 #[.int .i64 30, .int .i64 a, .int .i64 b] w fun e w' => e = .returned (.int .i32 (wrap32 (a + b))) ∧ w' = w := by
  go_enter Tryd.func43, Tryd.ntmps43
  go_wp2_with (go_at_call 44; refine (refWrap_any _ _).mono ?_; rintro e w' ⟨rfl, rfl⟩)
  go_ret
  exact ⟨rfl, rfl⟩
set_option maxHeartbeats 1000000 in
theorem refSums_31 (a b : Int) (w : World) (ha1 : -2147483648 ≤ a) (ha2 : a ≤ 2147483647) (hb1 : -2147483648 ≤ b) (hb2 : b ≤ 2147483647) :
    Calls Tryd.prog 43 #[.int .i64 31, .int .i64 a, .int .i64 b] w fun e w' => e = .returned (.int .i32 (wrap32 (a - b))) ∧ w' = w := by
  go_enter Tryd.func43, Tryd.ntmps43
  go_wp2_with (go_at_call 44; refine (refWrap_any _ _).mono ?_; rintro e w' ⟨rfl, rfl⟩)
  go_ret
  exact ⟨rfl, rfl⟩
theorem mul_bd (a b : Int) (ha1 : -2147483648 ≤ a) (ha2 : a ≤ 2147483647) (hb1 : -2147483648 ≤ b) (hb2 : b ≤ 2147483647) : -4611686018427387904 ≤ a * b ∧ a * b ≤ 4611686018427387904 := by
  have h : (a * b).natAbs ≤ 4611686018427387904 := by
    rw [Int.natAbs_mul]
    exact Nat.le_trans (Nat.mul_le_mul (show a.natAbs ≤ 2147483648 by omega) (show b.natAbs ≤ 2147483648 by omega)) (by decide)
  omega
set_option maxHeartbeats 1000000 in
theorem refSums_32 (a b : Int) (w : World) (ha1 : -2147483648 ≤ a) (ha2 : a ≤ 2147483647) (hb1 : -2147483648 ≤ b) (hb2 : b ≤ 2147483647) :
    Calls Tryd.prog 43 #[.int .i64 32, .int .i64 a, .int .i64 b] w fun e w' => e = .returned (.int .i32 (wrap32 (a * b))) ∧ w' = w := by
  obtain ⟨hm1, hm2⟩ := mul_bd a b ha1 ha2 hb1 hb2
  go_enter Tryd.func43, Tryd.ntmps43
  go_wp2_with (go_at_call 44; refine (refWrap_any _ _).mono ?_; rintro e w' ⟨rfl, rfl⟩)
  go_ret
  exact ⟨rfl, rfl⟩
set_option maxHeartbeats 1000000 in
theorem refSums_33z (a : Int) (w : World) : Calls Tryd.prog 43 #[.int .i64 33, .int .i64 a, .int .i64 0] w fun e w' => e = .returned (.int .i32 0) ∧ w' = w := by
  go_enter Tryd.func43, Tryd.ntmps43
  go_wp2
  go_ret
  exact ⟨rfl, rfl⟩
set_option maxHeartbeats 1000000 in
theorem refSums_34z (a : Int) (w : World) : Calls Tryd.prog 43 #[.int .i64 34, .int .i64 a, .int .i64 0] w fun e w' => e = .returned (.int .i32 0) ∧ w' = w := by
  go_enter Tryd.func43, Tryd.ntmps43
  go_wp2
  go_ret
  exact ⟨rfl, rfl⟩
set_option maxHeartbeats 1000000 in
theorem refSums_33 (a b : Int) (w : World) (ha1 : -2147483648 ≤ a) (ha2 : a ≤ 2147483647) (hb1 : -2147483648 ≤ b) (hb2 : b ≤ 2147483647) (hz : (b == 0) = false) (hn : b ≠ 0) :
    Calls Tryd.prog 43 #[.int .i64 33, .int .i64 a, .int .i64 b] w fun e w' => e = .returned (.int .i32 (wrap32 (a.tdiv b))) ∧ w' = w := by
  have hd := fun w => refDivide_any a b w ha1 ha2 hb1 hb2 hn
  clear ha1 ha2 hb1 hb2
  go_enter Tryd.func43, Tryd.ntmps43
  go_wp2_with (first | (go_at_call 47; refine (hd _).mono ?_; rintro e w' ⟨rfl, rfl⟩) | (go_at_call 44; refine (refWrap_any _ _).mono ?_; rintro e w' ⟨rfl, rfl⟩))
  go_ret
  exact ⟨rfl, rfl⟩
theorem rem_eq (a b : Int) : a - b * a.tdiv b = a.tmod b := by have := Int.tmod_add_mul_tdiv a b; omega
theorem rem_bd (a b : Int) (ha1 : -2147483648 ≤ a) (ha2 : a ≤ 2147483647) : -4294967296 ≤ b * a.tdiv b ∧ b * a.tdiv b ≤ 4294967296 ∧ wrap32 (a - b * a.tdiv b) = a.tmod b := by
  have h1 := Int.tmod_add_mul_tdiv a b
  have h2 : (a.tmod b).natAbs ≤ a.natAbs := by rw [Int.natAbs_tmod]; exact Nat.mod_le _ _
  refine ⟨by omega, by omega, ?_⟩
  rw [rem_eq]
  exact wrap_of _ (by omega) (by have := tmod_sg a b; omega)
set_option maxHeartbeats 1000000 in
theorem refSums_34 (a b : Int) (w : World) (ha1 : -2147483648 ≤ a) (ha2 : a ≤ 2147483647) (hb1 : -2147483648 ≤ b) (hb2 : b ≤ 2147483647) (hz : (b == 0) = false) (hn : b ≠ 0) :
    Calls Tryd.prog 43 #[.int .i64 34, .int .i64 a, .int .i64 b] w fun e w' => e = .returned (.int .i32 (a.tmod b)) ∧ w' = w := by
  have hd := fun w => refDivide_any a b w ha1 ha2 hb1 hb2 hn
  obtain ⟨hm1, hm2, hv⟩ := rem_bd a b ha1 ha2
  generalize a.tdiv b = q at hd hm1 hm2 hv
  generalize a.tmod b = r at hv
  have hv' := hid_mk hv
  clear hv
  go_enter Tryd.func43, Tryd.ntmps43
  go_wp2_with (first | (go_at_call 47; refine (hd _).mono ?_; rintro e w' ⟨rfl, rfl⟩) | (go_at_call 44; refine (refWrap_any _ _).mono ?_; rintro e w' ⟨rfl, rfl⟩))
  go_ret
  exact ⟨ret_int hv'.out, rfl⟩
set_option maxHeartbeats 1000000 in
theorem refSums_35 (a b : Int) (w : World) (ha1 : -2147483648 ≤ a) (ha2 : a ≤ 2147483647) (hb1 : -2147483648 ≤ b) (hb2 : b ≤ 2147483647) :
    Calls Tryd.prog 43 #[.int .i64 35, .int .i64 a, .int .i64 b] w fun e w' => e = .returned (.int .i32 (min a b)) ∧ w' = w := by
  by_cases h : a < b
  all_goals
    go_enter Tryd.func43, Tryd.ntmps43
    go_wp2
    go_ret
    exact ⟨ret_int (by omega), rfl⟩
set_option maxHeartbeats 1000000 in
theorem refSums_36 (a b : Int) (w : World) (ha1 : -2147483648 ≤ a) (ha2 : a ≤ 2147483647) (hb1 : -2147483648 ≤ b) (hb2 : b ≤ 2147483647) :
    Calls Tryd.prog 43 #[.int .i64 36, .int .i64 a, .int .i64 b] w fun e w' => e = .returned (.int .i32 (max a b)) ∧ w' = w := by
  by_cases h : a < b
  all_goals
    go_enter Tryd.func43, Tryd.ntmps43
    go_wp2
    go_ret
    exact ⟨ret_int (by omega), rfl⟩
end Go.Proofs.YtcehnibfmhbeiaaDoor
