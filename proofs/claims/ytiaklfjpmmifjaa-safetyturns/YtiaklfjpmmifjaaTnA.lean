import Derived.Test.YtiaklfjpmmifjaaTnM
import Derived.Laws.BitsAllLaws
namespace Go.Proofs.Ytiaklfjpmmifjaa
open Go.RowKit
set_option linter.unusedVariables false

set_option maxRecDepth 100000 in
set_option maxHeartbeats 1000000 in
theorem turned_any (i j k : Nat) (w : World) : Calls Try.prog 17 #[.int .i64 (k : Int), .int .i64 (i : Int), .int .i64 (j : Int)] w fun e w' => e = .returned (.int .i64 ((tau i j k : Nat) : Int)) ∧ w' = w := by
  by_cases h1 : k = i
  · have e : tau i j k = j := by unfold tau; rw [if_pos h1]
    have f1 : ((k : Int) == (i : Int)) = true := by simp; omega
    rw [e]; clear h1 e
    go_enter Try.func17, Try.ntmps17
    go_wp2
    go_ret
    exact ⟨rfl, rfl⟩
  · have f1 : ((k : Int) == (i : Int)) = false := by simp; omega
    by_cases h2 : k = j
    · have e : tau i j k = i := by unfold tau; rw [if_neg h1, if_pos h2]
      have f2 : ((k : Int) == (j : Int)) = true := by simp; omega
      rw [e]; clear h1 h2 e
      go_enter Try.func17, Try.ntmps17
      go_wp2
      go_ret
      exact ⟨rfl, rfl⟩
    · have e : tau i j k = k := by unfold tau; rw [if_neg h1, if_neg h2]
      have f2 : ((k : Int) == (j : Int)) = false := by simp; omega
      rw [e]; clear h1 h2 e
      go_enter Try.func17, Try.ntmps17
      go_wp2
      go_ret
      exact ⟨rfl, rfl⟩

/-- A mask with two numbers changed with one another. -/
def turnN (M i j : Nat) : Nat := (((M &&& (18446744073709551615 - 2 ^ i)) &&& (18446744073709551615 - 2 ^ j)) ||| (M / 2 ^ i % 2 * 2 ^ j)) ||| (M / 2 ^ j % 2 * 2 ^ i)
theorem pow64 {i : Nat} (h : i < 64) : 2 ^ i < 18446744073709551616 := Nat.lt_of_lt_of_le (Nat.pow_lt_pow_right (by decide) h) (by decide)
theorem bit_pow (b i k : Nat) (hb : b < 2) : (b * 2 ^ i).testBit k = (decide (k = i) && decide (b = 1)) := by
  rcases (show b = 0 ∨ b = 1 by omega) with rfl | rfl
  · simp
  · rw [Nat.one_mul, Nat.testBit_two_pow]
    simp only [decide_true, Bool.and_true]
    apply Bool.eq_iff_iff.2
    simp only [decide_eq_true_eq]
    omega
theorem bit_not (T k : Nat) (hk : k < 64) (hT : T < 18446744073709551616) : (18446744073709551615 - T).testBit k = !T.testBit k := by
  have := Nat.testBit_two_pow_sub_succ (x := T) (n := 64) (by simpa using hT) k
  have e2 : 2 ^ 64 - (T + 1) = 18446744073709551615 - T := by omega
  rw [e2] at this
  rw [this]
  simp [hk]
theorem turnN_bit (M i j k : Nat) (hi : i < 64) (hj : j < 64) (hk : k < 64) : (turnN M i j).testBit k = M.testBit (tau i j k) := by
  have pi := bit_pow 1 i k (by decide)
  have pj := bit_pow 1 j k (by decide)
  rw [Nat.one_mul] at pi pj
  unfold turnN
  rw [Nat.testBit_or, Nat.testBit_or, Nat.testBit_and, Nat.testBit_and, bit_not _ _ hk (pow64 hi), bit_not _ _ hk (pow64 hj), bit_pow _ j k (by omega), bit_pow _ i k (by omega), pi, pj]
  have ei : decide (M / 2 ^ i % 2 = 1) = M.testBit i := by rw [Nat.testBit_eq_decide_div_mod_eq]
  have ej : decide (M / 2 ^ j % 2 = 1) = M.testBit j := by rw [Nat.testBit_eq_decide_div_mod_eq]
  rw [ei, ej]
  unfold tau
  by_cases h1 : k = i
  · subst h1
    by_cases h2 : k = j
    · subst h2; simp
    · simp [h2]
  · by_cases h2 : k = j
    · subst h2; simp [h1]
    · simp [h1, h2]
theorem turnN_has (M i j k : Nat) (hi : i < 64) (hj : j < 64) (hk : k < 64) : hasN (turnN M i j) (k : Int) = hasN M (tau i j k : Nat) := by
  have ht := tau_lt hi hj hk
  unfold hasN
  simp only [Int.toNat_natCast, turnN_bit M i j k hi hj hk]
  have h1 : decide ((k : Int) < 64) = true := decide_eq_true (by omega)
  have h2 : decide (((tau i j k : Nat) : Int) < 64) = true := decide_eq_true (by omega)
  have h3 : decide ((0 : Int) ≤ (k : Int)) = true := decide_eq_true (by omega)
  have h4 : decide ((0 : Int) ≤ ((tau i j k : Nat) : Int)) = true := decide_eq_true (by omega)
  rw [h1, h2, h3, h4]
theorem bitval_lt (M i j : Nat) (hj : j < 64) : M / 2 ^ i % 2 * 2 ^ j < 18446744073709551616 := by
  have := pow64 hj
  rcases (show M / 2 ^ i % 2 = 0 ∨ M / 2 ^ i % 2 = 1 by omega) with h | h <;> rw [h] <;> omega
theorem or64 {a b : Nat} (ha : a < 18446744073709551616) (hb : b < 18446744073709551616) : a ||| b < 18446744073709551616 := by
  have := Nat.or_lt_two_pow (x := a) (y := b) (n := 64) (by simpa using ha) (by simpa using hb)
  simpa using this
theorem turnN_lt (M i j : Nat) (hM : M < 18446744073709551616) (hi : i < 64) (hj : j < 64) : turnN M i j < 18446744073709551616 :=
  or64 (or64 (Nat.lt_of_le_of_lt (Nat.le_trans Nat.and_le_left Nat.and_le_left) hM) (bitval_lt M i j hj)) (bitval_lt M j i hi)
theorem turnN_eq (M i j : Nat) (hM : M < 18446744073709551616) (hi : i < 64) (hj : j < 64) : bits .or .u64 (bits .or .u64 (bits .andNot .u64 (bits .andNot .u64 (M : Int) (IntKind.u64.wrap (2 ^ i))) (IntKind.u64.wrap (2 ^ j))) (IntKind.u64.wrap (bits .and .u64 ((M : Int) / 2 ^ i) 1 * 2 ^ j))) (IntKind.u64.wrap (bits .and .u64 ((M : Int) / 2 ^ j) 1 * 2 ^ i)) = ((turnN M i j : Nat) : Int) := by
  have pw : ∀ k, k < 64 → IntKind.u64.wrap (2 ^ k) = ((2 ^ k : Nat) : Int) := fun k hk => by
    have := pow64 hk
    rw [IntKind.wrap_u64, show ((2 : Int) ^ k) = ((2 ^ k : Nat) : Int) by simp]
    generalize 2 ^ k = P at *
    omega
  have bt : ∀ k, bits .and .u64 ((M : Int) / 2 ^ k) 1 = ((M / 2 ^ k % 2 : Nat) : Int) := fun k => by
    have e : ((M : Int) / 2 ^ k) = ((M / 2 ^ k : Nat) : Int) := by simp
    have t : bits .and .u64 ((M / 2 ^ k : Nat) : Int) 1 = ((M / 2 ^ k &&& 1 : Nat) : Int) := bits_and_u64_nat (M / 2 ^ k) 1 (Nat.lt_of_le_of_lt (Nat.div_le_self _ _) hM) (by decide)
    rw [e, t, Nat.and_one_is_mod]
  have wv : ∀ a k, k < 64 → IntKind.u64.wrap (((M / 2 ^ a % 2 : Nat) : Int) * 2 ^ k) = ((M / 2 ^ a % 2 * 2 ^ k : Nat) : Int) := fun a k hk => by
    have := bitval_lt M a k hk
    rw [IntKind.wrap_u64, show ((M / 2 ^ a % 2 : Nat) : Int) * 2 ^ k = ((M / 2 ^ a % 2 * 2 ^ k : Nat) : Int) by simp]
    omega
  have l1 : M &&& (18446744073709551615 - 2 ^ i) < 18446744073709551616 := Nat.lt_of_le_of_lt Nat.and_le_left hM
  have l2 : (M &&& (18446744073709551615 - 2 ^ i)) &&& (18446744073709551615 - 2 ^ j) < 18446744073709551616 := Nat.lt_of_le_of_lt Nat.and_le_left l1
  rw [pw i hi, pw j hj, bt i, bt j, wv i j hj, wv j i hi, u64_andNot_nat M (2 ^ i) hM (pow64 hi), u64_andNot_nat _ (2 ^ j) l1 (pow64 hj), bits_or_u64_nat _ _ l2 (bitval_lt M i j hj), bits_or_u64_nat _ _ (or64 l2 (bitval_lt M i j hj)) (bitval_lt M j i hi)]
  rfl
set_option maxRecDepth 100000 in
set_option maxHeartbeats 1000000 in
theorem turnedMask_any (M i j : Nat) (w : World) (hM : M < 18446744073709551616) (hi : i < 64) (hj : j < 64) : Calls Try.prog 18 #[.int .u64 (M : Int), .int .i64 (i : Int), .int .i64 (j : Int)] w fun e w' => e = .returned (.int .u64 ((turnN M i j : Nat) : Int)) ∧ Below w.heap.size w w' := by
  have hi0 : (0 : Int) ≤ (i : Int) := by omega
  have hj0 : (0 : Int) ≤ (j : Int) := by omega
  rw [← turnN_eq M i j hM hi hj]
  go_enter Try.func18, Try.ntmps18
  go_wp2
  go_quiet (fail)
  go_upto_region 4 with fail
  go_quiet (fail)
  go_wp2
  go_ret
  exact ⟨rfl, bel_drewN (bel_drewN (Below.refl _ _))⟩
end Go.Proofs.Ytiaklfjpmmifjaa
