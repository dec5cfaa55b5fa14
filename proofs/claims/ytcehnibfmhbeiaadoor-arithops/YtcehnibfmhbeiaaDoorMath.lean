import Derived.RowKit
namespace Go.Proofs.YtcehnibfmhbeiaaDoor
open Go.RowKit

theorem wrap_ex (x : Int) : ∃ k : Int, wrap32 x = x - k * 4294967296 := ⟨(x + 2147483648) / 4294967296, by unfold wrap32; omega⟩
theorem wrap_sub (x k : Int) : wrap32 (x - k * 4294967296) = wrap32 x := by unfold wrap32; omega
theorem wrap_of (x : Int) (h1 : -2147483648 ≤ x) (h2 : x ≤ 2147483647) : wrap32 x = x := by unfold wrap32; omega
theorem wrap_lo (x : Int) : -2147483648 ≤ wrap32 x := by unfold wrap32; omega
theorem wrap_hi (x : Int) : wrap32 x ≤ 2147483647 := by unfold wrap32; omega
theorem wrap_mul_l (x y : Int) : wrap32 (wrap32 x * y) = wrap32 (x * y) := by
  obtain ⟨k, hk⟩ := wrap_ex x
  rw [hk, show (x - k * 4294967296) * y = x * y - (k * y) * 4294967296 by rw [Int.sub_mul, Int.mul_right_comm], wrap_sub]
theorem wrap_mul_r (x y : Int) : wrap32 (x * wrap32 y) = wrap32 (x * y) := by rw [Int.mul_comm, wrap_mul_l, Int.mul_comm]
theorem wrap_add_l (x y : Int) : wrap32 (wrap32 x + y) = wrap32 (x + y) := by unfold wrap32; omega
theorem wrap_add_r (x y : Int) : wrap32 (x + wrap32 y) = wrap32 (x + y) := by unfold wrap32; omega
theorem wrap_sub_l (x y : Int) : wrap32 (wrap32 x - y) = wrap32 (x - y) := by unfold wrap32; omega

/-- Quotient times b and remainder. -/
theorem div_back (a b : Int) (h1 : -2147483648 ≤ a) (h2 : a ≤ 2147483647) : wrap32 (wrap32 (wrap32 (a.tdiv b) * b) + a.tmod b) = a := by
  rw [wrap_add_l, Int.add_comm, ← wrap_add_r (a.tmod b) (wrap32 (a.tdiv b) * b), wrap_mul_l, wrap_add_r, Int.mul_comm, Int.tmod_add_mul_tdiv, wrap_of a h1 h2]
theorem tmod_bd (a b : Int) (hb : b ≠ 0) : a.tmod b < (if b < 0 then -b else b) ∧ -(a.tmod b) < (if b < 0 then -b else b) := by
  have h1 := Int.natAbs_tmod a b
  have h2 : a.natAbs % b.natAbs < b.natAbs := Nat.mod_lt _ (by omega)
  split <;> omega
theorem tmod_sg (a b : Int) : (a.tmod b < 0 → a < 0) ∧ (0 < a.tmod b → 0 < a) := by
  constructor
  · intro h
    rcases Int.lt_or_le a 0 with h0 | h0
    · exact h0
    · have := Int.tmod_nonneg b h0; omega
  · intro h
    rcases Int.lt_or_le 0 a with h0 | h0
    · exact h0
    · have := Int.tmod_nonneg b (a := -a) (by omega)
      rw [Int.neg_tmod] at this; omega
end Go.Proofs.YtcehnibfmhbeiaaDoor
