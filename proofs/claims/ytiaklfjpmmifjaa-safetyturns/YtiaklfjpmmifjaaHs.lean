import Derived.Test.YtiaklfjpmmifjaaTabA
import Derived.Laws.Bits64
import Derived.Laws.Bits64b
namespace Go.Proofs.Ytiaklfjpmmifjaa
open Go.RowKit
set_option linter.unusedVariables false


/-- Is a number in a mask? -/
def hasN (M : Nat) (g : Int) : Bool := decide (0 ≤ g) && (decide (g < 64) && M.testBit g.toNat)
theorem bit1 (M k : Nat) (h : M < 18446744073709551616) : (bits .and .u64 ((M : Int) / 2 ^ k) 1 == 1) = M.testBit k := by
  have e : ((M : Int) / 2 ^ k) = ((M / 2 ^ k : Nat) : Int) := by simp
  have t : bits .and .u64 ((M / 2 ^ k : Nat) : Int) 1 = ((M / 2 ^ k &&& 1 : Nat) : Int) := bits_and_u64_nat (M / 2 ^ k) 1 (Nat.lt_of_le_of_lt (Nat.div_le_self _ _) h) (by decide)
  rw [e, t, Nat.and_one_is_mod, Nat.testBit_eq_decide_div_mod_eq]
  rcases Nat.mod_two_eq_zero_or_one (M / 2 ^ k) with h | h <;> rw [h] <;> rfl
theorem bit64 (M : Nat) (h : M < 18446744073709551616) : M.testBit 64 = false := Nat.testBit_lt_two_pow h
theorem hasS_eq (M : Nat) (g : Int) (hM : M < 18446744073709551616) (hg : -9223372036854775808 ≤ g ∧ g ≤ 9223372036854775807) : (bits .and .u64 ((M : Int) / 2 ^ min (IntKind.u64.wrap g).toNat 64) 1 == 1) = hasN M g := by
  rw [bit1 M _ hM, IntKind.wrap_u64]
  unfold hasN
  by_cases h0 : 0 ≤ g
  · by_cases h1 : g < 64
    · have e : min (g % 18446744073709551616).toNat 64 = g.toNat := by omega
      rw [e]; simp [h0, h1]
    · have e : min (g % 18446744073709551616).toNat 64 = 64 := by omega
      rw [e, bit64 M hM]; simp [h1]
  · have e : min (g % 18446744073709551616).toNat 64 = 64 := by omega
    rw [e, bit64 M hM]; simp [h0]
theorem allOf_eq (n : Nat) : IntKind.u64.wrap (IntKind.u64.wrap (2 ^ min n 64) - 1) = ((2 ^ min n 64 - 1 : Nat) : Int) := by
  rw [IntKind.wrap_u64, IntKind.wrap_u64]
  have hp : 1 ≤ 2 ^ min n 64 := Nat.one_le_two_pow
  by_cases h : n < 64
  · have e : min n 64 = n := by omega
    rw [e] at hp ⊢
    have hl : 2 ^ n < 18446744073709551616 := Nat.lt_of_lt_of_le (Nat.pow_lt_pow_right (by decide) h) (by decide)
    have e2 : ((2 : Int) ^ n) = ((2 ^ n : Nat) : Int) := by simp
    rw [e2]; omega
  · have e : min n 64 = 64 := by omega
    rw [e]; decide
theorem allOf_lt (n : Nat) : 2 ^ min n 64 - 1 < 18446744073709551616 := by
  have h : 2 ^ min n 64 ≤ 2 ^ 64 := Nat.pow_le_pow_right (by decide) (Nat.min_le_right _ _)
  have e : 2 ^ 64 = 18446744073709551616 := by decide
  have hp : 1 ≤ 2 ^ min n 64 := Nat.one_le_two_pow
  omega
theorem hasN_and (M n : Nat) (g : Int) : hasN (M &&& (2 ^ min n 64 - 1)) g = (hasN M g && decide (g < (n : Int))) := by
  unfold hasN
  rw [Nat.testBit_and, Nat.testBit_two_pow_sub_one]
  by_cases h0 : 0 ≤ g
  · by_cases h1 : g < 64
    · have e : decide (g.toNat < min n 64) = decide (g < (n : Int)) := by
        apply Bool.eq_iff_iff.2; simp only [decide_eq_true_eq]; omega
      rw [e]; simp [h0, h1]
    · simp [h1]
  · simp [h0]
/-- Is a row's conflict in the mask? -/
def hit (n M : Nat) (c : Cf) : Bool := (hasN M c.a && decide (c.a < (n : Int))) && (hasN M c.b && decide (c.b < (n : Int)))
def clashF (n M : Nat) : List Cf → Int × Int × Bool
  | [] => (-1, -1, false)
  | c :: cs => if hit n M c = true then (c.a, c.b, true) else clashF n M cs
theorem clashF_step (n M : Nat) (C : List Cf) (k : Nat) (h : k < C.length) : clashF n M (C.drop k) = if hit n M C[k] = true then (C[k].a, C[k].b, true) else clashF n M (C.drop (k + 1)) := by
  rw [List.drop_eq_getElem_cons h]; rfl
theorem clashF_end (n M : Nat) (C : List Cf) (k : Nat) (h : C.length ≤ k) : clashF n M (C.drop k) = (-1, -1, false) := by
  rw [List.drop_eq_nil_of_le h]; rfl
set_option maxRecDepth 100000 in
theorem hasS_any (M : Nat) (g : Int) (w : World) (hM : M < 18446744073709551616) (hg : -9223372036854775808 ≤ g ∧ g ≤ 9223372036854775807) :
    Calls Try.prog 26 #[.int .u64 (M : Int), .int .i64 g] w fun e w' => e = .returned (.bool (hasN M g)) ∧ w' = w := by
  have e := hasS_eq M g hM hg
  go_enter Try.func26, Try.ntmps26
  go_wp2
  go_ret
  exact ⟨rfl, rfl⟩
set_option maxRecDepth 100000 in
theorem hasR_any (M : Nat) (g : Int) (w : World) (hM : M < 18446744073709551616) (hg : -9223372036854775808 ≤ g ∧ g ≤ 9223372036854775807) :
    Calls Try.prog 27 #[.int .u64 (M : Int), .int .i64 g] w fun e w' => e = .returned (.bool (hasN M g)) ∧ w' = w := by
  by_cases h0 : 0 ≤ g
  · by_cases h1 : g < 64
    · have e := bit1 M g.toNat hM
      have e2 : hasN M g = M.testBit g.toNat := by unfold hasN; simp [h0, h1]
      go_enter Try.func27, Try.ntmps27
      go_wp2
      go_ret
      exact ⟨ret_bool e2.symm, rfl⟩
    · have e2 : hasN M g = false := by unfold hasN; simp [h1]
      go_enter Try.func27, Try.ntmps27
      go_wp2
      go_ret
      exact ⟨rfl, rfl⟩
  · have e2 : hasN M g = false := by unfold hasN; simp [h0]
    go_enter Try.func27, Try.ntmps27
    go_wp2
    go_ret
    exact ⟨rfl, rfl⟩
set_option maxRecDepth 100000 in
theorem allOf_any (n : Nat) (a : Option Addr) (c : Nat) (w : World) (hn : n ≤ 2932031007317) :
    Calls Try.prog 25 #[.slice a n c] w fun e w' => e = .returned (.int .u64 ((2 ^ min n 64 - 1 : Nat) : Int)) ∧ w' = w := by
  have e := allOf_eq n
  go_enter Try.func25, Try.ntmps25
  go_wp2
  go_ret
  exact ⟨rfl, rfl⟩
end Go.Proofs.Ytiaklfjpmmifjaa
