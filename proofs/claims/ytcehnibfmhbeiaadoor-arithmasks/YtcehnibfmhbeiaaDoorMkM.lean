import Derived.Laws.Bits64b
import Derived.WalkKit
import Derived.Lib.TrailingZeros
namespace Go.Proofs.YtcehnibfmhbeiaaDoor
open Go.RowKit

theorem pow_lt64 (j : Nat) (h : j < 64) : 2 ^ j < 18446744073709551616 := Nat.lt_of_lt_of_le (Nat.pow_lt_pow_right (by decide) h) (by decide)
theorem wrap_pow (j : Nat) (h : j < 64) : IntKind.u64.wrap (2 ^ j) = ((2 ^ j : Nat) : Int) := by
  rw [IntKind.wrap_u64]
  have h1 := pow_lt64 j h
  rw [show ((2 : Int) ^ j) = ((2 ^ j : Nat) : Int) by push_cast; rfl]
  generalize 2 ^ j = P at h1
  exact Int.emod_eq_of_lt (by omega) (by omega)

/-- The mask of the first k numbers; none: it is refused. -/
def maskOf (z : Nat → Int) : Nat → Option Nat
  | 0 => some 0
  | k + 1 => match maskOf z k with
    | none => none
    | some M => if z k < 0 ∨ 63 < z k then none else if M.testBit (z k).toNat then none else some (M ||| 2 ^ (z k).toNat)
theorem maskOf_lt (z : Nat → Int) : ∀ (k M : Nat), maskOf z k = some M → M < 18446744073709551616
  | 0, M, h => by cases h; decide
  | k + 1, M, h => by
    simp only [maskOf] at h
    cases hk : maskOf z k with
    | none => rw [hk] at h; cases h
    | some N =>
      rw [hk] at h
      dsimp only at h
      split at h
      · cases h
      · split at h
        · cases h
        · rename_i h1 h2
          have hN := maskOf_lt z k N hk
          have : N ||| 2 ^ (z k).toNat < 2 ^ 64 := Nat.or_lt_two_pow (by simpa using hN) (Nat.pow_lt_pow_right (by decide) (by omega))
          cases h
          simpa using this
theorem maskOf_none (z : Nat → Int) (k : Nat) (h : maskOf z k = none) : ∀ n, k ≤ n → maskOf z n = none
  | 0, hn => by obtain rfl : k = 0 := by omega
                exact h
  | n + 1, hn => by
    by_cases e : k = n + 1
    · subst e; exact h
    · simp only [maskOf]; rw [maskOf_none z k h n (by omega)]
theorem maskOf_out (z : Nat → Int) (k M : Nat) (h : maskOf z k = some M) (hz : z k < 0 ∨ 63 < z k) : maskOf z (k + 1) = none := by
  simp only [maskOf]; rw [h]; dsimp only; rw [if_pos hz]
theorem maskOf_twice (z : Nat → Int) (k M : Nat) (h : maskOf z k = some M) (hz : M.testBit (z k).toNat = true) : maskOf z (k + 1) = none := by
  simp only [maskOf]; rw [h]; dsimp only
  split
  · rfl
  · first | rfl | rw [if_pos hz]
theorem maskOf_in (z : Nat → Int) (k M : Nat) (h : maskOf z k = some M) (h1 : ¬ (z k < 0 ∨ 63 < z k)) (hz : M.testBit (z k).toNat = false) : maskOf z (k + 1) = some (M ||| 2 ^ (z k).toNat) := by
  simp only [maskOf]; rw [h]; dsimp only; rw [if_neg h1, if_neg (by rw [hz]; decide)]
theorem and_pow (M j : Nat) : (M &&& 2 ^ j = 0) ↔ M.testBit j = false := by
  constructor
  · intro h
    have := congrArg (fun x => Nat.testBit x j) h
    simpa using this
  · intro h
    apply Nat.eq_of_testBit_eq
    intro i
    rw [Nat.testBit_and, Nat.testBit_two_pow]
    by_cases e : j = i
    · subst e; simp [h]
    · simp [e]
theorem testBit_or_pow (M j i : Nat) : (M ||| 2 ^ j).testBit i = (M.testBit i || decide (j = i)) := by
  rw [Nat.testBit_or, Nat.testBit_two_pow]
theorem horner (M i : Nat) : M / 2 ^ i = 2 * (M / 2 ^ (i + 1)) + (if M.testBit i then 1 else 0) := by
  have h1 : M / 2 ^ (i + 1) = M / 2 ^ i / 2 := by rw [Nat.pow_succ, Nat.div_div_eq_div_mul]
  have h2 : M.testBit i = decide (M / 2 ^ i % 2 = 1) := by
    rw [Nat.testBit_eq_decide_div_mod_eq]
  rw [h1, h2]
  by_cases h : M / 2 ^ i % 2 = 1
  · rw [if_pos (by simpa using h)]; omega
  · rw [if_neg (by simpa using h)]; omega

/-- The members from bit i on, f bits of them. -/
def mem (i : Nat) : Nat → Nat → List Nat
  | 0, _ => []
  | f + 1, m => (if m % 2 = 1 then [i] else []) ++ mem (i + 1) f (m / 2)
end Go.Proofs.YtcehnibfmhbeiaaDoor
