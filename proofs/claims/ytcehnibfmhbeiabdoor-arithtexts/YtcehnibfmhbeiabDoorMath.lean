import Derived.Lib.ParseIntB
import Derived.Lib.ItoaNum
namespace Go.Proofs.YtcehnibfmhbeiabDoor
open Go.Lib

def isDig (c : UInt8) : Bool := decide (48 ≤ c.toNat ∧ c.toNat ≤ 57)
/-- What stands behind the sign. -/
def body : List UInt8 → List UInt8
  | c :: r => if c = 45 then r else c :: r
  | [] => []
/-- The text of a whole number, of whatever size. -/
def numB (l : List UInt8) : Bool := decide (l = [48]) || (match body l with | [] => false | c :: r => decide (c ≠ 48) && isDig c && r.all isDig)
/-- The number that digits spell. -/
def dstep (a : Nat) (c : UInt8) : Nat := a * 10 + (c.toNat - 48)
def dval (acc : Nat) (l : List UInt8) : Nat := l.foldl dstep acc
theorem dval_nil (acc : Nat) : dval acc [] = acc := by unfold dval; exact List.foldl_nil
theorem dval_cons (c : UInt8) (r : List UInt8) (acc : Nat) : dval acc (c :: r) = dval (acc * 10 + (c.toNat - 48)) r := by unfold dval; rw [List.foldl_cons]; unfold dstep; trivial
theorem dval_ge : ∀ (l : List UInt8) (acc : Nat), acc ≤ dval acc l
  | [], acc => by rw [dval_nil]; exact Nat.le_refl _
  | c :: r, acc => by rw [dval_cons]; exact Nat.le_trans (by omega) (dval_ge r (acc * 10 + (c.toNat - 48)))
theorem dval_snoc : ∀ (l : List UInt8) (acc : Nat) (c : UInt8), dval acc (l ++ [c]) = dval acc l * 10 + (c.toNat - 48)
  | [], acc, c => by rw [List.nil_append, dval_cons, dval_nil, dval_nil]
  | d :: r, acc, c => by rw [List.cons_append, dval_cons, dval_cons]; exact dval_snoc r _ c
theorem dval_lt : ∀ (l : List UInt8) (acc : Nat), l.all isDig = true → dval acc l < (acc + 1) * 10 ^ l.length
  | [], acc, _ => by rw [dval_nil]; simp
  | c :: r, acc, h => by
    simp only [List.all_cons, Bool.and_eq_true] at h
    have hc : 48 ≤ c.toNat ∧ c.toNat ≤ 57 := by simpa [isDig] using h.1
    have := dval_lt r (acc * 10 + (c.toNat - 48)) h.2
    rw [dval_cons, List.length_cons]
    refine Nat.lt_of_lt_of_le this ?_
    rw [Nat.pow_succ, ← Nat.mul_assoc, Nat.mul_right_comm]
    exact Nat.mul_le_mul_right _ (by omega)
theorem parseUintM_digits (M : Nat) (hM : M < 1844674407370955162) : ∀ (l : List UInt8) (acc : Nat), acc ≤ M → l.all isDig = true →
    parseUintM M acc l = if dval acc l ≤ M then .ok (dval acc l) else .range
  | [], acc, ha, _ => by rw [dval_nil, if_pos ha]; rfl
  | c :: r, acc, ha, h => by
    simp only [List.all_cons, Bool.and_eq_true] at h
    have hc : 48 ≤ c.toNat ∧ c.toNat ≤ 57 := by simpa [isDig] using h.1
    have hge := dval_ge r (acc * 10 + (c.toNat - 48))
    rw [dval_cons]
    obtain ⟨z, hp⟩ : ∃ z, parseUintM M acc (c :: r) = if 48 ≤ c.toNat ∧ c.toNat ≤ 57 then if 1844674407370955162 ≤ acc then .range else if M < acc * 10 + (c.toNat - 48) then .range else parseUintM M (acc * 10 + (c.toNat - 48)) r else z := ⟨_, rfl⟩
    rw [hp, if_pos hc, if_neg (by omega)]
    by_cases hb : M < acc * 10 + (c.toNat - 48)
    · rw [if_pos hb, if_neg (by omega)]
    · rw [if_neg hb, parseUintM_digits M hM r _ (by omega) h.2]
/-- The number that a text spells, its sign with it. -/
def sval (l : List UInt8) : Int := if l.head? = some 45 then -(dval 0 (body l) : Int) else (dval 0 (body l) : Int)
theorem numB_body {l : List UInt8} (h : numB l = true) : ∃ c r, body l = c :: r ∧ (body l).all isDig = true := by
  unfold numB at h
  rw [Bool.or_eq_true] at h
  rcases h with h | h
  · have : l = [48] := by simpa using h
    subst this
    exact ⟨48, [], by decide, by decide⟩
  · cases hb : body l with
    | nil => rw [hb] at h; cases h
    | cons c r =>
      rw [hb] at h
      simp only [Bool.and_eq_true] at h
      exact ⟨c, r, rfl, by simp only [List.all_cons, Bool.and_eq_true]; exact ⟨h.1.2, h.2⟩⟩
theorem parse_numB {l : List UInt8} (h : numB l = true) : parseIntB 32 l = if -2147483648 ≤ sval l ∧ sval l ≤ 2147483647 then .ok (sval l) else .range := by
  obtain ⟨c0, r0, hb, hall⟩ := numB_body h
  cases l with
  | nil => cases hb
  | cons c r =>
    by_cases hc : c = 45
    · subst hc
      have hbr : body (45 :: r) = r := by simp [body]
      rw [hbr] at hb hall
      have hs : sval (45 :: r) = -(dval 0 r : Int) := by simp [sval, hbr]
      have hp : parseUintB 32 r = if dval 0 r ≤ 4294967295 then .ok (dval 0 r) else .range := by
        unfold parseUintB
        rw [if_neg (by rw [hb]; simp)]
        exact parseUintM_digits _ (by decide) r 0 (by omega) hall
      rw [hs]
      unfold parseIntB
      simp only [show (45 : UInt8).toNat = 45 from rfl, or_true, if_true, hp]
      by_cases hle : dval 0 r ≤ 4294967295
      · rw [if_pos hle]
        simp only [not_true_eq_false, false_and, if_false, true_and]
        by_cases h2 : 2 ^ (32 - 1) < dval 0 r
        · rw [if_pos h2, if_neg (by omega)]
        · rw [if_neg h2, if_pos (by omega)]
      · rw [if_neg hle, if_neg (by omega)]
    · have hbr : body (c :: r) = c :: r := by simp [body, hc]
      rw [hbr] at hb hall
      have hd : 48 ≤ c.toNat ∧ c.toNat ≤ 57 := by
        simp only [List.all_cons, Bool.and_eq_true] at hall
        simpa [isDig] using hall.1
      have hs : sval (c :: r) = (dval 0 (c :: r) : Int) := by simp [sval, hbr, hc]
      have hp : parseUintB 32 (c :: r) = if dval 0 (c :: r) ≤ 4294967295 then .ok (dval 0 (c :: r)) else .range := by
        unfold parseUintB
        rw [if_neg (by simp)]
        exact parseUintM_digits _ (by decide) (c :: r) 0 (by omega) hall
      rw [hs]
      unfold parseIntB
      simp only [show ¬ (c.toNat = 43 ∨ c.toNat = 45) by omega, if_false, hp]
      have hn : ¬ c.toNat = 45 := by omega
      by_cases hle : dval 0 (c :: r) ≤ 4294967295
      · rw [if_pos hle]
        simp only [hn, not_false_eq_true, true_and, false_and, if_false]
        by_cases h2 : 2 ^ (32 - 1) ≤ dval 0 (c :: r)
        · rw [if_pos h2, if_neg (by omega)]
        · rw [if_neg h2, if_pos (by omega)]
      · rw [if_neg hle, if_neg (by omega)]
/-- The digits as the second text gathers them: from the last on. -/
theorem decDigits_step (u : Nat) (h : 10 ≤ u) : decDigits u = decDigits (u / 10) ++ [UInt8.ofNat (48 + u % 10)] := by
  rw [decDigits.eq_def u, dif_neg (by omega)]
theorem decDigits_small (u : Nat) (h : u < 10) : decDigits u = [UInt8.ofNat (48 + u)] := by
  rw [decDigits.eq_def u, dif_pos h]
end Go.Proofs.YtcehnibfmhbeiabDoor
