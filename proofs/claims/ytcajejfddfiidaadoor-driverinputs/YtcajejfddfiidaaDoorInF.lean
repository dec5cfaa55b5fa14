import Derived.Test.YtcajejfddfiidaaDoorInB
import Derived.Test.YtcajejfddfiidaaDoorInE
import Derived.Test.YtcajejfddfiidaaDoorDrF
import Derived.Test.YtcajejfddfiidaaDoorDrJ
namespace Go.Proofs.YtcajejfddfiidaaDoor
open Go.RowKit
set_option linter.unusedVariables false
set_option linter.unusedSimpArgs false


theorem split_first (c : UInt8) : ∀ (l : List UInt8), c ∈ l → ∃ p q, l = p ++ c :: q ∧ c ∉ p
  | [], h => by cases h
  | x :: l, h => by
    by_cases e : x = c
    · exact ⟨[], l, by rw [e]; rfl, by simp⟩
    · obtain ⟨p, q, h1, h2⟩ := split_first c l ((List.mem_cons.1 h).resolve_left (fun h2 => e h2.symm))
      exact ⟨x :: p, q, by rw [h1]; rfl, by simp [h2, Ne.symm e]⟩
theorem numF_top : ∀ (l : List UInt8) (k : Nat), numF 65537 l = some k → k = 65537
  | [], k, h => by simp [numF] at h; exact h.symm
  | c :: r, k, h => by
    unfold numF at h
    split at h
    · rw [show min (10 * 65537 + (c.toNat - 48)) 65537 = 65537 by omega] at h
      exact numF_top r k h
    · cases h
theorem num_step (n d : Nat) : min (10 * min n 65537 + d) 65537 = min (10 * n + d) 65537 := by omega
theorem num_of_p10 : ∀ (l : List UInt8) (n v : Nat), p10F n l = some v → numF (min n 65537) l = some (min v 65537)
  | [], n, v, h => by simp [p10F] at h; subst h; rfl
  | c :: r, n, v, h => by
    unfold p10F at h
    unfold numF
    by_cases hd : 48 ≤ c.toNat ∧ c.toNat ≤ 57
    · rw [if_pos hd] at h
      rw [if_pos (show isDg c from hd), num_step]
      split at h
      · cases h
      · exact num_of_p10 r _ v h
    · rw [if_neg hd] at h; cases h
theorem p10_of_num : ∀ (l : List UInt8) (n k : Nat), numF (min n 65537) l = some k → k ≤ 65536 → p10F n l = some k
  | [], n, k, h, hk => by
    simp [numF] at h
    unfold p10F
    congr 1
    omega
  | c :: r, n, k, h, hk => by
    unfold numF at h
    unfold p10F
    by_cases hd : 48 ≤ c.toNat ∧ c.toNat ≤ 57
    · rw [if_pos (show isDg c from hd), num_step] at h
      rw [if_pos hd]
      by_cases ho : 2147483647 < 10 * n + (c.toNat - 48)
      · rw [show min (10 * n + (c.toNat - 48)) 65537 = 65537 by omega] at h
        have := numF_top r k h
        omega
      · rw [if_neg ho]
        exact p10_of_num r _ k h hk
    · rw [if_neg (show ¬ isDg c from hd)] at h; cases h
/-- What driver.readWord reads. -/
def rwT (l : List UInt8) : List UInt8 := if (cutB 42 l).2.2 = true then (cutB 42 l).1 else [49]
def rwB (l : List UInt8) : List UInt8 := if (cutB 42 l).2.2 = true then (cutB 42 l).2.1 else l
def p10 (t : List UInt8) : Option Nat := if t = [] then none else p10F 0 t
def p16 (t : List UInt8) : Option Nat := if t = [] then none else hexF 0 t
def rwF (l : List UInt8) : Option (Nat × Nat) := match p10 (rwT l) with
  | none => none
  | some n => if n < 1 ∨ 16 < (rwB l).length then none else (p16 (rwB l)).map (fun x => (n, x))
/-- What the reference takes of a word, behind so many ticks. -/
def okW (len : Nat) (l : List UInt8) : Option (Nat × Nat) := if (wdF ⟨l.toArray⟩).1 = 0 ∨ 65536 < len + (wdF ⟨l.toArray⟩).1 then none else some (wdF ⟨l.toArray⟩)
def okR (len : Nat) (l : List UInt8) : Option (Nat × Nat) := match rwF l with
  | none => none
  | some p => if 65536 - len < p.1 then none else some p
theorem tl_ok (len n v : Nat) (b : List UInt8) (hlen : len ≤ 65536) (hn : n = min v 65537) :
    (match (if v < 1 ∨ 16 < b.length then none else (p16 b).map (fun x => (v, x)) : Option (Nat × Nat)) with | none => none | some p => if 65536 - len < p.1 then none else some p) = (if (tlF n b).1 = 0 ∨ 65536 < len + (tlF n b).1 then none else some (tlF n b)) := by
  unfold tlF p16
  by_cases hv : v < 1
  · have : n = 0 := by omega
    subst this
    rw [if_pos (.inl hv)]
    by_cases hb : b.length < 1 ∨ 16 < b.length
    · rw [if_pos hb]
      simp
    · rw [if_neg hb]
      cases hexF 0 b <;> simp
  · by_cases hb : b.length < 1 ∨ 16 < b.length
    · rw [if_pos hb]
      rcases hb with hb | hb
      · have : b = [] := List.eq_nil_of_length_eq_zero (by omega)
        subst this
        simp
      · rw [if_pos (.inr hb)]
        simp
    · have hb1 : ¬ 16 < b.length := fun h => hb (.inr h)
      have hb2 : b ≠ [] := fun h => hb (.inl (by rw [h]; simp))
      rw [if_neg hb, if_neg (by omega), if_neg hb2]
      cases hexF 0 b with
      | none => simp
      | some x =>
        simp only [Option.map_some]
        by_cases hc : 65536 - len < v
        · rw [if_pos hc, if_pos (.inr (by omega))]
        · have : n = v := by omega
          subst this
          rw [if_neg hc, if_neg (by omega)]
theorem ok_same (len : Nat) (l : List UInt8) (hlen : len ≤ 65536) : okR len l = okW len l := by
  have hsz : (ByteArray.mk l.toArray).size = l.length := by simp [ByteArray.size]
  by_cases hm : (42 : UInt8) ∈ l
  · obtain ⟨p, q, e, hp⟩ : ∃ p q, l = p ++ 42 :: q ∧ (42 : UInt8) ∉ p := by
      exact split_first 42 l hm
    have hu : upF ⟨l.toArray⟩ 42 0 = p.length := by
      have := upF_split ⟨l.toArray⟩ 42 q p [] (by simp [e]) hp
      simpa using this
    have hT : rwT l = p := by unfold rwT; rw [e, cutB_hit 42 q p hp]; rfl
    have hB : rwB l = q := by unfold rwB; rw [e, cutB_hit 42 q p hp]; rfl
    have hW : wdF ⟨l.toArray⟩ = match numF 0 p with | none => (0, 0) | some n => tlF n q := by
      unfold wdF
      rw [hu, if_pos (by rw [hsz, e]; simp)]
      have e1 : (ByteArray.mk l.toArray).data.toList = p ++ 42 :: q := by simpa using e
      have e2 : (p ++ 42 :: q).drop (p.length + 1) = q := by
        rw [show p ++ 42 :: q = (p ++ [42]) ++ q by simp, show p.length + 1 = (p ++ [42]).length by simp, List.drop_left]
      rw [e1, List.take_left' rfl, e2]
      cases numF 0 p <;> rfl
    unfold okR okW rwF
    rw [hT, hB, hW]
    unfold p10
    by_cases hpe : p = []
    · subst hpe
      rw [if_pos rfl]
      have e0 : numF 0 [] = some 0 := rfl
      rw [e0]
      have := tl_ok len 0 0 q hlen rfl
      simp only [show (0 : Nat) < 1 from by decide, true_or, if_true] at this
      exact this
    · rw [if_neg hpe]
      cases hP : p10F 0 p with
      | some v =>
        have hN := num_of_p10 p 0 v hP
        rw [show min 0 65537 = 0 from rfl] at hN
        rw [hN]
        exact tl_ok len _ v q hlen rfl
      | none =>
        cases hN : numF 0 p with
        | none => simp
        | some m =>
          have hm6 : 65536 < m := by
            refine Classical.byContradiction fun h => ?_
            have := p10_of_num p 0 m hN (by omega)
            rw [hP] at this
            cases this
          simp only
          unfold tlF
          split
          · simp
          · cases hexF 0 q with
            | none => simp
            | some x => simp only; rw [if_pos (.inr (by omega))]
  · have hu : upF ⟨l.toArray⟩ 42 0 = l.length := by
      have h1 := upF_past ⟨l.toArray⟩ 42 [] l [] (by simp) hm
      have h2 := upF_le ⟨l.toArray⟩ 42 _ 0 (Nat.le_refl _) (by omega)
      rw [hsz] at h2
      simp at h1
      omega
    have hT : rwT l = [49] := by unfold rwT; rw [cutB_no 42 l hm]; rfl
    have hB : rwB l = l := by unfold rwB; rw [cutB_no 42 l hm]; rfl
    have hW : wdF ⟨l.toArray⟩ = tlF 1 l := by
      unfold wdF
      rw [hu, if_neg (by rw [hsz]; omega)]
    unfold okR okW rwF
    rw [hT, hB, hW]
    have e1 : p10 [49] = some 1 := by decide
    rw [e1]
    exact tl_ok len 1 1 l hlen (by decide)
end Go.Proofs.YtcajejfddfiidaaDoor
