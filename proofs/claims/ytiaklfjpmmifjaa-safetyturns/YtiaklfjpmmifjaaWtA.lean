import Derived.Test.YtiaklfjpmmifjaaStC
import Derived.Maps.RangeWalk
namespace Go.Proofs.Ytiaklfjpmmifjaa
open Go.RowKit Go.Maps Go.WideMaps
set_option linter.unusedVariables false

/-- The greatest wait for a group of a mask. -/
def wA (C : List Cf) (A : Nat) (g : Int) : List Gp → Nat → Int → Int
  | [], _, w => w
  | x :: xs, o, w => wA C A g xs (o + 1) (if hasN A (o : Int) = true then (if w < waitV x C (o : Int) g then waitV x C (o : Int) g else w) else w)
theorem wF_wA (C : List Cf) (F T A : Nat) (all : Bool) (g : Int) : ∀ (G : List Gp) (o : Nat) (w : Int), (∀ k, o ≤ k → k < o + G.length → hasN A (k : Int) = (all || loses F T k)) → wF C F T all g G o w = wA C A g G o w
  | [], _, _, _ => rfl
  | x :: xs, o, w, h => by
    unfold wF wA
    rw [h o (Nat.le_refl _) (by simp)]
    exact wF_wA C F T A all g xs (o + 1) _ (fun k h1 h2 => h k (by omega) (by simp; omega))
/-- It is at least each of them, and one of them, or what it began with. -/
theorem wA_max (C : List Cf) (A : Nat) (g : Int) : ∀ (G : List Gp) (o : Nat) (w : Int), w ≤ wA C A g G o w ∧ (∀ (i : Nat) (h : i < G.length), hasN A ((o + i : Nat) : Int) = true → waitV G[i] C ((o + i : Nat) : Int) g ≤ wA C A g G o w) ∧
    (wA C A g G o w = w ∨ ∃ (i : Nat) (h : i < G.length), hasN A ((o + i : Nat) : Int) = true ∧ wA C A g G o w = waitV G[i] C ((o + i : Nat) : Int) g)
  | [], _, w => ⟨by simp [wA], fun i h => by simp at h, .inl rfl⟩
  | x :: xs, o, w => by
    obtain ⟨i1, i2, i3⟩ := wA_max C A g xs (o + 1) (if hasN A (o : Int) = true then (if w < waitV x C (o : Int) g then waitV x C (o : Int) g else w) else w)
    have e : wA C A g (x :: xs) o w = wA C A g xs (o + 1) (if hasN A (o : Int) = true then (if w < waitV x C (o : Int) g then waitV x C (o : Int) g else w) else w) := rfl
    rw [e]
    refine ⟨?_, fun i h hm => ?_, ?_⟩
    · refine Int.le_trans ?_ i1
      split
      · split <;> omega
      · omega
    · cases i with
      | zero =>
        simp only [Nat.add_zero] at hm ⊢
        refine Int.le_trans ?_ i1
        rw [if_pos hm]
        show waitV x C (o : Int) g ≤ _
        split <;> omega
      | succ i =>
        have := i2 i (by simpa using h) (by rw [show o + 1 + i = o + (i + 1) by omega]; exact hm)
        rw [show o + 1 + i = o + (i + 1) by omega] at this
        simpa using this
    · rcases i3 with i3 | ⟨i, hi, hm, hv⟩
      · by_cases ha : hasN A (o : Int) = true
        · rw [if_pos ha] at i3 ⊢
          by_cases hl : w < waitV x C (o : Int) g
          · rw [if_pos hl] at i3 ⊢
            exact .inr ⟨0, by simp, by simpa using ha, by simpa using i3⟩
          · rw [if_neg hl] at i3 ⊢
            exact .inl i3
        · rw [if_neg ha] at i3 ⊢
          exact .inl i3
      · refine .inr ⟨i + 1, by simpa using hi, ?_, ?_⟩
        · rw [show o + (i + 1) = o + 1 + i by omega]; exact hm
        · rw [hv, show o + (i + 1) = o + 1 + i by omega]; simp
/-- Groups of a pair that the tables name. -/
theorem inter_range {n : Nat} : ∀ (cs : List Cf) (p : Option Cf) (o g : Int), rowsB n p cs = true → (interF cs o g).2 = true → (0 ≤ o ∧ o < (n : Int)) ∧ 0 ≤ g ∧ g < (n : Int)
  | [], _, _, _, _, h => by simp [interF] at h
  | c :: cs, p, o, g, hr, h => by
    simp [rowsB, cfB] at hr
    have ih := inter_range cs (some c) o g hr.2
    unfold interF at h
    split at h
    · omega
    · split at h
      · omega
      · exact ih h
end Go.Proofs.Ytiaklfjpmmifjaa
