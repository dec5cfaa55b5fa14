import Derived.Test.YtnicolaphmffkaaDoorTyB
namespace Go.Proofs.YtnicolaphmffkaaDoor
open Go.RowKit
set_option linter.unusedVariables false

theorem nd_op (x : Nd) (h : fNd x = true) : ¬ (x.op = 7 ∨ x.op = 8 ∨ x.op = 9 ∨ x.op = 10) := by
  intro q
  unfold fNd at h
  rw [if_neg (by omega), if_neg (by omega), if_neg (by omega), if_pos q] at h
  cases h
/-- How many types wait ahead of each node of a tree. -/
theorem hts (L : List Nd) (h : fEx L = true) : ∃ H : Nat → Nat, L.length ≤ 256 ∧ H 0 = 0 ∧ H L.length = 1 ∧ (∀ k, k ≤ L.length → H k ≤ k) ∧ ∀ k (hk : k < L.length),
    ((L[k].op = 1 ∨ L[k].op = 2 ∨ L[k].op = 3 ∨ L[k].op = 4 ∨ L[k].op = 5 ∨ L[k].op = 6) ∧ H (k + 1) = H k + 1) ∨
    ((20 ≤ L[k].op ∧ L[k].op < 30) ∧ opB L[k].op ∧ 1 ≤ H k ∧ H (k + 1) = H k) ∨
    (30 ≤ L[k].op ∧ opB L[k].op ∧ 2 ≤ H k ∧ H (k + 1) + 1 = H k) := by
  unfold fEx at h
  simp only [Bool.and_eq_true, decide_eq_true_eq, List.all_eq_true] at h
  obtain ⟨h1, h2, h3, h4⟩ := h
  have hs : spanF L ((L.length : Int) - 1) = 0 := by
    unfold nestF at h2
    by_cases q : spanF L ((L.length : Int) - 1) = 0
    · exact q
    · rw [if_neg q] at h2; omega
  unfold spanF at hs
  by_cases hp : 0 ≤ (L.length : Int) - 1 ∧ (L.length : Int) - 1 < L.length
  case neg => rw [if_neg hp] at hs; omega
  rw [if_pos hp, show ((L.length : Int) - 1).toNat + 1 = L.length by omega] at hs
  obtain ⟨e1, e2⟩ := span_high L L.length 1 (Nat.le_refl _) (by omega) hs
  have key : ∀ k (hk : k < L.length), ((L[k].op = 1 ∨ L[k].op = 2 ∨ L[k].op = 3 ∨ L[k].op = 4 ∨ L[k].op = 5 ∨ L[k].op = 6) ∧ (runSt L (k + 1)).length = (runSt L k).length + 1) ∨
    ((20 ≤ L[k].op ∧ L[k].op < 30) ∧ opB L[k].op ∧ 1 ≤ (runSt L k).length ∧ (runSt L (k + 1)).length = (runSt L k).length) ∨
    (30 ≤ L[k].op ∧ opB L[k].op ∧ 2 ≤ (runSt L k).length ∧ (runSt L (k + 1)).length + 1 = (runSt L k).length) := by
    intro k hk
    obtain ⟨a1, a2⟩ := e2 k hk hk
    have a3 := nd_op _ (h4 _ (List.getElem_mem hk))
    rw [runSt_succ L k hk, stepSt_len]
    generalize (runSt L k).length = n at *
    generalize L[k].op = op at *
    unfold opB
    unfold arF at *
    by_cases c1 : 1 ≤ op ∧ op ≤ 10
    · simp only [if_pos c1] at *
      left
      refine ⟨by omega, by simp⟩
    · by_cases c2 : 20 ≤ op ∧ op ≤ 22
      · simp only [if_neg c1, if_pos c2] at *
        right; left
        refine ⟨by omega, by omega, by omega, ?_⟩
        have : (1 : Int).toNat = 1 := rfl
        omega
      · by_cases c3 : 30 ≤ op ∧ op ≤ 36 ∨ 40 ≤ op ∧ op ≤ 45 ∨ op = 50 ∨ op = 51
        · simp only [if_neg c1, if_neg c2, if_pos c3] at *
          right; right
          refine ⟨by omega, by omega, by omega, ?_⟩
          have : (2 : Int).toNat = 2 := rfl
          omega
        · simp only [if_neg c1, if_neg c2, if_neg c3] at *
          exact absurd rfl a1
  refine ⟨fun k => (runSt L k).length, h1, rfl, by show (runSt L L.length).length = 1; omega, ?_, key⟩
  intro k
  induction k with
  | zero => intro _; exact Nat.le_refl _
  | succ k ih =>
    intro hk
    have i1 := ih (by omega)
    have i2 := key k (by omega)
    simp only at i1 ⊢
    omega
theorem lf_pos (S : List Sy) (x : Nd) (h : (lfF S x).2 = 0) : (lfF S x).1 ≠ 0 := by
  unfold lfF at *
  by_cases c1 : x.op = 1 ∨ x.op = 4
  · simp only [if_pos c1]; decide
  · by_cases c2 : x.op = 2
    · simp only [if_neg c1, if_pos c2]; decide
    · simp only [if_neg c1, if_neg c2] at *
      cases hf : fkS S x.name with
      | none => rw [hf] at h; simp at h
      | some k =>
        rw [hf] at h
        simp only at *
        by_cases c3 : x.op = 3
        · simp only [if_pos c3] at *
          by_cases c4 : wrF k = 0
          · simp only [if_pos c4] at h; simp at h
          · simp only [if_neg c4]; exact c4
        · simp only [if_neg c3] at *
          by_cases c4 : k = 2
          · simp only [if_pos c4]; decide
          · simp only [if_neg c4] at h; simp at h
end Go.Proofs.YtnicolaphmffkaaDoor
