import Derived.Test.YtbgfeogigjjmdaaRhG
import Derived.Test.YtbgfeogigjjmdaaHzC
namespace Go.Proofs.Ytbgfeogigjjmdaa
open Go.RowKit
set_option linter.unusedVariables false

theorem linF_err {st : Rd} {l : List Nat} {c col : Nat} (h : linF st l = .error (c, col)) : 0 < c := by
  unfold linF at h
  split at h
  · cases h; decide
  · split at h
    · rename_i e he
      cases h
      rcases parF_err he with h | h <;> subst h <;> decide
    · unfold recF datF at h
      (repeat' split at h) <;> cases h <;> decide
theorem linF_len {st st' : Rd} {l : List Nat} (h : linF st l = .ok st') (hl : st.D.length ≤ 1048576) : st'.D.length ≤ 1048576 := by
  unfold linF at h
  split at h
  · cases h
  · split at h
    · cases h
    · unfold recF datF at h
      (repeat' split at h) <;> first | (cases h; done) | (cases h; first | exact hl | (simp only [List.length_append]; omega))
theorem nl_extract (s : ByteArray) (a b : Nat) : nl (s.extract a b) = ((nl s).drop a).take (b - a) := by
  unfold nl
  rw [ByteArray.data_extract, Array.toList_extract, List.extract_eq_take_drop, List.map_take, List.map_drop]
theorem drop_cons (M : List Nat) (k : Nat) (h : k < M.length) : M.drop k = M.getD k 0 :: M.drop (k + 1) := by
  rw [List.drop_eq_getElem_cons h, List.getD_eq_getElem?_getD, List.getElem?_eq_getElem h]; rfl
theorem raw_step (M : List Nat) (a k : Nat) (ha : a ≤ k) (hk : k < M.length) (hn : 10 ∉ (M.drop a).take (k - a)) (h10 : M.getD k 0 = 10) : rawL (M.drop a) = ((M.drop a).take (k - a), true) :: rawL (M.drop (k + 1)) := by
  have e : M.drop a = (M.drop a).take (k - a) ++ 10 :: M.drop (k + 1) := by
    conv => lhs; rw [← List.take_append_drop (k - a) (M.drop a)]
    rw [List.drop_drop, show a + (k - a) = k by omega, drop_cons M k hk, h10]
  conv => lhs; rw [e]
  exact rawL_cut _ _ hn
theorem take_more (M : List Nat) (a k : Nat) (ha : a ≤ k) (hk : k < M.length) : (M.drop a).take (k + 1 - a) = (M.drop a).take (k - a) ++ [M.getD k 0] := by
  have hl : k - a < (M.drop a).length := by rw [List.length_drop]; omega
  rw [show k + 1 - a = (k - a) + 1 by omega, List.take_succ_eq_append_getElem hl, List.getElem_drop, List.getD_eq_getElem?_getD, List.getElem?_eq_getElem hk]
  have e : a + (k - a) = k := by omega
  simp only [e, Option.getD_some]
theorem not_more {M : List Nat} {a k : Nat} (ha : a ≤ k) (hk : k < M.length) (hn : 10 ∉ (M.drop a).take (k - a)) (hc : M.getD k 0 ≠ 10) : 10 ∉ (M.drop a).take (k + 1 - a) := by
  rw [take_more M a k ha hk]
  intro h
  rcases List.mem_append.1 h with h | h
  · exact hn h
  · rw [List.mem_singleton] at h; exact hc h.symm
theorem strip_cr (M : List Nat) (a k : Nat) (ha : a < k) (hk : k ≤ M.length) (hc : M.getD (k - 1) 0 = 13) : strip ((M.drop a).take (k - a), true) = (M.drop a).take (k - 1 - a) := by
  have e := take_more M a (k - 1) (by omega) (by omega)
  rw [show k - 1 + 1 = k by omega, hc] at e
  unfold strip
  rw [e, if_pos ⟨rfl, by simp⟩]
  simp
theorem strip_no (M : List Nat) (a k : Nat) (hk : k ≤ M.length) (hc : a < k → M.getD (k - 1) 0 ≠ 13) : strip ((M.drop a).take (k - a), true) = (M.drop a).take (k - a) := by
  unfold strip
  refine if_neg ?_
  rintro ⟨_, h⟩
  rcases Nat.lt_or_ge a k with h1 | h1
  · have e := take_more M a (k - 1) (by omega) (by omega)
    rw [show k - 1 + 1 = k by omega] at e
    simp only [e] at h
    rw [List.getLast?_concat] at h
    exact hc h1 (Option.some.inj h)
  · rw [show k - a = 0 by omega] at h
    simp at h
theorem count_drop {M : List Nat} {a : Nat} (h : 10 ∉ M.drop a) : M.count 10 = (M.take a).count 10 := by
  conv => lhs; rw [← List.take_append_drop a M]
  rw [List.count_append, List.count_eq_zero_of_not_mem h, Nat.add_zero]
theorem count_nl (s : ByteArray) : Lib.countByte s.data.toList 10 = (nl s).count 10 := by
  unfold Lib.countByte nl
  generalize s.data.toList = l
  induction l with
  | nil => rfl
  | cons c r ih =>
    rw [List.map_cons, List.count_cons, List.count_cons, ih]
    congr 1
    by_cases hc : c = 10
    · subst hc; rfl
    · have h2 : ¬ c.toNat = 10 := fun e => hc (UInt8.toNat_inj.1 (by simpa using e))
      simp [hc, h2]
theorem data_nl (s : ByteArray) (j : Nat) (h : j < s.size) : (s.data[j]!).toNat = (nl s).getD j 0 := by
  rw [nl_get s j h]
  have hj : j < s.data.size := h
  rw [getElem!_pos s.data j hj]; rfl
theorem last_nl (s : ByteArray) (a : Nat) (ha : a ≤ s.size) (hn : 10 ∉ (nl s).drop a) (h0 : a = 0 ∨ (nl s).getD (a - 1) 0 = 10) : Lib.lastIndexByte s 10 = (a : Int) - 1 := by
  have hno : ∀ j, a ≤ j → j < s.size → (nl s).getD j 0 ≠ 10 := by
    intro j h1 h2 e
    refine hn ?_
    have hj : j < (nl s).length := by rw [nl_len]; exact h2
    rw [← e, List.getD_eq_getElem?_getD, List.getElem?_eq_getElem hj]
    rw [List.mem_drop_iff_getElem]
    exact ⟨j - a, by omega, by simp only [Option.getD_some]; congr 1; omega⟩
  rcases Lib.lastIndexByte_spec s 10 with ⟨h, hj⟩ | ⟨i, hi, h, hc, hj⟩
  · rcases h0 with h0 | h0
    · rw [h, h0]; rfl
    · rcases Nat.eq_zero_or_pos a with h5 | h5
      · rw [h, h5]; rfl
      · have := hj (a - 1) (by omega)
        rw [data_nl s (a - 1) (by omega), h0] at this
        exact absurd rfl this
  · rw [data_nl s i hi] at hc
    have hia : i < a := by
      rcases Nat.lt_or_ge i a with h6 | h6
      · exact h6
      · exact absurd (by omega) (hno i h6 hi)
    rcases h0 with h0 | h0
    · omega
    · rcases Nat.lt_or_ge i (a - 1) with h7 | h7
      · have := hj (a - 1) h7 (by omega)
        rw [data_nl s (a - 1) (by omega), h0] at this
        exact absurd rfl this
      · rw [h]; omega
theorem count_take (M : List Nat) (k : Nat) (hk : k < M.length) (a : Nat) (ha : a ≤ k) (hn : 10 ∉ (M.drop a).take (k - a)) (h10 : M.getD k 0 = 10) : (M.take (k + 1)).count 10 = (M.take a).count 10 + 1 := by
  have e : M.take (k + 1) = M.take a ++ ((M.drop a).take (k - a) ++ [10]) := by
    have := take_more M a k ha hk
    rw [h10] at this
    rw [← this, show k + 1 = a + (k + 1 - a) by omega, List.take_add, show a + (k + 1 - a) - a = k + 1 - a by omega]
  rw [e, List.count_append, List.count_append, List.count_eq_zero_of_not_mem hn]
  simp
end Go.Proofs.Ytbgfeogigjjmdaa
