import Derived.Test.YtjohnhaahpggkabDoorPcsT
import Derived.Test.YtjohnhaahpggkabDoorJnC
namespace Go.Proofs.YtjohnhaahpggkabDoor
open Go.RowKit
set_option linter.unusedVariables false
set_option linter.unusedSimpArgs false

theorem decD_eq (n : Nat) : Lib.decDigits n = decL n := by
  induction n using Nat.strongRecOn with
  | ind n ih =>
    by_cases h : n < 10
    · rw [Lib.decDigits, dif_pos h, decL_small h]; rfl
    · rw [Lib.decDigits, dif_neg h, decL_big h, ih (n / 10) (by omega)]; rfl
/-- A token as it is handed to Join. -/
def mkTq (tk : Tk) (ln cl : Int) : Tq := ⟨tk.kind, tk.num, bs tk.text, ln, cl⟩
/-- A token that Join writes as l. -/
structure Spl (tk : Tk) (l : List UInt8) : Prop where
  ok : ∀ b ln cl, okF (mkTq tk ln cl) b = true
  sp : ∀ ln cl, spF (mkTq tk ln cl) = bs l
  whl : Whl tk l
  hd : Hd l
  len : l.length ≤ 100
  num : -2147483648 ≤ tk.num ∧ tk.num ≤ 2147483647
  tx : tk.text.length ≤ 32
  nz : ¬ Ends tk

theorem bs_empty (l : List UInt8) : (bs l).toList.isEmpty = l.isEmpty := by
  rw [Lib.toList_data]; unfold bs; simp
theorem kw_word : ∀ x ∈ kwL, wordL (kwK x).toNat = x := by decide
theorem sg_word : ∀ x ∈ sgL, wordL (sgK x).toNat = x := by decide
theorem wordA_kw {l : List UInt8} (h : l ∈ kwL) : wordA (kwK l) = bs l := by
  rcases kwK_mem l with ⟨_, h2⟩ | ⟨h1, h2, _⟩
  · exact absurd h h2
  · unfold wordA; rw [if_pos (by omega), kw_word l h]
theorem wordA_sg {l : List UInt8} (h : l ∈ sgL) : wordA (sgK l) = bs l := by
  rcases sgK_mem l with ⟨_, h2⟩ | ⟨h1, h2, _⟩
  · exact absurd h h2
  · unfold wordA; rw [if_pos (by omega), sg_word l h]
theorem kw_spl {l : List UInt8} (h : l ∈ kwL) : Spl ⟨kwK l, 0, []⟩ l := by
  obtain ⟨f1, f2, f3, f4⟩ := kw_facts l h
  rcases kwK_mem l with ⟨_, h2⟩ | ⟨h1, h2, _⟩
  · exact absurd h h2
  · refine ⟨fun b ln cl => ?_, fun ln cl => ?_, kw_whl h, kw_hd h, by omega, by simp, by simp, by unfold Ends; simp; omega⟩
    · unfold okF mkTq
      dsimp only
      rw [if_neg (by omega), if_neg (by omega), if_neg (by omega), wordA_kw h, bs_empty, bs_empty]
      cases l with
      | nil => exact absurd rfl f2
      | cons c r => rfl
    · unfold spF mkTq
      dsimp only
      rw [if_neg (by omega), if_neg (by omega), wordA_kw h]
theorem sg_spl {l : List UInt8} (h : l ∈ sgL) : Spl ⟨sgK l, 0, []⟩ l := by
  obtain ⟨f1, f2, f3⟩ := sg_facts l h
  rcases sgK_mem l with ⟨_, h2⟩ | ⟨h1, h2, _⟩
  · exact absurd h h2
  · refine ⟨fun b ln cl => ?_, fun ln cl => ?_, sg_whl h, sg_hd h, by omega, by simp, by simp, by unfold Ends; simp; omega⟩
    · unfold okF mkTq
      dsimp only
      rw [if_neg (by omega), if_neg (by omega), if_neg (by omega), wordA_sg h, bs_empty, bs_empty]
      cases l with
      | nil => simp at f1
      | cons c r => rfl
    · unfold spF mkTq
      dsimp only
      rw [if_neg (by omega), if_neg (by omega), wordA_sg h]
theorem dec_numL (v : Nat) (h : v ≤ 2147483647) : NumL v (decL v) := by
  have h1 := num_decL false false v
  have h2 := decL_short v 9 (by omega)
  have h3 := decL_all v
  refine ⟨h1, h, all_R_of_D h3, by omega, ?_⟩
  cases hl : decL v with
  | nil => have := (decL_len v).1; rw [hl] at this; simp at this
  | cons c r => rw [hl] at h3; simp at h3; exact ⟨c, r, rfl, h3.1⟩
theorem num_spl (v : Nat) (h : v ≤ 2147483647) : Spl ⟨2, (v : Int), []⟩ (decL v) := by
  have hN := dec_numL v h
  have h2 := decL_short v 9 (by omega)
  refine ⟨fun b ln cl => ?_, fun ln cl => ?_, num_whl hN, num_hd hN, by omega, by simp; omega, by simp, by unfold Ends; simp⟩
  · unfold okF mkTq
    dsimp only
    rw [if_neg (by omega), if_pos rfl, bs_empty]
    simp
  · unfold spF mkTq
    dsimp only
    rw [if_neg (by omega), if_pos rfl, Lib.itoa_nonneg, decD_eq]; rfl
theorem name_spl {l : List UInt8} (hW : Whl ⟨1, 0, l⟩ l) (hd : Hd l) (hl : l.length ≤ 32) (hk : kindL l = 1) : Spl ⟨1, 0, l⟩ l := by
  refine ⟨fun b ln cl => ?_, fun ln cl => ?_, hW, hd, by omega, by simp, hl, by unfold Ends; simp⟩
  · unfold okF mkTq
    dsimp only
    rw [if_pos rfl]
    have : (bs l).data.toList = l := by unfold bs; simp
    rw [this, hk]; rfl
  · unfold spF mkTq
    dsimp only
    rw [if_pos rfl]
theorem meldF_nil2 (l : List UInt8) : meldF l [] = false := by
  unfold meldF; cases l.getLast? <;> rfl
/-- Whatever is scanned as a token can be written so that it is scanned as the same token. -/
theorem spl_of {tk : Tk} {l : List UInt8} (hW : Whl tk l) (hH : Hd l) (hk : ¬ Ends tk) : ∃ m, Spl tk m ∧ m.length ≤ l.length + 11 := by
  have h0 : firstTk l = (tk, l.length) := by
    have := hW.2 [] (meldF_nil2 l)
    rwa [List.append_nil] at this
  have hkl := kind_first l
  obtain ⟨c, r, hl, hb, h35⟩ := id hH
  have hne : l ≠ [] := by rw [hl]; simp
  rw [h0] at hkl
  rw [if_neg (by simp [hne])] at hkl
  cases hL : isL c with
  | true =>
    have h1 := h0
    rw [hl, first_L c r hL, ← hl] at h1
    simp only [Prod.mk.injEq] at h1
    obtain ⟨h2, h3⟩ := h1
    rw [run_whole l h3] at h2
    unfold wordTk at h2
    split at h2
    · exact absurd (.inr (by rw [← h2])) hk
    · rename_i h4
      split at h2
      · subst h2
        exact ⟨l, name_spl hW hH (by omega) hkl, by omega⟩
      · rename_i h5
        subst h2
        have hm : l ∈ kwL := by
          rcases kwK_mem l with ⟨h6, _⟩ | ⟨_, _, h6⟩
          · exact absurd h6 h5
          · exact h6
        exact ⟨l, kw_spl hm, by omega⟩
  | false =>
    cases hD : isD c with
    | true =>
      have h1 := h0
      rw [hl, first_D c r hL hD, ← hl] at h1
      simp only [Prod.mk.injEq] at h1
      obtain ⟨h2, h3⟩ := h1
      rw [run_whole l h3] at h2
      unfold numTk at h2
      split at h2
      · rename_i h4
        cases hn : numOf l with
        | none => rw [hn] at h4; simp [numE] at h4
        | some v =>
          rw [hn] at h2 h4
          have hv : v ≤ 2147483647 := by
            unfold numE at h4
            simp only at h4
            split at h4
            · assumption
            · omega
          simp only [numV, if_pos hv] at h2
          subst h2
          have := decL_short v 9 (by omega)
          exact ⟨decL v, num_spl v hv, by omega⟩
      · exact absurd (.inr (by rw [← h2])) hk
    | false =>
      have h1 := h0
      rw [hl, first_S c r hL hD, ← hl] at h1
      have hmem : ∀ x, sgK x ≠ -1 → x ∈ sgL := fun x hx => by
        rcases sgK_mem x with ⟨h6, _⟩ | ⟨_, _, h6⟩
        · exact absurd h6 hx
        · exact h6
      unfold signTk at h1
      split at h1
      · rename_i h4
        simp only [Prod.mk.injEq] at h1
        obtain ⟨h2, h3⟩ := h1
        have : l.take 2 = l := List.take_of_length_le (by omega)
        rw [this] at h2 h4
        subst h2
        exact ⟨l, sg_spl (hmem l h4.2), by omega⟩
      · split at h1
        · rename_i h4
          simp only [Prod.mk.injEq] at h1
          obtain ⟨h2, h3⟩ := h1
          have : l.take 1 = l := List.take_of_length_le (by omega)
          rw [this] at h2 h4
          subst h2
          exact ⟨l, sg_spl (hmem l h4), by omega⟩
        · simp only [Prod.mk.injEq] at h1
          exact absurd (.inr (by rw [← h1.1])) hk
end Go.Proofs.YtjohnhaahpggkabDoor
