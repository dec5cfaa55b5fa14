import Derived.Test.YtjohnhaahpggkabDoorNumM
namespace Go.Proofs.YtjohnhaahpggkabDoor
set_option linter.unusedVariables false

/-- The keywords, from 10 on. -/
def kwL : List (List UInt8) := [[112, 108, 97, 110], [99, 111, 110, 115, 116], [103, 114, 111, 117, 112], [118, 101, 104, 105, 99, 108, 101], [112, 101, 100, 101, 115, 116, 114, 105, 97, 110], [109, 105, 110], [97, 109, 98, 101, 114], [108, 101, 97, 100], [99, 111, 110, 102, 108, 105, 99, 116], [100, 101, 116, 101, 99, 116, 111, 114], [108, 97, 116, 99, 104], [100, 101, 108, 97, 121], [104, 111, 108, 100], [116, 105, 109, 101, 114], [99, 111, 117, 110, 116, 101, 114], [118, 97, 114], [99, 111, 110, 100], [115, 116, 97, 114, 116], [115, 116, 97, 103, 101], [103, 114, 101, 101, 110], [101, 110, 116, 101, 114], [100, 117, 114, 105, 110, 103], [108, 101, 97, 118, 101], [110, 101, 120, 116], [119, 104, 101, 110], [114, 101, 115, 101, 116], [114, 117, 110], [115, 116, 111, 112], [99, 111, 117, 110, 116], [99, 108, 101, 97, 114], [105, 102], [101, 108, 115, 101], [111, 114], [97, 110, 100], [110, 111, 116], [116, 114, 117, 101], [102, 97, 108, 115, 101], [101, 108, 97, 112, 115, 101, 100], [114, 101, 100], [109, 97, 120], [97, 98, 115]]
/-- The signs, from 60 on. -/
def sgL : List (List UInt8) := [[123], [125], [40], [41], [44], [59], [61], [61, 61], [33, 61], [60], [60, 61], [62], [62, 61], [43], [45], [42], [47], [37]]
def wordL (k : Nat) : List UInt8 := if 10 ≤ k ∧ k < 51 then kwL.getD (k - 10) [] else if 60 ≤ k ∧ k < 78 then sgL.getD (k - 60) [] else []

/-- The first that is l, counted from n on; -1: none. -/
def look : List (List UInt8) → List UInt8 → Nat → Int
  | [], _, _ => -1
  | a :: L, l, n => if a = l then (n : Int) else look L l (n + 1)
def kwK (l : List UInt8) : Int := look kwL l 10
def sgK (l : List UInt8) : Int := look sgL l 60

theorem look_drop (L : List (List UInt8)) (l : List UInt8) (i n : Nat) (h : i < L.length) : look (L.drop i) l n = if L.getD i [] = l then (n : Int) else look (L.drop (i + 1)) l (n + 1) := by
  rw [List.drop_eq_getElem_cons h, look]
  simp [List.getD, h]
theorem look_end (L : List (List UInt8)) (l : List UInt8) (i n : Nat) (h : L.length ≤ i) : look (L.drop i) l n = -1 := by
  rw [List.drop_eq_nil_of_le h, look]
theorem look_mem : ∀ (L : List (List UInt8)) (l : List UInt8) (n : Nat), (look L l n = -1 ∧ l ∉ L) ∨ ((n : Int) ≤ look L l n ∧ look L l n < n + L.length ∧ l ∈ L)
  | [], l, n => .inl ⟨rfl, by simp⟩
  | a :: L, l, n => by
    rw [look]
    by_cases h : a = l
    · rw [if_pos h]; right; exact ⟨Int.le_refl _, by simp; omega, by simp [h]⟩
    · rw [if_neg h]
      rcases look_mem L l (n + 1) with ⟨h1, h2⟩ | ⟨h1, h2, h3⟩
      · left; exact ⟨h1, by simp [h2]; exact fun e => h e.symm⟩
      · right; exact ⟨by omega, by simp at h2 ⊢; omega, by simp [h3]⟩
theorem kwK_mem (l : List UInt8) : (kwK l = -1 ∧ l ∉ kwL) ∨ (10 ≤ kwK l ∧ kwK l ≤ 50 ∧ l ∈ kwL) := by
  rcases look_mem kwL l 10 with h | ⟨h1, h2, h3⟩
  · exact .inl h
  · right; unfold kwK; have : kwL.length = 41 := rfl; exact ⟨by omega, by omega, h3⟩
theorem sgK_mem (l : List UInt8) : (sgK l = -1 ∧ l ∉ sgL) ∨ (60 ≤ sgK l ∧ sgK l ≤ 77 ∧ l ∈ sgL) := by
  rcases look_mem sgL l 60 with h | ⟨h1, h2, h3⟩
  · exact .inl h
  · right; unfold sgK; have : sgL.length = 18 := rfl; exact ⟨by omega, by omega, h3⟩

theorem kwL_shape : ∀ l ∈ kwL, l.length ≤ 32 ∧ 0 < l.length ∧ l.all isL = true := by decide
theorem sgL_shape : ∀ l ∈ sgL, (l.length = 1 ∨ l.length = 2) ∧ l.all (fun c => !isR c) = true := by decide

theorem wordL_kw (k : Nat) (h1 : 10 ≤ k) (h2 : k < 51) : wordL k = kwL.getD (k - 10) [] := by unfold wordL; rw [if_pos ⟨h1, h2⟩]
theorem wordL_sg (k : Nat) (h1 : 60 ≤ k) (h2 : k < 78) : wordL k = sgL.getD (k - 60) [] := by unfold wordL; rw [if_neg (by omega), if_pos ⟨h1, h2⟩]
theorem wordL_no (k : Nat) (h : ¬ (10 ≤ k ∧ k < 51)) (h2 : ¬ (60 ≤ k ∧ k < 78)) : wordL k = [] := by unfold wordL; rw [if_neg h, if_neg h2]

/-- KindOf of what is no keyword and no sign. -/
def restK (l : List UInt8) : Int :=
  if l = [] ∨ l.all isR = false then -1 else if isL (l.headD 0) = true then (if 32 < l.length then -1 else 1) else if numE (numOf l) = 0 then 2 else -1
/-- KindOf, in the reference's words. -/
def kindL (l : List UInt8) : Int := if kwK l ≠ -1 then kwK l else if sgK l ≠ -1 then sgK l else restK l

/-- The run that a text begins with. -/
def runL (l : List UInt8) : List UInt8 := l.takeWhile isR

end Go.Proofs.YtjohnhaahpggkabDoor
