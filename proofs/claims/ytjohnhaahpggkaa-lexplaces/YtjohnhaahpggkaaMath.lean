import Derived.Lib.LastIndexByte
import Derived.Lib.CutLaws
namespace Go.Proofs.Ytjohnhaahpggkaa
set_option linter.unusedVariables false
open Go

/-- The line of the byte at k. -/
def lineAt (s : ByteArray) (k : Nat) : Int := 1 + ((s.data.toList.take k).count 10 : Nat)
/-- The column of the byte at k. -/
def colAt (s : ByteArray) (k : Nat) : Int := k - Lib.lastIdx s 10 k

theorem data_get (s : ByteArray) (k : Nat) (h : k < s.size) : s.data[k]! = s[k] := by
  have h' : k < s.data.size := h
  rw [getElem!_pos s.data k h']; rfl

theorem take_snoc (s : ByteArray) (k : Nat) (h : k < s.size) : s.data.toList.take (k + 1) = s.data.toList.take k ++ [s[k]] := by
  rw [List.take_succ_eq_append_getElem (by simpa using h)]; rfl

theorem lineAt_hit (s : ByteArray) (k : Nat) (h : k < s.size) (e : (s[k].toNat : Int) = 10) : lineAt s (k + 1) = lineAt s k + 1 := by
  have e' : s[k] = 10 := by apply UInt8.toNat_inj.1; show s[k].toNat = 10; omega
  unfold lineAt; rw [take_snoc s k h, List.count_append, e']; simp; omega
theorem lineAt_miss (s : ByteArray) (k : Nat) (h : k < s.size) (e : ¬ (s[k].toNat : Int) = 10) : lineAt s (k + 1) = lineAt s k := by
  have e' : ¬ s[k] = 10 := by intro x; rw [x] at e; exact e rfl
  unfold lineAt; rw [take_snoc s k h, List.count_append]; simp [e']
theorem colAt_hit (s : ByteArray) (k : Nat) (h : k < s.size) (e : (s[k].toNat : Int) = 10) : colAt s (k + 1) = 1 := by
  unfold colAt; rw [Lib.lastIdx_hit s 10 k (by rw [data_get s k h]; exact e)]; omega
theorem colAt_miss (s : ByteArray) (k : Nat) (h : k < s.size) (e : ¬ (s[k].toNat : Int) = 10) : colAt s (k + 1) = colAt s k + 1 := by
  unfold colAt; rw [Lib.lastIdx_miss s 10 k (by rw [data_get s k h]; exact e)]; omega
theorem lineAt_bd (s : ByteArray) (k : Nat) : 1 ≤ lineAt s k ∧ lineAt s k ≤ k + 1 := by
  unfold lineAt
  have h1 := List.count_le_length (a := (10 : UInt8)) (l := s.data.toList.take k)
  have h2 := List.length_take_le k s.data.toList
  omega
theorem lastIdx_bd (s : ByteArray) (c : Int) (k : Nat) : -1 ≤ Lib.lastIdx s c k ∧ Lib.lastIdx s c k < k ∨ k = 0 ∧ Lib.lastIdx s c k = -1 := by
  rcases Lib.lastIdx_spec s c k with ⟨h, _⟩ | ⟨i, hi, h, _⟩ <;> omega
theorem colAt_bd (s : ByteArray) (k : Nat) : 1 ≤ colAt s k ∧ colAt s k ≤ k + 1 := by
  unfold colAt; have := lastIdx_bd s 10 k; omega

theorem lastIdx_extract (s : ByteArray) (c : Int) (n : Nat) : ∀ k, k ≤ n → n ≤ s.size → Lib.lastIdx (s.extract 0 n) c k = Lib.lastIdx s c k
  | 0, _, _ => rfl
  | k + 1, h1, h2 => by
    have ih := lastIdx_extract s c n k (by omega) h2
    have e : (s.extract 0 n).data[k]! = s.data[k]! := by
      have hs : (s.extract 0 n).size = n := by simp; omega
      rw [data_get _ k (by omega), data_get s k (by omega)]
      simp [ByteArray.getElem_extract]
    unfold Lib.lastIdx; rw [e, ih]

theorem lineAt_eq (s : ByteArray) (n : Nat) (h : n ≤ s.size) : ((Lib.countByte (s.extract 0 n).data.toList 10 : Nat) : Int) + 1 = lineAt s n := by
  unfold lineAt Lib.countByte; rw [Lib.extract_data]; simp; omega
theorem colAt_eq (s : ByteArray) (n : Nat) (h : n ≤ s.size) : (n : Int) - Lib.lastIndexByte (s.extract 0 n) 10 = colAt s n := by
  unfold colAt Lib.lastIndexByte
  have hs : (s.extract 0 n).size = n := by simp; omega
  rw [hs, lastIdx_extract s 10 n n (Nat.le_refl _) h]

/-! A line's bytes. -/
/-- The first place of a byte 10, or the size. -/
def stop (t : ByteArray) : Nat := (t.data.toList.takeWhile (fun x => x != 10)).length

theorem stop_le (t : ByteArray) : stop t ≤ t.size := by
  unfold stop
  have h := (List.takeWhile_prefix (fun x : UInt8 => x != 10) (l := t.data.toList)).length_le
  simpa using h

theorem stop_first (t : ByteArray) (i : Nat) (hi : i ≤ t.size) (h : ∀ j (hj : j < t.size), j < i → ¬ t[j] = 10) (e : i = t.size ∨ ∃ hl : i < t.size, t[i] = 10) : stop t = i := by
  have key : ∀ (l : List UInt8) (i : Nat), i ≤ l.length → (∀ j (hj : j < l.length), j < i → ¬ l[j] = 10) → (i = l.length ∨ ∃ hl : i < l.length, l[i] = 10) → (l.takeWhile (fun x => x != 10)).length = i := by
    intro l
    induction l with
    | nil => intro i hi _ _; simp at hi; simp [hi]
    | cons a l ih =>
      intro i hi h e
      cases i with
      | zero =>
        rcases e with e | ⟨_, e⟩
        · simp at e
        · simp only [List.getElem_cons_zero] at e; simp [e]
      | succ i =>
        have ha : ¬ a = 10 := h 0 (by simp) (by omega)
        rw [List.takeWhile_cons_of_pos (by simpa using ha), List.length_cons]
        rw [ih i (by simpa using hi) (fun j hj hji => by have := h (j + 1) (by simpa using hj) (by omega); simpa using this) (by
          rcases e with e | ⟨hl, e⟩
          · left; simpa using e
          · right; exact ⟨by simpa using hl, by simpa using e⟩)]
  unfold stop
  exact key t.data.toList i (by simpa using hi) (fun j hj hji => h j (by simpa using hj) hji) (by
    rcases e with e | ⟨hl, e⟩
    · left; simpa using e
    · right; exact ⟨by simpa using hl, e⟩)

theorem stop_ne (t : ByteArray) (j : Nat) (hj : j < t.size) (h : j < stop t) : ¬ t[j] = 10 := by
  have h1 : t.data.toList[j]'(by simpa using hj) ∈ t.data.toList.takeWhile (fun x => x != 10) := by
    have h2 := List.takeWhile_prefix (fun x : UInt8 => x != 10) (l := t.data.toList)
    have h3 := h2.getElem (i := j) h
    rw [← h3]; exact List.getElem_mem _
  have := List.all_takeWhile (p := fun x : UInt8 => x != 10) (l := t.data.toList)
  have := List.all_eq_true.1 this _ h1
  intro e
  have e2 : t.data.toList[j]'(by simpa using hj) = 10 := e
  rw [e2] at this; simp at this
theorem stop_is (t : ByteArray) (h : stop t < t.size) : t[stop t] = 10 := by
  have key : ∀ (l : List UInt8) (h : (l.takeWhile (fun x => x != 10)).length < l.length), l[(l.takeWhile (fun x => x != 10)).length] = 10 := by
    intro l
    induction l with
    | nil => intro h; simp at h
    | cons a l ih =>
      intro h
      by_cases ha : a = 10
      · subst ha; simp
      · have e : (a :: l).takeWhile (fun x => x != 10) = a :: l.takeWhile (fun x => x != 10) := List.takeWhile_cons_of_pos (by simpa using ha)
        simp only [e, List.length_cons, List.getElem_cons_succ] at h ⊢
        exact ih (by omega)
  exact key t.data.toList (by simpa [stop] using h)

/-- The line with n line ends ahead of it. -/
def lineB : Nat → ByteArray → ByteArray
  | 0, t => if h : stop t < t.size then (if h2 : 0 < stop t then (if t[stop t - 1] = 13 then t.extract 0 (stop t - 1) else t.extract 0 (stop t)) else t.extract 0 (stop t)) else t
  | n + 1, t => if stop t < t.size then lineB n (t.extract (stop t + 1) t.size) else ByteArray.empty

def tailB (s : ByteArray) (b : Nat) : ByteArray := s.extract b s.size
theorem tailB_size (s : ByteArray) (b : Nat) : (tailB s b).size = s.size - b := by unfold tailB; simp
theorem tailB_get (s : ByteArray) (b j : Nat) (h : j < (tailB s b).size) : (tailB s b)[j] = s[b + j]'(by rw [tailB_size] at h; omega) := by
  have h' : j < (s.extract b s.size).size := h
  exact ByteArray.getElem_extract h'
theorem tailB_zero (s : ByteArray) : tailB s 0 = s := by unfold tailB; simp
theorem tailB_tail (s : ByteArray) (b c : Nat) : (tailB s b).extract c (tailB s b).size = tailB s (b + c) := by
  unfold tailB
  have : (s.extract b s.size).size = s.size - b := by simp
  rw [this]
  apply ByteArray.ext
  simp [ByteArray.data_extract, Array.extract_extract]
  by_cases h : b ≤ s.size
  · congr 1; omega
  · have e1 : s.data.size ≤ b + c := by have : s.data.size = s.size := rfl; omega
    rw [Array.extract_eq_empty_of_le (by omega), Array.extract_eq_empty_of_le (by have : s.data.size = s.size := rfl; omega)]
theorem tailB_front (s : ByteArray) (b k : Nat) (h : b + k ≤ s.size) : (tailB s b).extract 0 k = s.extract b (b + k) := by
  unfold tailB
  apply ByteArray.ext
  simp [ByteArray.data_extract, Array.extract_extract]
  congr 1; omega

theorem trim_eq (t : ByteArray) : (⟨(Lib.trimSuffix t.data.toList [13]).toArray⟩ : ByteArray) = if h : 0 < t.size then (if t[t.size - 1] = 13 then t.extract 0 (t.size - 1) else t) else t := by
  obtain ⟨⟨l⟩⟩ := t
  have hsz : (ByteArray.mk ⟨l⟩).size = l.length := rfl
  unfold Lib.trimSuffix Lib.hasSuffix
  by_cases h : 0 < l.length
  · rw [dif_pos (by rw [hsz]; exact h)]
    have hg : (ByteArray.mk ⟨l⟩)[(ByteArray.mk ⟨l⟩).size - 1]'(by rw [hsz]; omega) = l[l.length - 1] := rfl
    rw [hg]
    have hl : l = l.take (l.length - 1) ++ [l[l.length - 1]] := by
      have := List.take_succ_eq_append_getElem (i := l.length - 1) (l := l) (by omega)
      rw [← this, Nat.sub_add_cancel h, List.take_length]
    have hiff : ([13].isSuffixOf l = true) ↔ l[l.length - 1] = 13 := by
      rw [List.isSuffixOf_iff_suffix]
      constructor
      · rintro ⟨p, hp⟩
        have : l[l.length - 1] = (p ++ [13])[(p ++ [13]).length - 1]'(by simp) := by simp [hp]
        rw [this]; simp
      · intro e; exact ⟨l.take (l.length - 1), by rw [← e]; exact hl.symm⟩
    by_cases hx : l[l.length - 1] = 13
    · rw [if_pos (hiff.2 hx), if_pos hx, ByteArray.extract_mk]; simp [hsz]
    · rw [if_neg (fun c => hx (hiff.1 c)), if_neg hx]
  · have : l = [] := by cases l; rfl; simp at h
    subst this
    rfl

theorem trim_front (t : ByteArray) (h : stop t < t.size) : (⟨(Lib.trimSuffix (t.extract 0 (stop t)).data.toList [13]).toArray⟩ : ByteArray) = lineB 0 t := by
  have hs : (t.extract 0 (stop t)).size = stop t := by simp; omega
  rw [trim_eq]
  unfold lineB
  rw [dif_pos h]
  by_cases h2 : 0 < stop t
  · rw [dif_pos (by omega), dif_pos h2]
    have hg : (t.extract 0 (stop t))[(t.extract 0 (stop t)).size - 1]'(by omega) = t[stop t - 1] := by simp [ByteArray.getElem_extract, hs]
    rw [hg, hs]
    by_cases h3 : t[stop t - 1] = 13
    · rw [if_pos h3, if_pos h3]
      apply ByteArray.ext
      simp [ByteArray.data_extract, Array.extract_extract]
    · rw [if_neg h3, if_neg h3]
  · rw [dif_neg (by omega), dif_neg h2]

theorem stop_tail (s : ByteArray) (b i : Nat) (hb : b ≤ i) (hi : i ≤ s.size) (h : ∀ j (hj : j < s.size), b ≤ j → j < i → ¬ s[j] = 10) (e : i = s.size ∨ ∃ hl : i < s.size, s[i] = 10) : stop (tailB s b) = i - b := by
  refine stop_first _ _ (by rw [tailB_size]; omega) (fun j hj hji => by rw [tailB_get]; exact h _ _ (by omega) (by omega)) ?_
  rcases e with e | ⟨hl, e⟩
  · left; rw [tailB_size]; omega
  · right
    refine ⟨by rw [tailB_size]; omega, ?_⟩
    rw [tailB_get]
    have : b + (i - b) = i := by omega
    simp only [this]; exact e

/-- What is left to be looked for at line n, which begins at b. -/
def Rest (s : ByteArray) (line : Int) (A : ByteArray) (n b : Nat) : Prop := ((n : Int) ≤ line → lineB (line - n).toNat (tailB s b) = A) ∧ (line < n → A = ByteArray.empty)

def lineOf (s : ByteArray) (line : Int) : ByteArray := if 1 ≤ line then lineB (line - 1).toNat s else ByteArray.empty

theorem Rest.start (s : ByteArray) (line : Int) : Rest s line (lineOf s line) 1 0 := by
  refine ⟨fun h => ?_, fun h => ?_⟩
  · rw [tailB_zero]; unfold lineOf; rw [if_pos (by omega)]; rfl
  · unfold lineOf; rw [if_neg (by omega)]

theorem Rest.next {s : ByteArray} {line : Int} {A : ByteArray} {n b i : Nat} (h : Rest s line A n b) (hn : ¬ (n : Int) = line) (hb : b ≤ i) (hi : i < s.size) (hf : ∀ j (hj : j < s.size), b ≤ j → j < i → ¬ s[j] = 10) (e : s[i] = 10) :
    Rest s line A (n + 1) (i + 1) := by
  have hst := stop_tail s b i hb (by omega) hf (.inr ⟨hi, e⟩)
  have hsz := tailB_size s b
  refine ⟨fun hl => ?_, fun hl => h.2 (by omega)⟩
  rw [← h.1 (by omega)]
  have : (line - n).toNat = (line - ((n + 1 : Nat) : Int)).toNat + 1 := by omega
  rw [this, lineB, if_pos (by omega), tailB_tail, hst]
  congr 2; omega

theorem Rest.hit {s : ByteArray} {line : Int} {A : ByteArray} {n b i : Nat} (h : Rest s line A n b) (hn : (n : Int) = line) (hb : b ≤ i) (hi : i < s.size) (hf : ∀ j (hj : j < s.size), b ≤ j → j < i → ¬ s[j] = 10) (e : s[i] = 10) :
    A = if h2 : b < i then (if s[i - 1] = 13 then s.extract b (i - 1) else s.extract b i) else s.extract b i := by
  have hst := stop_tail s b i hb (by omega) hf (.inr ⟨hi, e⟩)
  have hsz := tailB_size s b
  rw [← h.1 (by omega)]
  have : (line - n).toNat = 0 := by omega
  rw [this, lineB, dif_pos (by omega)]
  by_cases h2 : b < i
  · rw [dif_pos (by omega), dif_pos h2]
    have hg : (tailB s b)[stop (tailB s b) - 1]'(by omega) = s[i - 1] := by
      rw [tailB_get]
      have : b + (stop (tailB s b) - 1) = i - 1 := by omega
      simp only [this]
    rw [hg]
    by_cases h3 : s[i - 1] = 13
    · rw [if_pos h3, if_pos h3, tailB_front _ _ _ (by omega)]; congr 1; omega
    · rw [if_neg h3, if_neg h3, tailB_front _ _ _ (by omega)]; congr 1; omega
  · rw [dif_neg (by omega), dif_neg h2, tailB_front _ _ _ (by omega)]; congr 1; omega

theorem Rest.last {s : ByteArray} {line : Int} {A : ByteArray} {n b : Nat} (h : Rest s line A n b) (hn : (n : Int) = line) (hb : b ≤ s.size) (hf : ∀ j (hj : j < s.size), b ≤ j → j < s.size → ¬ s[j] = 10) :
    A = s.extract b s.size := by
  have hst := stop_tail s b s.size hb (by omega) hf (.inl rfl)
  have hsz := tailB_size s b
  rw [← h.1 (by omega)]
  have : (line - n).toNat = 0 := by omega
  rw [this, lineB, dif_neg (by omega)]; rfl

theorem Rest.none {s : ByteArray} {line : Int} {A : ByteArray} {n b : Nat} (h : Rest s line A n b) (hn : ¬ (n : Int) = line) (hb : b ≤ s.size) (hf : ∀ j (hj : j < s.size), b ≤ j → j < s.size → ¬ s[j] = 10) :
    A = ByteArray.empty := by
  have hst := stop_tail s b s.size hb (by omega) hf (.inl rfl)
  have hsz := tailB_size s b
  by_cases hl : line < n
  · exact h.2 hl
  · rw [← h.1 (by omega)]
    obtain ⟨m, hm⟩ : ∃ m, (line - n).toNat = m + 1 := ⟨(line - n).toNat - 1, by omega⟩
    rw [hm, lineB, if_neg (by omega)]

theorem ten_iff (c : UInt8) : (c.toNat : Int) = 10 ↔ c = 10 := by
  constructor
  · intro h; apply UInt8.toNat_inj.1; show c.toNat = 10; omega
  · rintro rfl; rfl
theorem thirteen_iff (c : UInt8) : (c.toNat : Int) = 13 ↔ c = 13 := by
  constructor
  · intro h; apply UInt8.toNat_inj.1; show c.toNat = 13; omega
  · rintro rfl; rfl

end Go.Proofs.Ytjohnhaahpggkaa
