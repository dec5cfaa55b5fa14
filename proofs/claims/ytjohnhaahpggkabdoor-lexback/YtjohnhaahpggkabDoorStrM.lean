import Derived.Lib.LastIndexByte
import Derived.Test.YtjohnhaahpggkabDoorWrdE
namespace Go.Proofs.YtjohnhaahpggkabDoor
open Go
set_option linter.unusedVariables false

/-- The line of the byte at k. -/
def lineAt (s : ByteArray) (k : Nat) : Int := 1 + ((s.data.toList.take k).count 10 : Nat)
/-- The column of the byte at k. -/
def colAt (s : ByteArray) (k : Nat) : Int := k - Lib.lastIdx s 10 k

theorem data_get (s : ByteArray) (k : Nat) (h : k < s.size) : s.data[k]! = s[k] := by
  have h' : k < s.data.size := h
  rw [getElem!_pos s.data k h']; rfl

theorem take_snoc (s : ByteArray) (k : Nat) (h : k < s.size) : s.data.toList.take (k + 1) = s.data.toList.take k ++ [s[k]] := by
  rw [List.take_succ_eq_append_getElem (by simpa using h)]; rfl

theorem lineAt_hit (s : ByteArray) (k : Nat) (h : k < s.size) (e : (s[k].toNat : Int) = 10) : lineAt s (k + 1) = lineAt s k + 1 := by
  have e' : s[k] = 10 := by apply UInt8.toNat_inj.1; show s[k].toNat = 10; omega
  unfold lineAt; rw [take_snoc s k h, List.count_append, e']; simp; omega
theorem lineAt_miss (s : ByteArray) (k : Nat) (h : k < s.size) (e : ¬ (s[k].toNat : Int) = 10) : lineAt s (k + 1) = lineAt s k := by
  have e' : ¬ s[k] = 10 := by intro x; rw [x] at e; exact e rfl
  unfold lineAt; rw [take_snoc s k h, List.count_append]; simp [e']
theorem colAt_hit (s : ByteArray) (k : Nat) (h : k < s.size) (e : (s[k].toNat : Int) = 10) : colAt s (k + 1) = 1 := by
  unfold colAt; rw [Lib.lastIdx_hit s 10 k (by rw [data_get s k h]; exact e)]; omega
theorem colAt_miss (s : ByteArray) (k : Nat) (h : k < s.size) (e : ¬ (s[k].toNat : Int) = 10) : colAt s (k + 1) = colAt s k + 1 := by
  unfold colAt; rw [Lib.lastIdx_miss s 10 k (by rw [data_get s k h]; exact e)]; omega
theorem lineAt_bd (s : ByteArray) (k : Nat) : 1 ≤ lineAt s k ∧ lineAt s k ≤ k + 1 := by
  unfold lineAt
  have h1 := List.count_le_length (a := (10 : UInt8)) (l := s.data.toList.take k)
  have h2 := List.length_take_le k s.data.toList
  omega
theorem lastIdx_bd (s : ByteArray) (c : Int) (k : Nat) : -1 ≤ Lib.lastIdx s c k ∧ Lib.lastIdx s c k < k ∨ k = 0 ∧ Lib.lastIdx s c k = -1 := by
  rcases Lib.lastIdx_spec s c k with ⟨h, _⟩ | ⟨i, hi, h, _⟩ <;> omega
theorem colAt_bd (s : ByteArray) (k : Nat) : 1 ≤ colAt s k ∧ colAt s k ≤ k + 1 := by
  unfold colAt; have := lastIdx_bd s 10 k; omega


/-- Where the line of the byte at k begins. -/
def begAt (s : ByteArray) (k : Nat) : Int := Lib.lastIdx s 10 k + 1
theorem begAt_hit (s : ByteArray) (k : Nat) (h : k < s.size) (e : (s[k].toNat : Int) = 10) : begAt s (k + 1) = k + 1 := by
  unfold begAt; rw [Lib.lastIdx_hit s 10 k (by rw [data_get s k h]; exact e)]
theorem begAt_miss (s : ByteArray) (k : Nat) (h : k < s.size) (e : ¬ (s[k].toNat : Int) = 10) : begAt s (k + 1) = begAt s k := by
  unfold begAt; rw [Lib.lastIdx_miss s 10 k (by rw [data_get s k h]; exact e)]
theorem begAt_bd (s : ByteArray) (k : Nat) : 0 ≤ begAt s k ∧ begAt s k ≤ k := by
  unfold begAt; have := lastIdx_bd s 10 k; omega
theorem colAt_beg (s : ByteArray) (k : Nat) : colAt s k = k - begAt s k + 1 := by unfold colAt begAt; omega
theorem at_start (s : ByteArray) : lineAt s 0 = 1 ∧ colAt s 0 = 1 ∧ begAt s 0 = 0 := by unfold lineAt colAt begAt Lib.lastIdx; simp
/-- Over bytes that are no line's end. -/
theorem still (s : ByteArray) (i : Nat) : ∀ n, i + n ≤ s.size → (∀ j (hj : j < s.size), i ≤ j → j < i + n → ¬ (s[j].toNat : Int) = 10) → lineAt s (i + n) = lineAt s i ∧ begAt s (i + n) = begAt s i
  | 0, _, _ => ⟨rfl, rfl⟩
  | n + 1, h, hf => by
    obtain ⟨h1, h2⟩ := still s i n (by omega) (fun j hj a b => hf j hj a (by omega))
    have h3 := hf (i + n) (by omega) (by omega) (by omega)
    rw [show i + (n + 1) = i + n + 1 by omega, lineAt_miss s _ (by omega) h3, begAt_miss s _ (by omega) h3]
    exact ⟨h1, h2⟩

/-! What is passed over: blanks and comments. -/
def isB (c : UInt8) : Bool := decide (c.toNat = 32 ∨ c.toNat = 9 ∨ c.toNat = 13 ∨ c.toNat = 10)
/-- How many bytes are passed over; true: within a comment. -/
def skipL : Bool → List UInt8 → Nat
  | _, [] => 0
  | true, c :: l => if c.toNat = 10 then 1 + skipL false l else 1 + skipL true l
  | false, c :: l => if isB c = true then 1 + skipL false l else if c.toNat = 35 then 1 + skipL true l else 0

/-- The next token's place, from i on. -/
def skipAt (s : ByteArray) (i : Nat) : Nat := i + skipL false (s.data.toList.drop i)
theorem skip_end (s : ByteArray) (i : Nat) (h : s.size ≤ i) : skipAt s i = i := by unfold skipAt; rw [drop_end s i h]; rfl
theorem skip_blank (s : ByteArray) (i : Nat) (h : i < s.size) (hb : isB s[i] = true) : skipAt s i = skipAt s (i + 1) := by
  unfold skipAt; rw [drop_get s i h, skipL, if_pos hb]; omega
theorem skip_stop (s : ByteArray) (i : Nat) (h : i < s.size) (hb : isB s[i] = false) (h35 : ¬ s[i].toNat = 35) : skipAt s i = i := by
  unfold skipAt; rw [drop_get s i h, skipL, if_neg (by simp [hb]), if_neg h35]; omega
theorem skip_in : ∀ (l : List UInt8), skipL true l = (l.takeWhile (fun c => c != 10)).length + skipL false (l.dropWhile (fun c => c != 10))
  | [] => rfl
  | c :: l => by
    by_cases h : c = 10
    · subst h; simp [skipL, isB]
    · have h' : (c != 10) = true := by simpa using h
      have h2 : ¬ c.toNat = 10 := fun e => h (UInt8.toNat_inj.1 e)
      rw [List.takeWhile_cons_of_pos (p := fun c => c != 10) h', List.dropWhile_cons_of_pos (p := fun c => c != 10) h', skipL, if_neg h2, skip_in l, List.length_cons]; omega
/-- A comment from i on, up to q. -/
theorem skip_comment (s : ByteArray) (i q : Nat) (h : i < s.size) (h35 : s[i].toNat = 35) (hiq : i < q) (hq : q ≤ s.size) (hall : ∀ j (hj : j < s.size), i ≤ j → j < q → ¬ s[j] = 10) (hend : q = s.size ∨ ∃ h : q < s.size, s[q] = 10) : skipAt s i = skipAt s q := by
  have hnb : isB s[i] = false := by unfold isB; simp; omega
  have sp := span_p (fun c => c != 10) s (i + 1) q (by omega) hq (fun j hj a b => by simpa using hall j hj (by omega) b) (by
    rcases hend with h | ⟨h, e⟩
    · exact .inl h
    · exact .inr ⟨h, by simp [e]⟩)
  unfold skipAt
  rw [drop_get s i h, skipL, if_neg (by simp [hnb]), if_pos h35, skip_in, sp.1, sp.2, Lib.extract_data]
  simp; omega
theorem skip_bd (s : ByteArray) : ∀ (n i : Nat), s.size - i ≤ n → i ≤ s.size → i ≤ skipAt s i ∧ skipAt s i ≤ s.size := by
  have key : ∀ (l : List UInt8) (b : Bool), skipL b l ≤ l.length := by
    intro l
    induction l with
    | nil => intro b; cases b <;> simp [skipL]
    | cons c l ih =>
      intro b
      have h1 := ih true
      have h2 := ih false
      cases b <;> simp only [skipL, List.length_cons]
      · split
        · omega
        · split <;> omega
      · split <;> omega
  intro n i _ hi
  unfold skipAt
  have := key (s.data.toList.drop i) false
  simp at this; omega

/-- A token at its place. -/
structure Tok where
  t : Tk
  line : Int
  col : Int
def Tok.v (x : Tok) : Value := tokV x.t x.line x.col
/-- The token that begins at j. -/
def tokAt (s : ByteArray) (j : Nat) : Tok := ⟨(firstTk (s.data.toList.drop j)).1, lineAt s j, colAt s j⟩
def sizeAt (s : ByteArray) (j : Nat) : Nat := (firstTk (s.data.toList.drop j)).2
def Ends (t : Tk) : Prop := t.kind = 0 ∨ t.kind = -1

/-- The tokens from place i on, and the last one: the end or a fault. -/
inductive Stm (s : ByteArray) : Nat → List Tok → Tok → Prop
  | stop (i : Nat) (h : Ends (tokAt s (skipAt s i)).t) : Stm s i [] (tokAt s (skipAt s i))
  | go (i : Nat) (ts : List Tok) (z : Tok) (h : ¬ Ends (tokAt s (skipAt s i)).t) (hr : Stm s (skipAt s i + sizeAt s (skipAt s i)) ts z) : Stm s i (tokAt s (skipAt s i) :: ts) z

theorem mem_take (l : List UInt8) (n j : Nat) (h : j < l.length) (hn : j < n) : l[j] ∈ l.take n := by
  rw [List.mem_iff_getElem]; exact ⟨j, by rw [List.length_take]; omega, List.getElem_take⟩
/-- A token's bytes: where it does not end, at least one; none is a line's end. -/
theorem first_size (l : List UInt8) (h : ¬ Ends (firstTk l).1) : 0 < (firstTk l).2 ∧ (firstTk l).2 ≤ l.length ∧ ∀ j (hj : j < l.length), j < (firstTk l).2 → ¬ l[j] = 10 := by
  cases l with
  | nil => exact absurd (.inl rfl) h
  | cons c r =>
    have hpre : (runL (c :: r)).length ≤ (c :: r).length := (List.takeWhile_prefix isR).length_le
    have hrun : ∀ j (hj : j < (c :: r).length), j < (runL (c :: r)).length → ¬ (c :: r)[j] = 10 := by
      intro j hj hjr e
      have h1 : (runL (c :: r))[j] = (c :: r)[j] := (List.takeWhile_prefix isR (l := c :: r)).getElem (i := j) hjr
      have h2 : isR (runL (c :: r))[j] = true := List.all_eq_true.1 (List.all_takeWhile (p := isR) (l := c :: r)) _ (List.getElem_mem hjr)
      rw [h1, e] at h2
      exact absurd h2 (by decide)
    have hpos : ∀ (hc : isR c = true), 0 < (runL (c :: r)).length := by
      intro hc; unfold runL; rw [List.takeWhile_cons_of_pos hc]; simp
    by_cases hL : isL c = true
    · rw [first_L c r hL]; exact ⟨hpos (isR_of_L hL), hpre, hrun⟩
    · have hLf : isL c = false := by simpa using hL
      by_cases hD : isD c = true
      · rw [first_D c r hLf hD]; exact ⟨hpos (isR_of_D hD), hpre, hrun⟩
      · have hDf : isD c = false := by simpa using hD
        rw [first_S c r hLf hDf] at h ⊢
        have sg10 : ∀ l ∈ sgL, ∀ x ∈ l, ¬ x = 10 := by decide
        unfold signTk at h ⊢
        split at h
        · rename_i hc
          rw [if_pos hc]
          rcases sgK_mem ((c :: r).take 2) with ⟨h1, _⟩ | ⟨_, _, h3⟩
          · exact absurd h1 hc.2
          · refine ⟨by simp, hc.1, fun j hj hj2 e => ?_⟩
            have hj2' : j < 2 := hj2
            exact sg10 _ h3 ((c :: r)[j]) (mem_take _ 2 j hj hj2') e
        · rename_i hc
          rw [if_neg hc]
          split at h
          · rename_i hc1
            rw [if_pos hc1]
            rcases sgK_mem ((c :: r).take 1) with ⟨h1, _⟩ | ⟨_, _, h3⟩
            · exact absurd h1 hc1
            · refine ⟨by simp, by simp, fun j hj hj2 e => ?_⟩
              have hj2' : j < 1 := hj2
              exact sg10 _ h3 ((c :: r)[j]) (mem_take _ 1 j hj hj2') e
          · exact absurd (.inr rfl) h

theorem size_bd (s : ByteArray) (j : Nat) (hj : j ≤ s.size) (h : ¬ Ends (tokAt s j).t) : 0 < sizeAt s j ∧ j + sizeAt s j ≤ s.size ∧ ∀ k (hk : k < s.size), j ≤ k → k < j + sizeAt s j → ¬ (s[k].toNat : Int) = 10 := by
  obtain ⟨h1, h2, h3⟩ := first_size (s.data.toList.drop j) h
  unfold sizeAt
  have hl : (s.data.toList.drop j).length = s.size - j := by simp
  refine ⟨h1, by omega, fun k hk a b e => ?_⟩
  have := h3 (k - j) (by omega) (by omega)
  apply this
  have e2 : (s.data.toList.drop j)[k - j]'(by omega) = s[k] := by
    rw [List.getElem_drop]
    have : j + (k - j) = k := by omega
    simp only [this]; rfl
  rw [e2]; exact UInt8.toNat_inj.1 (by show s[k].toNat = 10; omega)

theorem Stm.ex (s : ByteArray) : ∀ (n i : Nat), s.size - i ≤ n → i ≤ s.size → ∃ ts z, Stm s i ts z ∧ ts.length ≤ s.size - i
  | 0, i, hn, hi => by
    have hsk := skip_end s i (by omega)
    refine ⟨[], _, Stm.stop i ?_, by simp⟩
    rw [hsk]; left
    unfold tokAt
    rw [drop_end s i (by omega)]; rfl
  | n + 1, i, hn, hi => by
    have hb := skip_bd s _ i (Nat.le_refl _) hi
    by_cases h : Ends (tokAt s (skipAt s i)).t
    · exact ⟨[], _, Stm.stop i h, by simp⟩
    · obtain ⟨h1, h2, _⟩ := size_bd s _ hb.2 h
      obtain ⟨ts, z, hs, hl⟩ := Stm.ex s n (skipAt s i + sizeAt s (skipAt s i)) (by omega) h2
      exact ⟨_, z, Stm.go i ts z h hs, by simp; omega⟩

end Go.Proofs.YtjohnhaahpggkabDoor
