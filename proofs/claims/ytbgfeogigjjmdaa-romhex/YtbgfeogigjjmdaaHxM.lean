import Derived.Test.YtbgfeogigjjmdaaChecked
namespace Go.Proofs.Ytbgfeogigjjmdaa
set_option linter.unusedVariables false

/-- A hex digit's worth; 255: it is none. -/
def dg (c : Nat) : Nat := if 48 ≤ c ∧ c ≤ 57 then c - 48 else if 65 ≤ c ∧ c ≤ 70 then c - 55 else if 97 ≤ c ∧ c ≤ 102 then c - 87 else 255
theorem dg_or (c : Nat) : dg c ≤ 15 ∨ dg c = 255 := by unfold dg; split <;> (try split) <;> (try split) <;> omega
theorem dg_lt (c : Nat) : dg c < 256 := by have := dg_or c; omega
/-- The first place from i on that holds no digit. -/
def badL (i : Nat) : List Nat → Option Nat
  | [] => none
  | c :: r => if 15 < dg c then some i else badL (i + 1) r
/-- The bytes of a list of digits. -/
def prs : List Nat → List Nat
  | a :: b :: r => (16 * dg a + dg b) :: prs r
  | _ => []
abbrev Flt := Nat × Nat
/-- A line's bytes, or its fault and the column. -/
def parF (l : List Nat) : Except Flt (List Nat) :=
  if l.head? ≠ some 58 then .error (107, 1)
  else match badL 1 (l.drop 1) with
    | some i => .error (107, i + 1)
    | none => if l.length < 11 then .error (107, l.length + 1)
      else if l.length ≠ 11 + 2 * (16 * dg (l.getD 1 0) + dg (l.getD 2 0)) then .error (107, l.length + 1)
      else if (prs (l.drop 1)).sum % 256 ≠ 0 then .error (105, l.length - 1)
      else .ok (prs (l.drop 1))
/-- What has been read: the bytes, whether a bank record came since, whether the end did. -/
structure Rd where
  D : List Nat
  bk : Bool
  en : Bool
def datF (st : Rd) (address : Nat) (d : List Nat) : Except Flt Rd :=
  if address ≠ st.D.length % 65536 then .error (106, 4)
  else if 65536 < st.D.length % 65536 + d.length then .error (106, 4)
  else if d.length = 0 then .ok st
  else if ¬ (0 < st.D.length % 65536) ∧ ¬ st.D.length = 0 ∧ st.bk = false then .error (106, 4)
  else if 1048576 < st.D.length + d.length then .error (100, 1)
  else .ok ⟨st.D ++ d, false, st.en⟩
/-- What a record does. -/
def recF (st : Rd) (kind address : Nat) (d : List Nat) : Except Flt Rd :=
  if kind = 0 then datF st address d
  else if kind = 1 then (if d.length ≠ 0 then .error (106, 2) else if address ≠ 0 then .error (106, 4) else .ok ⟨st.D, st.bk, true⟩)
  else if kind = 4 then (if d.length ≠ 2 then .error (106, 2) else if address ≠ 0 then .error (106, 4)
    else if (256 * d.getD 0 0 + d.getD 1 0) * 65536 ≠ st.D.length then .error (106, 10) else .ok ⟨st.D, true, st.en⟩)
  else .error (106, 8)
/-- The parts of a record. -/
def kindF (all : List Nat) : Nat := all.getD 3 0
def addrF (all : List Nat) : Nat := 256 * all.getD 1 0 + all.getD 2 0
def dataF (all : List Nat) : List Nat := (all.drop 4).take (all.getD 0 0)
/-- A line. -/
def linF (st : Rd) (l : List Nat) : Except Flt Rd :=
  if st.en = true then .error (104, 1)
  else match parF l with
    | .error e => .error e
    | .ok all => recF st (kindF all) (addrF all) (dataF all)
/-- A text's lines, and whether each is ended. -/
def rawL : List Nat → List (List Nat × Bool)
  | [] => []
  | c :: r => if c = 10 then ([], true) :: rawL r else match rawL r with
    | [] => [([c], false)]
    | (l, b) :: q => (c :: l, b) :: q
/-- A line without its end. -/
def strip (x : List Nat × Bool) : List Nat := if x.2 = true ∧ x.1.getLast? = some 13 then x.1.dropLast else x.1
/-- The lines one behind the other, the next one's number ahead. -/
def runL : Rd → Nat → List (List Nat × Bool) → Except (Nat × Nat × Nat) Rd
  | st, _, [] => .ok st
  | st, n, x :: r => match linF st (strip x) with
    | .error (c, col) => .error (c, n, col)
    | .ok st' => runL st' (n + 1) r
theorem rawL_cut : ∀ (p q : List Nat), 10 ∉ p → rawL (p ++ 10 :: q) = (p, true) :: rawL q
  | [], q, _ => by simp [rawL]
  | c :: p, q, h => by
    have hc : c ≠ 10 := fun e => h (by simp [e])
    have hp : 10 ∉ p := fun e => h (by simp [e])
    show rawL (c :: (p ++ 10 :: q)) = _
    rw [rawL, if_neg hc, rawL_cut p q hp]
theorem rawL_last : ∀ (p : List Nat), 10 ∉ p → p ≠ [] → rawL p = [(p, false)]
  | [], _, h => absurd rfl h
  | [c], h, _ => by
    have hc : c ≠ 10 := fun e => h (by simp [e])
    simp [rawL, hc]
  | c :: d :: p, h, _ => by
    have hc : c ≠ 10 := fun e => h (by simp [e])
    rw [rawL, if_neg hc, rawL_last (d :: p) (fun e => h (by simp only [List.mem_cons] at e ⊢; exact .inr e)) (by simp)]
theorem prs_len : ∀ (l : List Nat), (prs l).length = l.length / 2
  | [] => rfl
  | [_] => by simp [prs]
  | a :: b :: r => by simp only [prs, List.length_cons, prs_len r]; omega
theorem badL_none : ∀ (l : List Nat) (i : Nat), badL i l = none ↔ ∀ c ∈ l, dg c ≤ 15
  | [], i => by simp [badL]
  | c :: r, i => by
    unfold badL
    by_cases h : 15 < dg c
    · rw [if_pos h]; simp; intro h'; omega
    · rw [if_neg h, badL_none r (i + 1)]
      simp only [List.mem_cons, forall_eq_or_imp]
      exact ⟨fun h1 => ⟨by omega, h1⟩, fun h1 => h1.2⟩
theorem prs_lt : ∀ (l : List Nat), (∀ c ∈ l, dg c ≤ 15) → ∀ x ∈ prs l, x < 256
  | [], _, x, hx => by simp [prs] at hx
  | [_], _, x, hx => by simp [prs] at hx
  | a :: b :: r, h, x, hx => by
    simp only [prs, List.mem_cons] at hx
    rcases hx with rfl | hx
    · have h1 := h a (by simp); have h2 := h b (by simp); omega
    · exact prs_lt r (fun c hc => h c (by simp [hc])) x hx
/-- A string's bytes. -/
def nl (s : ByteArray) : List Nat := s.data.toList.map (·.toNat)
theorem nl_len (s : ByteArray) : (nl s).length = s.size := by simp [nl]
theorem nl_get (s : ByteArray) (i : Nat) (h : i < s.size) : (nl s).getD i 0 = s[i].toNat := by
  have h' : i < (nl s).length := by rw [nl_len]; exact h
  rw [List.getD_eq_getElem?_getD, List.getElem?_eq_getElem h']
  simp [nl]; rfl
theorem nl_lt (s : ByteArray) : ∀ x ∈ nl s, x < 256 := by
  intro x hx
  unfold nl at hx
  rw [List.mem_map] at hx
  obtain ⟨c, _, rfl⟩ := hx
  exact UInt8.toNat_lt c
end Go.Proofs.Ytbgfeogigjjmdaa
