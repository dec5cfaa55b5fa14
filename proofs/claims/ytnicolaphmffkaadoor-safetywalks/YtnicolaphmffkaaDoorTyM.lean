import Derived.Test.YtnicolaphmffkaaDoorFmM
namespace Go.Proofs.YtnicolaphmffkaaDoor
open Go.RowKit
set_option linter.unusedVariables false

/-- A symbol. -/
structure Sy where
  name : ByteArray
  kind : Int
  ix : Int
  line : Int
  col : Int
/-- The kind of the first of that name. -/
def fkS : List Sy → ByteArray → Option Int
  | [], _ => none
  | s :: S, nm => if s.name = nm then some s.kind else fkS S nm
theorem fk_end (S : List Sy) (nm : ByteArray) (k : Nat) (h : S.length ≤ k) : fkS (S.drop k) nm = none := by
  rw [List.drop_eq_nil_of_le h]; rfl
theorem fk_hit (S : List Sy) (nm : ByteArray) (k : Nat) (h : k < S.length) (e : S[k].name = nm) : fkS (S.drop k) nm = some S[k].kind := by
  rw [List.drop_eq_getElem_cons h]; unfold fkS; rw [if_pos e]
theorem fk_on (S : List Sy) (nm : ByteArray) (k : Nat) (h : k < S.length) (e : ¬ S[k].name = nm) : fkS (S.drop k) nm = fkS (S.drop (k + 1)) nm := by
  rw [List.drop_eq_getElem_cons h]
  conv => lhs; unfold fkS
  rw [if_neg e]
theorem tl_inj {a b : ByteArray} (h : a.toList = b.toList) : a = b := by
  rw [Lib.toList_data, Lib.toList_data] at h
  cases a; cases b
  simp only [ByteArray.mk.injEq]
  exact Array.toList_inj.1 h
/-- The type of a name of that kind. -/
def wrF (k : Int) : Int := if k = 1 ∨ k = 5 ∨ k = 6 ∨ k = 7 then 1 else if k = 4 ∨ k = 8 then 2 else 0
/-- A leaf: its type and its error. -/
def lfF (S : List Sy) (x : Nd) : Int × Int :=
  if x.op = 1 ∨ x.op = 4 then (1, 0)
  else if x.op = 2 then (2, 0)
  else match fkS S x.name with
    | none => (0, 51)
    | some k => if x.op = 3 then (if wrF k = 0 then (0, 52) else (wrF k, 0)) else if k = 2 then (2, 0) else (0, 52)
def resF (op a b : Int) : Int :=
  if op = 20 ∨ op = 22 then (if a = 1 then 1 else 0)
  else if op = 21 then (if a = 2 then 2 else 0)
  else if 30 ≤ op ∧ op ≤ 36 then (if a = 1 ∧ b = 1 then 1 else 0)
  else if op = 40 ∨ op = 41 then (if a = b then 2 else 0)
  else if 42 ≤ op ∧ op ≤ 45 then (if a = 1 ∧ b = 1 then 2 else 0)
  else if op = 50 ∨ op = 51 then (if a = 2 ∧ b = 2 then 2 else 0)
  else 0
/-- A type, an error and its place. -/
structure Ty where
  typ : Int
  code : Int
  line : Int
  col : Int
/-- The types that wait, the last one on top. -/
def tyF (S : List Sy) : List Int → List Nd → Ty
  | st, [] => ⟨st.getD 0 0, 0, 0, 0⟩
  | st, x :: L =>
    if x.op < 20 then (if (lfF S x).2 ≠ 0 then ⟨0, (lfF S x).2, x.line, x.col⟩ else tyF S (st ++ [(lfF S x).1]) L)
    else if x.op < 30 then (if resF x.op (st.getD (st.length - 1) 0) 0 = 0 then ⟨0, 53, x.line, x.col⟩ else tyF S (st.take (st.length - 1) ++ [resF x.op (st.getD (st.length - 1) 0) 0]) L)
    else (if resF x.op (st.getD (st.length - 2) 0) (st.getD (st.length - 1) 0) = 0 then ⟨0, 53, x.line, x.col⟩ else tyF S (st.take (st.length - 2) ++ [resF x.op (st.getD (st.length - 2) 0) (st.getD (st.length - 1) 0)]) L)
theorem ty_end (S : List Sy) (st : List Int) (L : List Nd) (k : Nat) (h : L.length ≤ k) : tyF S st (L.drop k) = ⟨st.getD 0 0, 0, 0, 0⟩ := by
  rw [List.drop_eq_nil_of_le h]; unfold tyF; rfl
theorem ty_leaf (S : List Sy) (st : List Int) (L : List Nd) (k : Nat) (h : k < L.length) (ho : L[k].op < 20) : tyF S st (L.drop k) = if (lfF S L[k]).2 ≠ 0 then ⟨0, (lfF S L[k]).2, L[k].line, L[k].col⟩ else tyF S (st ++ [(lfF S L[k]).1]) (L.drop (k + 1)) := by
  rw [List.drop_eq_getElem_cons h]
  conv => lhs; unfold tyF
  rw [if_pos ho]
theorem ty_one (S : List Sy) (st : List Int) (L : List Nd) (k : Nat) (h : k < L.length) (h1 : 20 ≤ L[k].op) (h2 : L[k].op < 30) : tyF S st (L.drop k) = if resF L[k].op (st.getD (st.length - 1) 0) 0 = 0 then ⟨0, 53, L[k].line, L[k].col⟩ else tyF S (st.take (st.length - 1) ++ [resF L[k].op (st.getD (st.length - 1) 0) 0]) (L.drop (k + 1)) := by
  rw [List.drop_eq_getElem_cons h]
  conv => lhs; unfold tyF
  rw [if_neg (by omega), if_pos h2]
theorem ty_two (S : List Sy) (st : List Int) (L : List Nd) (k : Nat) (h : k < L.length) (h1 : 30 ≤ L[k].op) : tyF S st (L.drop k) = if resF L[k].op (st.getD (st.length - 2) 0) (st.getD (st.length - 1) 0) = 0 then ⟨0, 53, L[k].line, L[k].col⟩ else tyF S (st.take (st.length - 2) ++ [resF L[k].op (st.getD (st.length - 2) 0) (st.getD (st.length - 1) 0)]) (L.drop (k + 1)) := by
  rw [List.drop_eq_getElem_cons h]
  conv => lhs; unfold tyF
  rw [if_neg (by omega), if_neg (by omega)]
/-- What the reference keeps of each symbol, as it is read: name and kind, and that it may be seen. -/
def Ens (w : World) (v : Value) (S : List Sy) : Prop :=
  ∃ a cap, v = .slice a S.length cap ∧ (S = [] ∨ ∃ g o, a = some ⟨g, o, none⟩ ∧ g < w.heap.size ∧ ∀ (i : Nat) (h : i < S.length),
    w.cell? ⟨g, o + i * 8, none⟩ = some (.string S[i].name) ∧ w.cell? ⟨g, o + i * 8 + 1, none⟩ = some (.int .i64 S[i].kind) ∧ w.cell? ⟨g, o + i * 8 + 5, none⟩ = some (.int .i64 (-1)))
theorem Ens.below {w w' : World} {v : Value} {S : List Sy} (h : Ens w v S) (hb : Below w.heap.size w w') : Ens w' v S := by
  obtain ⟨a, cap, rfl, h | ⟨g, o, rfl, hg, hc⟩⟩ := h
  · exact ⟨a, cap, rfl, .inl h⟩
  · refine ⟨_, cap, rfl, .inr ⟨g, o, rfl, Nat.lt_of_lt_of_le hg hb.size, fun i hi => ?_⟩⟩
    obtain ⟨h0, h1, h2⟩ := hc i hi
    exact ⟨(hb.cell (p := ⟨g, _, none⟩) hg).trans h0, (hb.cell (p := ⟨g, _, none⟩) hg).trans h1, (hb.cell (p := ⟨g, _, none⟩) hg).trans h2⟩
end Go.Proofs.YtnicolaphmffkaaDoor
