import Derived.Test.YtnicolaphmffkaaDoorTyH
import Derived.Test.YtnicolaphmffkaaDoorTyE
import Derived.Maps.Own
import Derived.Maps.OwnOps
import Derived.Maps.Views
import Derived.StringKeys
namespace Go.Proofs.YtnicolaphmffkaaDoor
open Go.RowKit
open Go.Maps (Keyed)
set_option linter.unusedVariables false
set_option linter.unusedSimpArgs false

/-- A symbol as one value. -/
def Sy.ag (s : Sy) : Value := .agg #[.string s.name, .int .i64 s.kind, .int .i64 s.ix, .int .i64 s.line, .int .i64 s.col]
def zSy : Value := .agg #[.string ⟨#[]⟩, .int .i64 0, .int .i64 0, .int .i64 0, .int .i64 0]
/-- The first symbol of a name. -/
def fsS : List Sy → ByteArray → Option Sy
  | [], _ => none
  | s :: S, nm => if s.name = nm then some s else fsS S nm
theorem fs_fk (S : List Sy) (nm : ByteArray) : fkS S nm = (fsS S nm).map (·.kind) := by
  induction S with
  | nil => rfl
  | cons s S ih =>
    unfold fkS fsS
    by_cases h : s.name = nm
    · rw [if_pos h, if_pos h]; rfl
    · rw [if_neg h, if_neg h]; exact ih
theorem fs_app (S : List Sy) (s : Sy) (nm : ByteArray) : fsS (S ++ [s]) nm = match fsS S nm with | some x => some x | none => if s.name = nm then some s else none := by
  induction S with
  | nil => simp only [List.nil_append]; unfold fsS; rfl
  | cons a S ih =>
    rw [List.cons_append]
    conv => lhs; unfold fsS
    conv => rhs; unfold fsS
    by_cases h : a.name = nm
    · rw [if_pos h, if_pos h]
    · rw [if_neg h, if_neg h]; exact ih
/-- Every value reads as itself. -/
def rH (v : Value) : Option (DataW Value × List MemPlace) := some (.held v, [])
/-- A map of the symbols so far, the first ones of their names. -/
def MpS (w : World) (b n : Nat) (S : List Sy) : Prop := ∃ D, w.ownsMap (H := Value) Tryd.prog 9 rH b n D ∧ Maps.IsMap D ∧ ∀ nm : ByteArray, nm.size ≤ maxLen → ∀ z, D.atKey (.string nm.data.toList) z = (match fsS S nm with | some s => .held s.ag | none => z)
theorem MpS.lt {w : World} {b n : Nat} {S : List Sy} (h : MpS w b n S) : b < w.heap.size := by
  obtain ⟨D, h1, _⟩ := h
  exact h1.lt
theorem MpS.below {w w' : World} {B b n : Nat} {S : List Sy} (h : MpS w b n S) (hb : Below B w w') (hl : b < B) : MpS w' b n S := by
  obtain ⟨D, ⟨es, cl, h1, h2⟩, h3⟩ := h
  exact ⟨D, ⟨es, cl, (hb.block b hl).trans h1, h2⟩, h3⟩
theorem MpS.made (w : World) : MpS (w.alloc (.map #[] 0)) w.heap.size 0 [] :=
  ⟨.map [], World.ownsMap_made w _ _ _, ⟨[], rfl⟩, fun nm _ z => rfl⟩
theorem keyS : Keyed Tryd.prog 9 := Maps.string_keyed Tryd.underlying9
theorem zero58 (w : World) : (zeroValue 80).run Tryd.prog w = .ok zSy w := by
  simp [zeroValue, zSy]; rfl
theorem MpS.look {w : World} {b n : Nat} {S : List Sy} (h : MpS w b n S) (nm : ByteArray) (hs : nm.size ≤ maxLen) :
    (Instr.lookup 71 (.map (some b)) (.string nm) true).run Tryd.prog w = .ok (match fsS S nm with | some s => .tuple #[s.ag, .bool true] | none => .tuple #[zSy, .bool false]) w := by
  obtain ⟨D, ⟨es, cl, h1, hF, h2, rfl⟩, -, h3⟩ := h
  have hk := Go.WideMaps.keyOf_string_mk (P := Tryd.prog) (k := 9) Tryd.underlying9 hs
  have h4 := h3 nm hs
  rcases Maps.fit_look true keyS Tryd.underlying71 (zero58 w) h1 hF hk with ⟨hrun, _, hat⟩ | ⟨e0, y, _, _, hrun, hRv, hat, _⟩
  · rw [hrun]
    cases hf : fsS S nm with
    | none => rfl
    | some s =>
      rw [hf] at h4
      have e1 := (hat (.lit (.bool true))).symm.trans (h4 (.lit (.bool true)))
      cases e1
  · rw [hrun]
    have e2 : y = (.held e0.val, []) := (Option.some.inj hRv).symm
    subst e2
    cases hf : fsS S nm with
    | none =>
      rw [hf] at h4
      have e1 := (hat (.lit (.bool true))).symm.trans (h4 (.lit (.bool true)))
      cases e1
    | some s =>
      rw [hf] at h4
      have e1 := (hat (.lit (.bool true))).symm.trans (h4 (.lit (.bool true)))
      rw [show e0.val = s.ag from DataW.held.inj e1]
      simp only [if_true]
theorem put_new {D : DataW Value} {S : List Sy} (hM : Maps.IsMap D) (h3 : ∀ nm : ByteArray, nm.size ≤ maxLen → ∀ z, D.atKey (.string nm.data.toList) z = (match fsS S nm with | some s => .held s.ag | none => z)) (s : Sy) (hs : s.name.size ≤ maxLen) (hf : fsS S s.name = none) :
    ∀ nm : ByteArray, nm.size ≤ maxLen → ∀ z, (D.put (.string s.name.data.toList) (.held s.ag)).atKey (.string nm.data.toList) z = (match fsS (S ++ [s]) nm with | some s => .held s.ag | none => z) := by
  intro nm hn z
  rw [fs_app]
  by_cases e : s.name = nm
  · subst e
    rw [hf, Maps.atKey_put_same hM (by trivial)]
    simp
  · rw [Maps.atKey_put_other (by intro q; injection q with q; exact e (by cases hx : s.name; cases hy : nm; rw [hx, hy] at q; simp only [ByteArray.mk.injEq]; exact (Array.toList_inj.1 q).symm)), h3 nm hn z]
    cases hg : fsS S nm with
    | none => simp [e]
    | some x => rfl
end Go.Proofs.YtnicolaphmffkaaDoor
