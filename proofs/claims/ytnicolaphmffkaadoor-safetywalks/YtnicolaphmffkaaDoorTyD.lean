import Derived.Test.YtnicolaphmffkaaDoorTyC
import Derived.Test.YtnicolaphmffkaaDoorTyN
import Derived.Test.YtnicolaphmffkaaDoorApA
import Derived.Test.YtnicolaphmffkaaDoorNesC
namespace Go.Proofs.YtnicolaphmffkaaDoor
open Go.RowKit
set_option linter.unusedVariables false
set_option linter.unusedSimpArgs false


def vI (st : List Int) : List Value := st.map (Value.int .i64)
theorem vI_get {st : List Int} {j : Nat} (h : j < st.length) : (vI st)[j]? = some (.int .i64 st[j]) := by simp [vI, h]
theorem info3 : (Tryd.prog.info? 3).map (fun i => (i.zero, i.size, i.bytes)) = some (some (.int .i64 0), 1, 8) := by kernel_rfl
theorem Has.set3 {w : World} {b : Nat} {x0 x1 x2 : Value} (h : Has w b #[x0, x1, x2]) (y0 y1 y2 : Value) :
    Has (((w.setCell ⟨b, 0, none⟩ y0).setCell ⟨b, 1, none⟩ y1).setCell ⟨b, 2, none⟩ y2) b #[y0, y1, y2] :=
  ((h.set 0 (by simp) y0).set 1 (by simp) y1).set 2 (by simp) y2
theorem bel3 {B b : Nat} {a w : World} (h : Below B a w) (hb : B ≤ b) (y0 y1 y2 : Value) :
    Below B a (((w.setCell ⟨b, 0, none⟩ y0).setCell ⟨b, 1, none⟩ y1).setCell ⟨b, 2, none⟩ y2) :=
  ((h.setCell hb _).setCell hb _).setCell hb _
theorem set_last {st : List Int} {m : Nat} (h : st.length = m + 1) (t : Int) : st.set m t = st.take m ++ [t] := by
  apply List.ext_getElem
  · simp; omega
  · intro i h1 h2
    by_cases e : i = m
    · subst e
      rw [List.getElem_append_right (by rw [List.length_take]; omega)]
      simp
    · have : i < m := by simp at h1; omega
      rw [List.getElem_set_ne (by omega), List.getElem_append_left (by simp; omega)]; simp
theorem set_two {st : List Int} {m : Nat} (h : st.length = m + 2) (t : Int) : (st.set m t).take (m + 1) = st.take m ++ [t] := by
  apply List.ext_getElem
  · simp; omega
  · intro i h1 h2
    by_cases e : i = m
    · subst e
      rw [List.getElem_append_right (by rw [List.length_take]; omega)]
      simp
    · have : i < m := by simp at h1; omega
      rw [List.getElem_take, List.getElem_set_ne (by omega), List.getElem_append_left (by simp; omega)]; simp
/-- A type and a fault, as they are answered. -/
def tyV (t : Ty) : Value := .tuple #[.int .i64 t.typ, .agg #[.int .i64 t.code, .int .i64 t.line, .int .i64 t.col]]
end Go.Proofs.YtnicolaphmffkaaDoor
