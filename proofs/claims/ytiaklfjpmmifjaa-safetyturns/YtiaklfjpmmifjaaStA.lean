import Derived.Test.YtiaklfjpmmifjaaThA
import Derived.Maps.Own
import Derived.Maps.OwnOps
import Derived.Maps.RangeWalk
import Derived.DeepKeys4
import Derived.KernelRfl
namespace Go.Proofs.Ytiaklfjpmmifjaa
open Go.RowKit Go.Maps Go.WideMaps
set_option linter.unusedVariables false

theorem laidOutM : laidOutB Try.prog = true := by kernel_rfl
theorem row55 : (55 : TypeId) < Try.prog.types.size := of_decide_eq_true (by kernel_rfl)
theorem cells55 : Try.prog.cellsOf 55 = 2 := by kernel_rfl
theorem wide55 : (match Try.prog.underlying 55 with | some (.array _ _) | some (.struct _) => true | _ => false) = true := by rw [Try.underlying55]
/-- Pairs of groups as a map's keys. -/
theorem lawP : Keyed Try.prog 55 := Keyed.of_law (deep_law_laid laidOutM (m := 2) (by omega) row55 (by kernel_rfl) wide55)
theorem key55 : Try.prog.keyType 55 = true := by kernel_rfl
theorem formed55 {c0 c1 : Value} : (Value.agg #[c0, c1]).formed Try.prog 55 = true := by simp [Value.formed, Try.underlying55, cells55]
/-- What a pair reads as. -/
def pk (a b : Int) : Lit := .string (keyBytes [.int .i64 a, .int .i64 b])
theorem pk_some (a b : Int) (ha : (Lit.int .i64 a).wf = true) (hb : (Lit.int .i64 b).wf = true) : keyOf Try.prog 55 (.agg #[.int .i64 a, .int .i64 b]) = some (pk a b) := by
  obtain ⟨d, hd⟩ : ∃ d, Try.prog.types.size = d + 1 := ⟨Try.prog.types.size - 1, by have h : (55 : Nat) < Try.prog.types.size := row55; omega⟩
  have e : Try.prog.keyLits (d + 1 + 1) 55 [.int .i64 a, .int .i64 b] = some [.int .i64 a, .int .i64 b] := by
    simp [Program.keyLits, Try.underlying55, Try.underlying3, cells55, c3, ha, hb, List.range, List.range.loop]
  unfold keyOf
  rw [Try.underlying55]
  simp only [key55, formed55, Bool.and_self, if_true]
  rw [hd]
  have e2 : (Value.agg #[Value.int IntKind.i64 a, Value.int IntKind.i64 b]).cells.toList = [.int .i64 a, .int .i64 b] := by simp [Value.cells]
  rw [e2, e]
  rfl
theorem pk_inj {a b a' b' : Int} (ha : (Lit.int .i64 a).wf = true) (hb : (Lit.int .i64 b).wf = true) (ha' : (Lit.int .i64 a').wf = true) (hb' : (Lit.int .i64 b').wf = true) (h : pk a b = pk a' b') : a = a' ∧ b = b' := by
  have h1 := pk_some a b ha hb
  have h2 := pk_some a' b' ha' hb'
  rw [← h] at h2
  have := lawP.inj h1 h2
  simpa using this
end Go.Proofs.Ytiaklfjpmmifjaa
