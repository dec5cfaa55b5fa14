import Derived.Test.YtddphepgcihdbaaGreatTeB
import Derived.ChangeKeysEq
import Derived.Laws.StructEq
namespace Go.Proofs.YtddphepgcihdbaaGreat
open Go.RowKit
set_option linter.unusedVariables false
set_option linter.unusedSimpArgs false

theorem u24 : Tryz.prog.underlying 23 = some (.array 7 3) := by kernel_rfl
theorem eq24 (d : Nat) (W : World) (x0 x1 x2 x3 x4 x5 x6 : Int) : (Op.equalIn (d + 1 + 1) 23 (.agg #[.int .i64 x0, .int .i64 x1, .int .i64 x2, .int .i64 x3, .int .i64 x4, .int .i64 x5, .int .i64 x6]) (.agg #[.int .i64 x0, .int .i64 x1, .int .i64 x2, .int .i64 x3, .int .i64 x4, .int .i64 x5, .int .i64 x6])).run Tryz.prog W = .ok true W := by
  have hi : ∃ i, Tryz.prog.info? 3 = some i := by
    cases h : Tryz.prog.info? 3 with
    | none => exact absurd (show (Tryz.prog.info? 3).isSome = true by kernel_rfl) (by rw [h]; simp)
    | some i => exact ⟨i, rfl⟩
  obtain ⟨i, hi⟩ := hi
  rw [run_equalIn_array W (d + 1) _ _ u24 hi]
  have c3' : Tryz.prog.cellsOf 3 = 1 := by kernel_rfl
  rw [c3']
  simp [List.range, List.range.loop, Op.eqItems, go_sem]
set_option maxRecDepth 100000 in
theorem eq40 (W : World) (x y : Int) : (Op.equalIn 10000 50 (.agg #[.int .i64 x, .int .i64 y]) (.agg #[.int .i64 x, .int .i64 y])).run Tryz.prog W = .ok true W := by
  simp [go_sem]
set_option maxRecDepth 100000 in
theorem eq63 (W : World) (a b x0 x1 x2 x3 x4 x5 x6 : Int) : (Op.equalIn 10000 52 (.agg #[.int .i64 a, .int .i64 b, .int .i64 x0, .int .i64 x1, .int .i64 x2, .int .i64 x3, .int .i64 x4, .int .i64 x5, .int .i64 x6]) (.agg #[.int .i64 a, .int .i64 b, .int .i64 x0, .int .i64 x1, .int .i64 x2, .int .i64 x3, .int .i64 x4, .int .i64 x5, .int .i64 x6])).run Tryz.prog W = .ok true W := by
  have e := eq24 9997 W x0 x1 x2 x3 x4 x5 x6
  simp [go_sem, e]
end Go.Proofs.YtddphepgcihdbaaGreat
