import Derived.Test.YthjdflcakngpiaaDoorPlnA
import Derived.ChangeKeysEq
namespace Go.Proofs.YthjdflcakngpiaaDoor
open Go.RowKit
set_option linter.unusedVariables false

theorem u63 : Tryd.prog.underlying 46 = some (.array 3 21) := by kernel_rfl
theorem eq63 (w : World) (a b c a' b' c' : Int) : (Op.equalIn 10000 46 (.agg #[.int .i32 a, .int .i32 b, .int .i32 c]) (.agg #[.int .i32 a', .int .i32 b', .int .i32 c'])).run Tryd.prog w = .ok ((a == a') && ((b == b') && (c == c'))) w := by
  have hi : ∃ i, Tryd.prog.info? 21 = some i := by
    cases h : Tryd.prog.info? 21 with
    | none => exact absurd (show (Tryd.prog.info? 21).isSome = true by kernel_rfl) (by rw [h]; simp)
    | some i => exact ⟨i, rfl⟩
  obtain ⟨i, hi⟩ := hi
  rw [show (10000 : Nat) = 9999 + 1 from rfl, run_equalIn_array w 9999 _ _ u63 hi]
  have c21' : Tryd.prog.cellsOf 21 = 1 := by kernel_rfl
  rw [c21']
  simp [List.range, List.range.loop, Op.eqItems, go_sem]
  by_cases h1 : a = a' <;> by_cases h2 : b = b' <;> by_cases h3 : c = c' <;> simp [h1, h2, h3]
end Go.Proofs.YthjdflcakngpiaaDoor
