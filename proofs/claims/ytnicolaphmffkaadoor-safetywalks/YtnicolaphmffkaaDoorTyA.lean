import Derived.Test.YtnicolaphmffkaaDoorTyM
import Derived.Test.YtnicolaphmffkaaDoorNesA
namespace Go.Proofs.YtnicolaphmffkaaDoor
open Go.RowKit
set_option linter.unusedVariables false

set_option maxRecDepth 100000 in
set_option maxHeartbeats 4000000 in
theorem operands_any (op : Int) (w : World) :
    Calls Tryd.prog 59 #[.int .i64 op] w fun e w' => e = .returned (.int .i64 (if 30 ≤ op then 2 else if 20 ≤ op then 1 else 0)) ∧ w' = w := by
  by_cases h1 : 30 ≤ op
  · rw [if_pos h1]
    go_enter Tryd.func59, Tryd.ntmps59
    go_wp2_with fail
    go_ret
    exact ⟨rfl, rfl⟩
  · rw [if_neg h1]
    by_cases h2 : 20 ≤ op
    · rw [if_pos h2]
      go_enter Tryd.func59, Tryd.ntmps59
      go_wp2_with fail
      go_ret
      exact ⟨rfl, rfl⟩
    · rw [if_neg h2]
      go_enter Tryd.func59, Tryd.ntmps59
      go_wp2_with fail
      go_ret
      exact ⟨rfl, rfl⟩
end Go.Proofs.YtnicolaphmffkaaDoor
