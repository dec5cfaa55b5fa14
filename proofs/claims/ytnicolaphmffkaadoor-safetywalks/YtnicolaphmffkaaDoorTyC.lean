import Derived.Test.YtnicolaphmffkaaDoorTyA
import Derived.Test.YtnicolaphmffkaaDoorTyB
namespace Go.Proofs.YtnicolaphmffkaaDoor
open Go.RowKit
set_option linter.unusedVariables false

theorem bel1 {w : World} (o : Obj) : Below w.heap.size w (w.alloc o) := (Below.refl _ _).alloc (Nat.le_refl _) o
end Go.Proofs.YtnicolaphmffkaaDoor
