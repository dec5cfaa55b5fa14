import Derived.Test.YtnicolaphmffkaaDoorTyG
namespace Go.Proofs.YtnicolaphmffkaaDoor
open Go.RowKit
set_option linter.unusedVariables false
set_option linter.unusedSimpArgs false

end Go.Proofs.YtnicolaphmffkaaDoor
