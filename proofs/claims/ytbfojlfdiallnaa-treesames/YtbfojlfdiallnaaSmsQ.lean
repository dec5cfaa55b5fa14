import Derived.Test.YtbfojlfdiallnaaRmC
import Derived.Test.YtbfojlfdiallnaaSmsP
namespace Go.Proofs.Ytbfojlfdiallnaa
theorem treeSames_holds : Rows.TreeSamesSaid := treeSames_if roomy_plan
end Go.Proofs.Ytbfojlfdiallnaa
