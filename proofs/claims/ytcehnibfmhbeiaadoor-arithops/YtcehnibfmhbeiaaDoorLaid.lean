import Derived.Test.YtcehnibfmhbeiaaDoorBins
import Derived.ProofKit
import Derived.LaidMore
import Derived.OpenShut
import Derived.Stop.Joined
import Derived.Lib.LaidTab
namespace Go.Proofs.YtcehnibfmhbeiaaDoor
open Go.ChangeShapes Go.WideShapes Go.ChangeAt Go.RowKit

theorem own : ownKnob Tryd.prog.godebug = none := by kernel_rfl
theorem gAr : Tryd.prog.globalNamed "junction/arith.arities" = some 0 := by kernel_rfl
theorem tAr : (Tryd.prog.globals[0]?).map (·.type) = some 51 := by kernel_rfl
theorem uAr : Tryd.prog.underlying 51 = some (.array 52 3) := by kernel_rfl
theorem u3 : Tryd.prog.underlying 3 = some (.int .i64) := by kernel_rfl
theorem c3 : Tryd.prog.cellsOf 3 = 1 := by kernel_rfl
theorem c51 : Tryd.prog.cellsOf 51 = 52 := by kernel_rfl

/-- What the rows list. -/
def laidA : List (String × DataW Unit) := [("junction/arith.arities", Rows.laid_junction_arith_arities)]

theorem door_met (os : Os) (args : Array Value) : laidMetH Tryd.prog laidA ((World.doorLaid Tryd.prog 400 os).forCall (fun _ _ => 0) ⟨#[], args, []⟩).memory :=
  laidMetH_of_parts3 (fuel := 8) (laidMet_of_run' 8 (by kernel_rfl) (by kernel_rfl)) (by kernel_rfl) (by kernel_rfl)

theorem of_laid {W : World} (h : laidMetH Tryd.prog laidA W) : ArOk W := by
  rw [MakeChecks.laidMetH_plain _ _ _ (by kernel_rfl)] at h
  have hT : Lib.TabIs Tryd.prog W "junction/arith.arities" .i64 artab := Lib.tabIs_of_head gAr tAr uAr u3 c3 c51 (rest := []) h
  intro i hi
  exact hT.cell gAr i (by simpa [artab] using hi)
end Go.Proofs.YtcehnibfmhbeiaaDoor
