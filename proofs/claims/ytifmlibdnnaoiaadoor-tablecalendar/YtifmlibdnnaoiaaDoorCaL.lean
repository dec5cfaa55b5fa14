import Derived.Test.YtifmlibdnnaoiaaDoorCaE
import Derived.Test.YtifmlibdnnaoiaaDoorRows
import Derived.ProofKit
import Derived.LaidMore
import Derived.OpenShut
import Derived.Stop.Joined
import Derived.Lib.LaidTab
namespace Go.Proofs.YtifmlibdnnaoiaaDoor
open Go.ChangeShapes Go.WideShapes Go.ChangeAt Go.RowKit

theorem own : ownKnob Tryd.prog.godebug = none := by kernel_rfl
theorem laidOut : laidOutB Tryd.prog = true := by kernel_rfl
theorem gB : Tryd.prog.globalNamed "junction/timetable.monthDays" = some 0 := by kernel_rfl
theorem tB : (Tryd.prog.globals[0]?).map (·.type) = some 33 := by kernel_rfl
theorem uB : Tryd.prog.underlying 33 = some (.array 12 3) := by kernel_rfl
theorem u3 : Tryd.prog.underlying 3 = some (.int .i64) := by kernel_rfl
theorem c3 : Tryd.prog.cellsOf 3 = 1 := by kernel_rfl
theorem c33 : Tryd.prog.cellsOf 33 = 12 := by kernel_rfl

/-- What the rows list. -/
def laidB : List (String × DataW Unit) := [("junction/timetable.monthDays", Rows.laid_junction_timetable_monthDays)]

theorem door_met (os : Os) (args : Array Value) : laidMetH Tryd.prog laidB ((World.doorLaid Tryd.prog 400 os).forCall (fun _ _ => 0) ⟨#[], args, []⟩).memory :=
  laidMetH_of_parts3 (fuel := 8) (laidMet_of_run' 8 (by kernel_rfl) (by kernel_rfl)) (by kernel_rfl) (by kernel_rfl)

theorem of_laid {W : World} (h : laidMetH Tryd.prog laidB W) : Mt W := by
  rw [MakeChecks.laidMetH_plain _ _ _ (by kernel_rfl)] at h
  have hT : Lib.TabIs Tryd.prog W "junction/timetable.monthDays" .i64 mdl := Lib.tabIs_of_head gB tB uB u3 c3 c33 (rest := []) h
  intro i hi
  exact hT.cell gB i (by simpa [mdl] using hi)
end Go.Proofs.YtifmlibdnnaoiaaDoor
