/-
  DERIVED. GIVEN WITH THE SEED: THE PROGRAM's TIES (one call each: nine closed facts by the kernel) AND EACH ROW's TIE, after the 31st guide's Derived/Test/Toyas{Tie, Card}.lean. No idea stands in it: it is a product of the set-up. Laid BY PROGRAM, IN A SANDBOX (cutbox-door.mjs). By AI agents, Wed Nov 11 2026. No macro, syntax, notation, axiom, sorry.
-/
import Derived.Test.YtoanbdbcfdjdeaaDoorRows
import Derived.LaidByTextLater
import Derived.SevenTiedAt
import Derived.LaidSub
import Derived.LaidOnce
namespace Go.Proofs.YtoanbdbcfdjdeaaDoor
open Go
set_option maxRecDepth 100000
theorem seatTie1 : Tryd.prog.laidByTextLater [("junction/bank.errDisk", Rows.laid_junction_bank_errDisk), ("junction/bank.errSlot", Rows.laid_junction_bank_errSlot), ("junction/bank.errEmpty", Rows.laid_junction_bank_errEmpty), ("junction/bank.errSpace", Rows.laid_junction_bank_errSpace), ("junction/bank.errData", Rows.laid_junction_bank_errData), ("junction/bank.errInUse", Rows.laid_junction_bank_errInUse), ("junction/bank.errAct", Rows.laid_junction_bank_errAct), ("junction/bank.errWorn", Rows.laid_junction_bank_errWorn)] [.sentinel, .sentinel, .sentinel, .sentinel, .sentinel, .sentinel, .sentinel, .sentinel] true :=
  Program.laidByTextLater_by_one 161 8 2 (by kernel_rfl) (by kernel_rfl) (by kernel_rfl) (by kernel_rfl) (by kernel_rfl) (by kernel_rfl) (fun _ _ => by kernel_rfl)
theorem noOwnUnsafe : Tryd.pinned.checked.prog.headLifts.contains "ownunsafe" = false := by kernel_rfl
theorem tie : Tryd.prog.laidByTextLater [("junction/bank.errDisk", Rows.laid_junction_bank_errDisk), ("junction/bank.errSlot", Rows.laid_junction_bank_errSlot), ("junction/bank.errEmpty", Rows.laid_junction_bank_errEmpty), ("junction/bank.errSpace", Rows.laid_junction_bank_errSpace), ("junction/bank.errData", Rows.laid_junction_bank_errData), ("junction/bank.errInUse", Rows.laid_junction_bank_errInUse), ("junction/bank.errAct", Rows.laid_junction_bank_errAct), ("junction/bank.errWorn", Rows.laid_junction_bank_errWorn)] [.sentinel, .sentinel, .sentinel, .sentinel, .sentinel, .sentinel, .sentinel, .sentinel] true :=
  Program.laidByTextLater.sub seatTie1 ["junction/bank.errDisk", "junction/bank.errSlot", "junction/bank.errEmpty", "junction/bank.errSpace", "junction/bank.errData", "junction/bank.errInUse", "junction/bank.errAct", "junction/bank.errWorn"] (by kernel_rfl) (by kernel_rfl)
theorem bankPlays_row_tie : Rows.bankPlaysRow.laidByTextAt .later Tryd.pinned [.sentinel, .sentinel, .sentinel, .sentinel, .sentinel, .sentinel, .sentinel, .sentinel] true :=
  OpenClaim.laidByTextAt_later rfl rfl tie noOwnUnsafe
theorem bankPlaysUpto_row_tie : Rows.bankPlaysUptoRow.laidByTextAt .later Tryd.pinned [.sentinel, .sentinel, .sentinel, .sentinel, .sentinel, .sentinel, .sentinel, .sentinel] true :=
  OpenClaim.laidByTextAt_later rfl rfl tie noOwnUnsafe
end Go.Proofs.YtoanbdbcfdjdeaaDoor
