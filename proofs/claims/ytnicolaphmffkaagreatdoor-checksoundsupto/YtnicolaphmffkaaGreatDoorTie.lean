/-
  DERIVED. GIVEN WITH THE SEED: THE PROGRAM's TIES (one call each: nine closed facts by the kernel) AND EACH ROW's TIE, after the 31st guide's Derived/Test/Toyas{Tie, Card}.lean. No idea stands in it: it is a product of the set-up. Laid BY PROGRAM, IN A SANDBOX (cutbox-door.mjs). By AI agents, Wed Nov 11 2026. No macro, syntax, notation, axiom, sorry.
-/
import Derived.Test.YtnicolaphmffkaaGreatDoorRows
import Derived.LaidByTextLater
import Derived.SevenTiedAt
import Derived.LaidSub
import Derived.LaidOnce
namespace Go.Proofs.YtnicolaphmffkaaGreatDoor
open Go
set_option maxRecDepth 100000
theorem seatTie1 : Tryz.prog.laidByTextLater [("junction/junctionref2.words", Rows.laid_junction_junctionref2_words), ("junction/junctionref2.signs", Rows.laid_junction_junctionref2_signs), ("junction/lex.words", Rows.laid_junction_lex_words)] [.data, .data, .data] true :=
  Program.laidByTextLater_by_one 24 8 79 (by kernel_rfl) (by kernel_rfl) (by kernel_rfl) (by kernel_rfl) (by kernel_rfl) (by kernel_rfl) (fun _ _ => by kernel_rfl)
theorem noOwnUnsafe : Tryz.pinned.checked.prog.headLifts.contains "ownunsafe" = false := by kernel_rfl
theorem tie : Tryz.prog.laidByTextLater [("junction/junctionref2.words", Rows.laid_junction_junctionref2_words), ("junction/junctionref2.signs", Rows.laid_junction_junctionref2_signs), ("junction/lex.words", Rows.laid_junction_lex_words)] [.data, .data, .data] true :=
  Program.laidByTextLater.sub seatTie1 ["junction/junctionref2.words", "junction/junctionref2.signs", "junction/lex.words"] (by kernel_rfl) (by kernel_rfl)
theorem checkSounds_row_tie : Rows.checkSoundsRow.laidByTextAt .later Tryz.pinned [.data, .data, .data] true :=
  OpenClaim.laidByTextAt_later rfl rfl tie noOwnUnsafe
theorem safetyReaches_row_tie : Rows.safetyReachesRow.laidByTextAt .later Tryz.pinned [.data, .data, .data] true :=
  OpenClaim.laidByTextAt_later rfl rfl tie noOwnUnsafe
theorem safetyBounds_row_tie : Rows.safetyBoundsRow.laidByTextAt .later Tryz.pinned [.data, .data, .data] true :=
  OpenClaim.laidByTextAt_later rfl rfl tie noOwnUnsafe
theorem checkSoundsUpto_row_tie : Rows.checkSoundsUptoRow.laidByTextAt .later Tryz.pinned [.data, .data, .data] true :=
  OpenClaim.laidByTextAt_later rfl rfl tie noOwnUnsafe
theorem safetyReachesUpto_row_tie : Rows.safetyReachesUptoRow.laidByTextAt .later Tryz.pinned [.data, .data, .data] true :=
  OpenClaim.laidByTextAt_later rfl rfl tie noOwnUnsafe
theorem safetyBoundsUpto_row_tie : Rows.safetyBoundsUptoRow.laidByTextAt .later Tryz.pinned [.data, .data, .data] true :=
  OpenClaim.laidByTextAt_later rfl rfl tie noOwnUnsafe
end Go.Proofs.YtnicolaphmffkaaGreatDoor
