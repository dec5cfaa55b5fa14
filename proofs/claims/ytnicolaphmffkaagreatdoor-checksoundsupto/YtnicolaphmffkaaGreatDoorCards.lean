/-
  DERIVED. GIVEN WITH THE SEED: THE CARDS: each row of YtnicolaphmffkaaGreatDoorRows.lean that lists a variable, with what it lists TIED to the program's text (the seventh form; the later family's looks); each row that meets fmt, with fmt's text TOLD by the authors' own Lean function (tested against real Go, not proved from fmt's source: count such statements apart). THE CARD IS WHAT COUNTS. Prove the row's statement (the work); the ties are given (YtnicolaphmffkaaGreatDoorTie.lean); close each card by the builder's one call (the guide's Derived/Test/ToyasCard.lean, 'card_holds'). Laid BY PROGRAM, IN A SANDBOX (cutbox-door.mjs). By AI agents, Wed Nov 11 2026. No macro, syntax, notation, axiom, sorry.
-/
import Derived.Test.YtnicolaphmffkaaGreatDoorRows
import GoSem.ClaimSeven
namespace Go.Proofs.YtnicolaphmffkaaGreatDoor
namespace Rows

/-- THE TIED CARD OF 'junctionlaw5.CheckSounds'. -/
def checkSoundsCard : Claim7 := { stood := { row := checkSoundsRow, standIns := [], harness := (true, "92430ffe84562c20ee2bb9aad4788d0b63800486acbe06a83f49ffbcaa7b0e30"), looks := false }, kinds := [], alts := [], laidByText := true, laidKinds := [.data, .data, .data], laidTests := true, laidLooks := .later }
def CheckSoundsCardSaid : Prop := Claim7.holds Tryz.pinned (.plain (OpenSpec.ofChange checkSoundsSpec)) checkSoundsCard

/-- THE TIED CARD OF 'junctionlaw6.SafetyReaches'. -/
def safetyReachesCard : Claim7 := { stood := { row := safetyReachesRow, standIns := [], harness := (true, "92430ffe84562c20ee2bb9aad4788d0b63800486acbe06a83f49ffbcaa7b0e30"), looks := false }, kinds := [], alts := [], laidByText := true, laidKinds := [.data, .data, .data], laidTests := true, laidLooks := .later }
def SafetyReachesCardSaid : Prop := Claim7.holds Tryz.pinned (.plain (OpenSpec.ofChange safetyReachesSpec)) safetyReachesCard

/-- THE TIED CARD OF 'junctionlaw6.SafetyBounds'. -/
def safetyBoundsCard : Claim7 := { stood := { row := safetyBoundsRow, standIns := [], harness := (true, "92430ffe84562c20ee2bb9aad4788d0b63800486acbe06a83f49ffbcaa7b0e30"), looks := false }, kinds := [], alts := [], laidByText := true, laidKinds := [.data, .data, .data], laidTests := true, laidLooks := .later }
def SafetyBoundsCardSaid : Prop := Claim7.holds Tryz.pinned (.plain (OpenSpec.ofChange safetyBoundsSpec)) safetyBoundsCard

/-- THE SECOND FORM's CARD OF 'junctionlaw5.CheckSounds'. -/
def checkSoundsUptoCard : Claim7 := { stood := { row := checkSoundsUptoRow, standIns := [], harness := (true, "92430ffe84562c20ee2bb9aad4788d0b63800486acbe06a83f49ffbcaa7b0e30"), looks := false }, kinds := [], alts := [], laidByText := true, laidKinds := [.data, .data, .data], laidTests := true, laidLooks := .later }
def CheckSoundsUptoCardSaid : Prop := Claim7.holds Tryz.pinned (.plain (OpenSpec.upto checkSoundsSpec)) checkSoundsUptoCard

/-- THE SECOND FORM's CARD OF 'junctionlaw6.SafetyReaches'. -/
def safetyReachesUptoCard : Claim7 := { stood := { row := safetyReachesUptoRow, standIns := [], harness := (true, "92430ffe84562c20ee2bb9aad4788d0b63800486acbe06a83f49ffbcaa7b0e30"), looks := false }, kinds := [], alts := [], laidByText := true, laidKinds := [.data, .data, .data], laidTests := true, laidLooks := .later }
def SafetyReachesUptoCardSaid : Prop := Claim7.holds Tryz.pinned (.plain (OpenSpec.upto safetyReachesSpec)) safetyReachesUptoCard

/-- THE SECOND FORM's CARD OF 'junctionlaw6.SafetyBounds'. -/
def safetyBoundsUptoCard : Claim7 := { stood := { row := safetyBoundsUptoRow, standIns := [], harness := (true, "92430ffe84562c20ee2bb9aad4788d0b63800486acbe06a83f49ffbcaa7b0e30"), looks := false }, kinds := [], alts := [], laidByText := true, laidKinds := [.data, .data, .data], laidTests := true, laidLooks := .later }
def SafetyBoundsUptoCardSaid : Prop := Claim7.holds Tryz.pinned (.plain (OpenSpec.upto safetyBoundsSpec)) safetyBoundsUptoCard
end Rows
end Go.Proofs.YtnicolaphmffkaaGreatDoor
