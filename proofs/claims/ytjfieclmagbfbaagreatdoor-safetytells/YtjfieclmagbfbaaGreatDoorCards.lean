/-
  DERIVED. GIVEN WITH THE SEED: THE CARDS: each row of YtjfieclmagbfbaaGreatDoorRows.lean that lists a variable, with what it lists TIED to the program's text (the seventh form; the later family's looks); each row that meets fmt, with fmt's text TOLD by the authors' own Lean function (tested against real Go, not proved from fmt's source: count such statements apart). THE CARD IS WHAT COUNTS. Prove the row's statement (the work); the ties are given (YtjfieclmagbfbaaGreatDoorTie.lean); close each card by the builder's one call (the guide's Derived/Test/ToyasCard.lean, 'card_holds'). Laid BY PROGRAM, IN A SANDBOX (cutbox-door.mjs). By AI agents, Wed Nov 11 2026. No macro, syntax, notation, axiom, sorry.
-/
import Derived.Test.YtjfieclmagbfbaaGreatDoorRows
import GoSem.ClaimSeven
namespace Go.Proofs.YtjfieclmagbfbaaGreatDoor
namespace Rows

/-- THE TIED CARD OF 'junctionlaw6.SafetyTells'. -/
def safetyTellsCard : Claim7 := { stood := { row := safetyTellsRow, standIns := [], harness := (true, "820aac80e734aa5ddc740d25a8bb2a137b5f18c1741d16643701945f76101e9d"), looks := false }, kinds := [], alts := [], laidByText := true, laidKinds := [.data, .data, .data, .data], laidTests := true, laidLooks := .later }
def SafetyTellsCardSaid : Prop := Claim7.holds Tryz.pinned (.plain (OpenSpec.ofChange safetyTellsSpec)) safetyTellsCard

/-- THE TIED CARD OF 'junctionlaw6.SafetyUnseen'. -/
def safetyUnseenCard : Claim7 := { stood := { row := safetyUnseenRow, standIns := [], harness := (true, "820aac80e734aa5ddc740d25a8bb2a137b5f18c1741d16643701945f76101e9d"), looks := false }, kinds := [], alts := [], laidByText := true, laidKinds := [.data, .data, .data, .data], laidTests := true, laidLooks := .later }
def SafetyUnseenCardSaid : Prop := Claim7.holds Tryz.pinned (.plain (OpenSpec.ofChange safetyUnseenSpec)) safetyUnseenCard

/-- THE TIED CARD OF 'junctionlaw6.SafetyFinds'. -/
def safetyFindsCard : Claim7 := { stood := { row := safetyFindsRow, standIns := [], harness := (true, "820aac80e734aa5ddc740d25a8bb2a137b5f18c1741d16643701945f76101e9d"), looks := false }, kinds := [], alts := [], laidByText := true, laidKinds := [.data, .data, .data, .data], laidTests := true, laidLooks := .later }
def SafetyFindsCardSaid : Prop := Claim7.holds Tryz.pinned (.plain (OpenSpec.ofChange safetyFindsSpec)) safetyFindsCard

/-- THE SECOND FORM's CARD OF 'junctionlaw6.SafetyTells'. -/
def safetyTellsUptoCard : Claim7 := { stood := { row := safetyTellsUptoRow, standIns := [], harness := (true, "820aac80e734aa5ddc740d25a8bb2a137b5f18c1741d16643701945f76101e9d"), looks := false }, kinds := [], alts := [], laidByText := true, laidKinds := [.data, .data, .data, .data], laidTests := true, laidLooks := .later }
def SafetyTellsUptoCardSaid : Prop := Claim7.holds Tryz.pinned (.plain (OpenSpec.upto safetyTellsSpec)) safetyTellsUptoCard

/-- THE SECOND FORM's CARD OF 'junctionlaw6.SafetyUnseen'. -/
def safetyUnseenUptoCard : Claim7 := { stood := { row := safetyUnseenUptoRow, standIns := [], harness := (true, "820aac80e734aa5ddc740d25a8bb2a137b5f18c1741d16643701945f76101e9d"), looks := false }, kinds := [], alts := [], laidByText := true, laidKinds := [.data, .data, .data, .data], laidTests := true, laidLooks := .later }
def SafetyUnseenUptoCardSaid : Prop := Claim7.holds Tryz.pinned (.plain (OpenSpec.upto safetyUnseenSpec)) safetyUnseenUptoCard

/-- THE SECOND FORM's CARD OF 'junctionlaw6.SafetyFinds'. -/
def safetyFindsUptoCard : Claim7 := { stood := { row := safetyFindsUptoRow, standIns := [], harness := (true, "820aac80e734aa5ddc740d25a8bb2a137b5f18c1741d16643701945f76101e9d"), looks := false }, kinds := [], alts := [], laidByText := true, laidKinds := [.data, .data, .data, .data], laidTests := true, laidLooks := .later }
def SafetyFindsUptoCardSaid : Prop := Claim7.holds Tryz.pinned (.plain (OpenSpec.upto safetyFindsSpec)) safetyFindsUptoCard
end Rows
end Go.Proofs.YtjfieclmagbfbaaGreatDoor
