/-
  DERIVED. GIVEN WITH THE SEED: THE CARDS: each row of YtnicolaphmffkaaDoorRows.lean that lists a variable, with what it lists TIED to the program's text (the seventh form; the later family's looks); each row that meets fmt, with fmt's text TOLD by the authors' own Lean function (tested against real Go, not proved from fmt's source: count such statements apart). THE CARD IS WHAT COUNTS. Prove the row's statement (the work); the ties are given (YtnicolaphmffkaaDoorTie.lean); close each card by the builder's one call (the guide's Derived/Test/ToyasCard.lean, 'card_holds'). Laid BY PROGRAM, IN A SANDBOX (cutbox-door.mjs). By AI agents, Wed Nov 11 2026. No macro, syntax, notation, axiom, sorry.
-/
import Derived.Test.YtnicolaphmffkaaDoorRows
import GoSem.ClaimSeven
namespace Go.Proofs.YtnicolaphmffkaaDoor
namespace Rows

/-- THE TIED CARD OF 'junctionlaw6.SafetyWalks'. -/
def safetyWalksCard : Claim7 := { stood := { row := safetyWalksRow, standIns := [], harness := (true, "e343e9d3e6ed1089c363cf85e9c2eccccde0096c75d4c625762e9bfc90aee93a"), looks := false }, kinds := [], alts := [], laidByText := true, laidKinds := [.data, .data, .data], laidTests := true, laidLooks := .later }
def SafetyWalksCardSaid : Prop := Claim7.holds Tryd.pinned (.plain (OpenSpec.ofChange safetyWalksSpec)) safetyWalksCard

/-- THE SECOND FORM's CARD OF 'junctionlaw6.SafetyWalks'. -/
def safetyWalksUptoCard : Claim7 := { stood := { row := safetyWalksUptoRow, standIns := [], harness := (true, "e343e9d3e6ed1089c363cf85e9c2eccccde0096c75d4c625762e9bfc90aee93a"), looks := false }, kinds := [], alts := [], laidByText := true, laidKinds := [.data, .data, .data], laidTests := true, laidLooks := .later }
def SafetyWalksUptoCardSaid : Prop := Claim7.holds Tryd.pinned (.plain (OpenSpec.upto safetyWalksSpec)) safetyWalksUptoCard
end Rows
end Go.Proofs.YtnicolaphmffkaaDoor
