/-
  DERIVED. GIVEN WITH THE SEED: THE CARDS: each row of YtfmdlcfkfglnhaaDoorRows.lean that lists a variable, with what it lists TIED to the program's text (the seventh form; the later family's looks); each row that meets fmt, with fmt's text TOLD by the authors' own Lean function (tested against real Go, not proved from fmt's source: count such statements apart). THE CARD IS WHAT COUNTS. Prove the row's statement (the work); the ties are given (YtfmdlcfkfglnhaaDoorTie.lean); close each card by the builder's one call (the guide's Derived/Test/ToyasCard.lean, 'card_holds'). Laid BY PROGRAM, IN A SANDBOX (cutbox-door.mjs). By AI agents, Wed Nov 11 2026. No macro, syntax, notation, axiom, sorry.
-/
import Derived.Test.YtfmdlcfkfglnhaaDoorRows
import GoSem.ClaimSeven
namespace Go.Proofs.YtfmdlcfkfglnhaaDoor
namespace Rows

/-- THE TIED CARD OF 'junctionlaw5.CheckTypes'. -/
def checkTypesCard : Claim7 := { stood := { row := checkTypesRow, standIns := [], harness := (true, "c0950365b16212eb0a10ceb96449b8ced171195f2293d40aed1cb7b4d86a5809"), looks := false }, kinds := [], alts := [], laidByText := true, laidKinds := [.data, .data, .data], laidTests := true, laidLooks := .later }
def CheckTypesCardSaid : Prop := Claim7.holds Tryd.pinned (.plain (OpenSpec.ofChange checkTypesSpec)) checkTypesCard

/-- THE SECOND FORM's CARD OF 'junctionlaw5.CheckTypes'. -/
def checkTypesUptoCard : Claim7 := { stood := { row := checkTypesUptoRow, standIns := [], harness := (true, "c0950365b16212eb0a10ceb96449b8ced171195f2293d40aed1cb7b4d86a5809"), looks := false }, kinds := [], alts := [], laidByText := true, laidKinds := [.data, .data, .data], laidTests := true, laidLooks := .later }
def CheckTypesUptoCardSaid : Prop := Claim7.holds Tryd.pinned (.plain (OpenSpec.upto checkTypesSpec)) checkTypesUptoCard
end Rows
end Go.Proofs.YtfmdlcfkfglnhaaDoor
