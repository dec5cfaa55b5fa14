/-
  DERIVED. GIVEN WITH THE SEED: THE CARDS: each row of YtbgfeogigjjmdaaDoorRows.lean that lists a variable, with what it lists TIED to the program's text (the seventh form; the later family's looks); each row that meets fmt, with fmt's text TOLD by the authors' own Lean function (tested against real Go, not proved from fmt's source: count such statements apart). THE CARD IS WHAT COUNTS. Prove the row's statement (the work); the ties are given (YtbgfeogigjjmdaaDoorTie.lean); close each card by the builder's one call (the guide's Derived/Test/ToyasCard.lean, 'card_holds'). Laid BY PROGRAM, IN A SANDBOX (cutbox-door.mjs). By AI agents, Wed Nov 11 2026. No macro, syntax, notation, axiom, sorry.
-/
import Derived.Test.YtbgfeogigjjmdaaDoorRows
import GoSem.ClaimSeven
namespace Go.Proofs.YtbgfeogigjjmdaaDoor
namespace Rows

/-- THE TIED CARD OF 'junctionlaw10.RomSum'. -/
def romSumCard : Claim7 := { stood := { row := romSumRow, standIns := [], harness := (true, "08c4b5acadab0a6c2500ed1c1805fb2aa658d114c4b74fbe7f0f9048176a781f"), looks := false }, kinds := [], alts := [], laidByText := true, laidKinds := [.data], laidTests := true, laidLooks := .later }
def RomSumCardSaid : Prop := Claim7.holds Tryd.pinned (.plain (OpenSpec.ofChange romSumSpec)) romSumCard

/-- THE SECOND FORM's CARD OF 'junctionlaw10.RomSum'. -/
def romSumUptoCard : Claim7 := { stood := { row := romSumUptoRow, standIns := [], harness := (true, "08c4b5acadab0a6c2500ed1c1805fb2aa658d114c4b74fbe7f0f9048176a781f"), looks := false }, kinds := [], alts := [], laidByText := true, laidKinds := [.data], laidTests := true, laidLooks := .later }
def RomSumUptoCardSaid : Prop := Claim7.holds Tryd.pinned (.plain (OpenSpec.upto romSumSpec)) romSumUptoCard
end Rows
end Go.Proofs.YtbgfeogigjjmdaaDoor
