/-
  DERIVED. GIVEN WITH THE SEED: THE CARDS: each row of YtifmlibdnnaoiaaDoorRows.lean that lists a variable, with what it lists TIED to the program's text (the seventh form; the later family's looks); each row that meets fmt, with fmt's text TOLD by the authors' own Lean function (tested against real Go, not proved from fmt's source: count such statements apart). THE CARD IS WHAT COUNTS. Prove the row's statement (the work); the ties are given (YtifmlibdnnaoiaaDoorTie.lean); close each card by the builder's one call (the guide's Derived/Test/ToyasCard.lean, 'card_holds'). Laid BY PROGRAM, IN A SANDBOX (cutbox-door.mjs). By AI agents, Wed Nov 11 2026. No macro, syntax, notation, axiom, sorry.
-/
import Derived.Test.YtifmlibdnnaoiaaDoorRows
import GoSem.ClaimSeven
namespace Go.Proofs.YtifmlibdnnaoiaaDoor
namespace Rows

/-- THE TIED CARD OF 'junctionlaw18.TableCalendar'. -/
def tableCalendarCard : Claim7 := { stood := { row := tableCalendarRow, standIns := [], harness := (true, "93e1e97e0f5d31e8d702a144cbb6c9208a1e2fdfb484f9f381ef6b26441d060f"), looks := false }, kinds := [], alts := [], laidByText := true, laidKinds := [.data], laidTests := true, laidLooks := .later }
def TableCalendarCardSaid : Prop := Claim7.holds Tryd.pinned (.plain (OpenSpec.ofChange tableCalendarSpec)) tableCalendarCard

/-- THE TIED CARD OF 'junctionlaw18.TableDates'. -/
def tableDatesCard : Claim7 := { stood := { row := tableDatesRow, standIns := [], harness := (true, "93e1e97e0f5d31e8d702a144cbb6c9208a1e2fdfb484f9f381ef6b26441d060f"), looks := false }, kinds := [], alts := [], laidByText := true, laidKinds := [.data], laidTests := true, laidLooks := .later }
def TableDatesCardSaid : Prop := Claim7.holds Tryd.pinned (.plain (OpenSpec.ofChange tableDatesSpec)) tableDatesCard

/-- THE SECOND FORM's CARD OF 'junctionlaw18.TableCalendar'. -/
def tableCalendarUptoCard : Claim7 := { stood := { row := tableCalendarUptoRow, standIns := [], harness := (true, "93e1e97e0f5d31e8d702a144cbb6c9208a1e2fdfb484f9f381ef6b26441d060f"), looks := false }, kinds := [], alts := [], laidByText := true, laidKinds := [.data], laidTests := true, laidLooks := .later }
def TableCalendarUptoCardSaid : Prop := Claim7.holds Tryd.pinned (.plain (OpenSpec.upto tableCalendarSpec)) tableCalendarUptoCard

/-- THE SECOND FORM's CARD OF 'junctionlaw18.TableDates'. -/
def tableDatesUptoCard : Claim7 := { stood := { row := tableDatesUptoRow, standIns := [], harness := (true, "93e1e97e0f5d31e8d702a144cbb6c9208a1e2fdfb484f9f381ef6b26441d060f"), looks := false }, kinds := [], alts := [], laidByText := true, laidKinds := [.data], laidTests := true, laidLooks := .later }
def TableDatesUptoCardSaid : Prop := Claim7.holds Tryd.pinned (.plain (OpenSpec.upto tableDatesSpec)) tableDatesUptoCard
end Rows
end Go.Proofs.YtifmlibdnnaoiaaDoor
