/-
  DERIVED. GIVEN WITH THE SEED: THE CARDS: each row of YtdajmfhcajopcaaDoorRows.lean that lists a variable, with what it lists TIED to the program's text (the seventh form; the later family's looks); each row that meets fmt, with fmt's text TOLD by the authors' own Lean function (tested against real Go, not proved from fmt's source: count such statements apart). THE CARD IS WHAT COUNTS. Prove the row's statement (the work); the ties are given (YtdajmfhcajopcaaDoorTie.lean); close each card by the builder's one call (the guide's Derived/Test/ToyasCard.lean, 'card_holds'). Laid BY PROGRAM, IN A SANDBOX (cutbox-door.mjs). By AI agents, Wed Nov 11 2026. No macro, syntax, notation, axiom, sorry.
-/
import Derived.Test.YtdajmfhcajopcaaDoorRows
import GoSem.ClaimSeven
namespace Go.Proofs.YtdajmfhcajopcaaDoor
namespace Rows

/-- THE TIED CARD OF 'junctionlaw14.DriverPhases'. -/
def driverPhasesCard : Claim7 := { stood := { row := driverPhasesRow, standIns := [], harness := (true, "0e8723f20cc412df606c99f8db83520b8f94a6969082c8272dc24b68aaa3c6e9"), looks := false }, kinds := [], alts := [], laidByText := true, laidKinds := [.data], laidTests := true, laidLooks := .later }
def DriverPhasesCardSaid : Prop := Claim7.holds Tryd.pinned (.plain (OpenSpec.ofChange driverPhasesSpec)) driverPhasesCard

/-- THE TIED CARD OF 'junctionlaw14.DriverReports'. -/
def driverReportsCard : Claim7 := { stood := { row := driverReportsRow, standIns := [], harness := (true, "0e8723f20cc412df606c99f8db83520b8f94a6969082c8272dc24b68aaa3c6e9"), looks := false }, kinds := [], alts := [], laidByText := true, laidKinds := [.data, .data, .data, .data], laidTests := true, laidLooks := .later }
def DriverReportsCardSaid : Prop := Claim7.holds Tryd.pinned (.plain (OpenSpec.ofChange driverReportsSpec)) driverReportsCard

/-- THE TIED CARD OF 'junctionlaw14.DriverTraces'. -/
def driverTracesCard : Claim7 := { stood := { row := driverTracesRow, standIns := [], harness := (true, "0e8723f20cc412df606c99f8db83520b8f94a6969082c8272dc24b68aaa3c6e9"), looks := false }, kinds := [], alts := [], laidByText := true, laidKinds := [.data, .data, .data], laidTests := true, laidLooks := .later }
def DriverTracesCardSaid : Prop := Claim7.holds Tryd.pinned (.plain (OpenSpec.ofChange driverTracesSpec)) driverTracesCard

/-- THE SECOND FORM's CARD OF 'junctionlaw14.DriverPhases'. -/
def driverPhasesUptoCard : Claim7 := { stood := { row := driverPhasesUptoRow, standIns := [], harness := (true, "0e8723f20cc412df606c99f8db83520b8f94a6969082c8272dc24b68aaa3c6e9"), looks := false }, kinds := [], alts := [], laidByText := true, laidKinds := [.data], laidTests := true, laidLooks := .later }
def DriverPhasesUptoCardSaid : Prop := Claim7.holds Tryd.pinned (.plain (OpenSpec.upto driverPhasesSpec)) driverPhasesUptoCard

/-- THE SECOND FORM's CARD OF 'junctionlaw14.DriverReports'. -/
def driverReportsUptoCard : Claim7 := { stood := { row := driverReportsUptoRow, standIns := [], harness := (true, "0e8723f20cc412df606c99f8db83520b8f94a6969082c8272dc24b68aaa3c6e9"), looks := false }, kinds := [], alts := [], laidByText := true, laidKinds := [.data, .data, .data, .data], laidTests := true, laidLooks := .later }
def DriverReportsUptoCardSaid : Prop := Claim7.holds Tryd.pinned (.plain (OpenSpec.upto driverReportsSpec)) driverReportsUptoCard

/-- THE SECOND FORM's CARD OF 'junctionlaw14.DriverTraces'. -/
def driverTracesUptoCard : Claim7 := { stood := { row := driverTracesUptoRow, standIns := [], harness := (true, "0e8723f20cc412df606c99f8db83520b8f94a6969082c8272dc24b68aaa3c6e9"), looks := false }, kinds := [], alts := [], laidByText := true, laidKinds := [.data, .data, .data], laidTests := true, laidLooks := .later }
def DriverTracesUptoCardSaid : Prop := Claim7.holds Tryd.pinned (.plain (OpenSpec.upto driverTracesSpec)) driverTracesUptoCard
end Rows
end Go.Proofs.YtdajmfhcajopcaaDoor
