/-
  DERIVED. GIVEN WITH THE SEED: THE CARDS: each row of YtcajejfddfiidaaDoorRows.lean that lists a variable, with what it lists TIED to the program's text (the seventh form; the later family's looks); each row that meets fmt, with fmt's text TOLD by the authors' own Lean function (tested against real Go, not proved from fmt's source: count such statements apart). THE CARD IS WHAT COUNTS. Prove the row's statement (the work); the ties are given (YtcajejfddfiidaaDoorTie.lean); close each card by the builder's one call (the guide's Derived/Test/ToyasCard.lean, 'card_holds'). Laid BY PROGRAM, IN A SANDBOX (cutbox-door.mjs). By AI agents, Wed Nov 11 2026. No macro, syntax, notation, axiom, sorry.
-/
import Derived.Test.YtcajejfddfiidaaDoorRows
import GoSem.ClaimSeven
namespace Go.Proofs.YtcajejfddfiidaaDoor
namespace Rows

/-- THE TIED CARD OF 'junctionlaw14.DriverInputs'. -/
def driverInputsCard : Claim7 := { stood := { row := driverInputsRow, standIns := [], harness := (true, "2e539f3ee46754c2e767f92dc6d22c182848547fcf0414a9087530124980313c"), looks := true }, kinds := [], alts := [], laidByText := true, laidKinds := [.data, .data, .data, .data, .sentinel, .sentinel, .pinned], laidTests := true, laidLooks := .later }
def DriverInputsCardSaid : Prop := Claim7.holds Tryd.pinned (.plain (OpenSpec.ofChange driverInputsSpec)) driverInputsCard

/-- THE TIED CARD OF 'junctionlaw14.DriverBack'. -/
def driverBackCard : Claim7 := { stood := { row := driverBackRow, standIns := [], harness := (true, "2e539f3ee46754c2e767f92dc6d22c182848547fcf0414a9087530124980313c"), looks := true }, kinds := [], alts := [], laidByText := true, laidKinds := [.data, .data, .data, .sentinel, .sentinel], laidTests := true, laidLooks := .later }
def DriverBackCardSaid : Prop := Claim7.holds Tryd.pinned (.plain (OpenSpec.ofChange driverBackSpec)) driverBackCard

/-- THE TIED CARD OF 'junctionlaw14.DriverThere'. -/
def driverThereCard : Claim7 := { stood := { row := driverThereRow, standIns := [], harness := (true, "2e539f3ee46754c2e767f92dc6d22c182848547fcf0414a9087530124980313c"), looks := true }, kinds := [], alts := [], laidByText := true, laidKinds := [.data, .data, .data, .sentinel, .sentinel], laidTests := true, laidLooks := .later }
def DriverThereCardSaid : Prop := Claim7.holds Tryd.pinned (.plain (OpenSpec.ofChange driverThereSpec)) driverThereCard

/-- THE TIED CARD OF 'junctionlaw14.DriverRetraces'. -/
def driverRetracesCard : Claim7 := { stood := { row := driverRetracesRow, standIns := [], harness := (true, "2e539f3ee46754c2e767f92dc6d22c182848547fcf0414a9087530124980313c"), looks := true }, kinds := [], alts := [], laidByText := true, laidKinds := [.data, .data, .data, .sentinel, .sentinel], laidTests := true, laidLooks := .later }
def DriverRetracesCardSaid : Prop := Claim7.holds Tryd.pinned (.plain (OpenSpec.ofChange driverRetracesSpec)) driverRetracesCard

/-- THE SECOND FORM's CARD OF 'junctionlaw14.DriverInputs'. -/
def driverInputsUptoCard : Claim7 := { stood := { row := driverInputsUptoRow, standIns := [], harness := (true, "2e539f3ee46754c2e767f92dc6d22c182848547fcf0414a9087530124980313c"), looks := true }, kinds := [], alts := [], laidByText := true, laidKinds := [.data, .data, .data, .data, .sentinel, .sentinel, .pinned], laidTests := true, laidLooks := .later }
def DriverInputsUptoCardSaid : Prop := Claim7.holds Tryd.pinned (.plain (OpenSpec.upto driverInputsSpec)) driverInputsUptoCard

/-- THE SECOND FORM's CARD OF 'junctionlaw14.DriverBack'. -/
def driverBackUptoCard : Claim7 := { stood := { row := driverBackUptoRow, standIns := [], harness := (true, "2e539f3ee46754c2e767f92dc6d22c182848547fcf0414a9087530124980313c"), looks := true }, kinds := [], alts := [], laidByText := true, laidKinds := [.data, .data, .data, .sentinel, .sentinel], laidTests := true, laidLooks := .later }
def DriverBackUptoCardSaid : Prop := Claim7.holds Tryd.pinned (.plain (OpenSpec.upto driverBackSpec)) driverBackUptoCard

/-- THE SECOND FORM's CARD OF 'junctionlaw14.DriverThere'. -/
def driverThereUptoCard : Claim7 := { stood := { row := driverThereUptoRow, standIns := [], harness := (true, "2e539f3ee46754c2e767f92dc6d22c182848547fcf0414a9087530124980313c"), looks := true }, kinds := [], alts := [], laidByText := true, laidKinds := [.data, .data, .data, .sentinel, .sentinel], laidTests := true, laidLooks := .later }
def DriverThereUptoCardSaid : Prop := Claim7.holds Tryd.pinned (.plain (OpenSpec.upto driverThereSpec)) driverThereUptoCard

/-- THE SECOND FORM's CARD OF 'junctionlaw14.DriverRetraces'. -/
def driverRetracesUptoCard : Claim7 := { stood := { row := driverRetracesUptoRow, standIns := [], harness := (true, "2e539f3ee46754c2e767f92dc6d22c182848547fcf0414a9087530124980313c"), looks := true }, kinds := [], alts := [], laidByText := true, laidKinds := [.data, .data, .data, .sentinel, .sentinel], laidTests := true, laidLooks := .later }
def DriverRetracesUptoCardSaid : Prop := Claim7.holds Tryd.pinned (.plain (OpenSpec.upto driverRetracesSpec)) driverRetracesUptoCard
end Rows
end Go.Proofs.YtcajejfddfiidaaDoor
