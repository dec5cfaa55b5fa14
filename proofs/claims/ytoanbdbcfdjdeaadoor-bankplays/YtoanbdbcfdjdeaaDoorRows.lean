/-
  NARROWER THAN 'FOR EVERY INPUT', by the rows' own cells (each row's printed sentence says how): BankPlays: laid.
  DERIVED. THE GIVEN ROWS OF THIS SEAT. 1 by the template 'for every input the law returns true; each argument reads behind the call as it read before'; 0 by the template 'total and deterministic' (their statements: YtoanbdbcfdjdeaaDoorTotals.lean).
  GIVEN WITH THE SEED: the statements are not yours to turn. If you find one false, say at which input.
  Laid BY PROGRAM, IN A SANDBOX (cutbox-rows.mjs): the forced cells as the released guide's own fill.sh prints them over the translation 85f8e34241a0798b… (all of the seat's roots in one cut). By AI agents, Wed Nov 11 2026. No macro, syntax, notation, axiom, sorry.
-/
import Derived.Test.YtoanbdbcfdjdeaaDoorChecked
import GoSem.Claim
import GoSem.ClaimJoined
import GoSem.ClaimMapViews
import Derived.JoinedTies
import Derived.KernelRfl
namespace Go.Proofs.YtoanbdbcfdjdeaaDoor
/- THE CELL 'sum', in the pinned program and in every row, IS THE sha256 OF THE DUMP (.gsa) THAT YtoanbdbcfdjdeaaDoorProg.lean LOADS. Nothing in Lean hashes anything: it is a label: what it is worth is what the hold of that sum in a sandbox is worth. -/
noncomputable def Tryd.pinned : Pinned := { name := "ytoanbdbcfdjdeaadoor", sum := "85f8e34241a0798bc308f1c5c90598e77c9ba550d80159efb715158143115f04", checked := Tryd.checked }
namespace Rows
def none {H : Type} : Left H := { results := [], args := [] }

/- WHAT THE LISTED PACKAGE-LEVEL VARIABLES READ AS WHEN THE CALL BEGINS. Each datum BY PROGRAM (the guide's laid-datum.mjs) off the statement by which the dump's own 'gosem.cut.vars' lays the variable. In a bare row this is a premise. The card (YtoanbdbcfdjdeaaDoorCards.lean) ties it to the program's text. -/
def laid_junction_bank_errDisk {H : Type} : DataW H := .iface "*errors.errorString" (.ptr (.agg [.lit (.string [110, 111, 32, 102, 108, 97, 115, 104])]))
def laid_junction_bank_errSlot {H : Type} : DataW H := .iface "*errors.errorString" (.ptr (.agg [.lit (.string [110, 111, 32, 115, 117, 99, 104, 32, 115, 108, 111, 116])]))
def laid_junction_bank_errEmpty {H : Type} : DataW H := .iface "*errors.errorString" (.ptr (.agg [.lit (.string [110, 111, 116, 104, 105, 110, 103, 32, 105, 115, 32, 104, 101, 108, 100])]))
def laid_junction_bank_errSpace {H : Type} : DataW H := .iface "*errors.errorString" (.ptr (.agg [.lit (.string [110, 111, 32, 114, 111, 111, 109, 32, 105, 110, 32, 97, 32, 104, 97, 108, 102])]))
def laid_junction_bank_errData {H : Type} : DataW H := .iface "*errors.errorString" (.ptr (.agg [.lit (.string [110, 111, 32, 100, 97, 116, 97, 44, 32, 111, 114, 32, 116, 111, 111, 32, 109, 117, 99, 104])]))
def laid_junction_bank_errInUse {H : Type} : DataW H := .iface "*errors.errorString" (.ptr (.agg [.lit (.string [105, 116, 32, 105, 115, 32, 112, 105, 99, 107, 101, 100])]))
def laid_junction_bank_errAct {H : Type} : DataW H := .iface "*errors.errorString" (.ptr (.agg [.lit (.string [116, 104, 101, 32, 102, 108, 97, 115, 104, 32, 99, 97, 110, 110, 111, 116, 32, 100, 111, 32, 105, 116])]))
def laid_junction_bank_errWorn {H : Type} : DataW H := .iface "*errors.errorString" (.ptr (.agg [.lit (.string [116, 104, 101, 32, 103, 101, 110, 101, 114, 97, 116, 105, 111, 110, 115, 32, 104, 97, 118, 101, 32, 114, 117, 110, 32, 111, 117, 116])]))

/-- 'junctionlaw16.BankPlays': WHATEVER THE INPUT: true; the input reads as it did. -/
def bankPlaysSpec : ChangeSpec := { name := "bankPlays", fn := fun _ => fun
  | [d1, d2, d3, d4, d5] => { results := [.lit (.bool true)], args := [d1, d2, d3, d4, d5] }
  | _ => none }
def bankPlaysRow : OpenClaim := { program := "ytoanbdbcfdjdeaadoor", sum := "85f8e34241a0798bc308f1c5c90598e77c9ba550d80159efb715158143115f04", func := "junction/junctionlaw16.BankPlays", spec := "bankPlays", inPlace := ["internal/reflectlite.TypeOf", "internal/bytealg.MakeNoZero"], unfollowed := true, recurses := true, named := ["junction/bank.errDisk", "junction/bank.errSlot", "junction/bank.errEmpty", "junction/bank.errSpace", "junction/bank.errData", "junction/bank.errInUse", "junction/bank.errAct", "junction/bank.errWorn"], apart := false, laid := [("junction/bank.errDisk", laid_junction_bank_errDisk), ("junction/bank.errSlot", laid_junction_bank_errSlot), ("junction/bank.errEmpty", laid_junction_bank_errEmpty), ("junction/bank.errSpace", laid_junction_bank_errSpace), ("junction/bank.errData", laid_junction_bank_errData), ("junction/bank.errInUse", laid_junction_bank_errInUse), ("junction/bank.errAct", laid_junction_bank_errAct), ("junction/bank.errWorn", laid_junction_bank_errWorn)] }
def BankPlaysSaid : Prop := bankPlaysRow.holds Tryd.pinned (OpenSpec.ofChange bankPlaysSpec)

/-- ITS FALSE NEIGHBOUR: 'it returns false'. Refute it at one input. -/
def bankPlaysWrong : ChangeSpec := { name := "bankPlays", fn := fun _ => fun
  | [d1, d2, d3, d4, d5] => { results := [.lit (.bool false)], args := [d1, d2, d3, d4, d5] }
  | _ => none }
def BankPlaysWrongFalsely : Prop := bankPlaysRow.holds Tryd.pinned (OpenSpec.ofChange bankPlaysWrong)

/- THE SECOND FORM. 'bulk': how many values and letters a reading holds, each counted each time it is reached (what is shared counts as often as it is met; a slice's spare places count too). A statement '..UptoSaid' is the law's where the arguments, and the package variables that the reading takes, are together of bulk at most 1048576: NARROWER than '..Said'. Prove '..Said' where nothing that the law and all that it calls make is longer than what came in: it says more and counts as full. Else prove '..UptoSaid'. A law counts once. -/
mutual
def uptoBulk {H : Type} : DataW H → Nat
  | .lit (.string bytes) => bytes.length + 1
  | .lit _ => 1
  | .nil => 1
  | .ptr d => uptoBulk d + 1
  | .slice elems spare => uptoBulkAll elems + uptoBulkAll spare + 1
  | .agg parts => uptoBulkAll parts + 1
  | .iface _ d => uptoBulk d + 1
  | .map entries => uptoBulkEntries entries + 1
  | .held _ => 1
def uptoBulkAll {H : Type} : List (DataW H) → Nat
  | [] => 0
  | d :: r => uptoBulk d + uptoBulkAll r
def uptoBulkEntries {H : Type} : List (Lit × DataW H) → Nat
  | [] => 0
  | x :: r => uptoBulkEntry x + uptoBulkEntries r
def uptoBulkEntry {H : Type} : Lit × DataW H → Nat
  | (.string bytes, d) => bytes.length + uptoBulk d + 1
  | (_, d) => uptoBulk d + 1
 end
def uptoSmall : (H : Type) → List (DataW H) → Bool := fun _ ds => decide (uptoBulkAll ds ≤ 1048576)
def OpenSpec.upto (s : _root_.Go.ChangeSpec) : _root_.Go.OpenSpec := { _root_.Go.OpenSpec.ofChange s with cond := some uptoSmall }

/-- 'junctionlaw16.BankPlays', WHERE WHAT IT READS IS OF BULK AT MOST 1048576: true; the input reads as it did. -/
def bankPlaysUptoRow : OpenClaim := { program := "ytoanbdbcfdjdeaadoor", sum := "85f8e34241a0798bc308f1c5c90598e77c9ba550d80159efb715158143115f04", func := "junction/junctionlaw16.BankPlays", spec := "bankPlays", inPlace := ["internal/reflectlite.TypeOf", "internal/bytealg.MakeNoZero"], unfollowed := true, recurses := true, named := ["junction/bank.errDisk", "junction/bank.errSlot", "junction/bank.errEmpty", "junction/bank.errSpace", "junction/bank.errData", "junction/bank.errInUse", "junction/bank.errAct", "junction/bank.errWorn"], apart := false, laid := [("junction/bank.errDisk", laid_junction_bank_errDisk), ("junction/bank.errSlot", laid_junction_bank_errSlot), ("junction/bank.errEmpty", laid_junction_bank_errEmpty), ("junction/bank.errSpace", laid_junction_bank_errSpace), ("junction/bank.errData", laid_junction_bank_errData), ("junction/bank.errInUse", laid_junction_bank_errInUse), ("junction/bank.errAct", laid_junction_bank_errAct), ("junction/bank.errWorn", laid_junction_bank_errWorn)], narrowed := true }
def BankPlaysUptoSaid : Prop := bankPlaysUptoRow.holds Tryd.pinned (OpenSpec.upto bankPlaysSpec)

end Rows
end Go.Proofs.YtoanbdbcfdjdeaaDoor
