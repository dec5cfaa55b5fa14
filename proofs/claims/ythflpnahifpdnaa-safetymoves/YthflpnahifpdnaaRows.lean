/-
  No cell of these rows narrows 'for every input' (looked for: loops, veiled, ifaces, maps, wideKeys, modest, calm, conditions, laid).
  DERIVED. THE GIVEN ROWS OF THIS SEAT. 6 by the template 'for every input the law returns true; each argument reads behind the call as it read before'; 0 by the template 'total and deterministic' (their statements: YthflpnahifpdnaaTotals.lean).
  GIVEN WITH THE SEED: the statements are not yours to turn. If you find one false, say at which input.
  Laid BY PROGRAM, IN A SANDBOX (cutbox-rows.mjs): the forced cells as the released guide's own fill.sh prints them over the translation 5edea44a7a81a185… (all of the seat's roots in one cut). By AI agents, Wed Nov 11 2026. No macro, syntax, notation, axiom, sorry.
-/
import Derived.Test.YthflpnahifpdnaaChecked
import GoSem.Claim
import GoSem.ClaimJoined
import GoSem.ClaimMapViews
import Derived.JoinedTies
import Derived.KernelRfl
namespace Go.Proofs.Ythflpnahifpdnaa
/- THE CELL 'sum', in the pinned program and in every row, IS THE sha256 OF THE DUMP (.gsa) THAT YthflpnahifpdnaaProg.lean LOADS. Nothing in Lean hashes anything: it is a label: what it is worth is what the hold of that sum in a sandbox is worth. -/
noncomputable def Try.pinned : Pinned := { name := "ythflpnahifpdnaa", sum := "5edea44a7a81a1850702c5df06ba619de1c7aa3148b457c48b5fc4c7a8defe5b", checked := Try.checked }
namespace Rows
def none {H : Type} : Left H := { results := [], args := [] }

/-- 'junctionlaw6.SafetyTimes': WHATEVER THE INPUT: true; the input reads as it did. -/
def safetyTimesSpec : ChangeSpec := { name := "safetyTimes", fn := fun _ => fun
  | [d1, d2, d3] => { results := [.lit (.bool true)], args := [d1, d2, d3] }
  | _ => none }
def safetyTimesRow : OpenClaim := { program := "ythflpnahifpdnaa", sum := "5edea44a7a81a1850702c5df06ba619de1c7aa3148b457c48b5fc4c7a8defe5b", func := "junction/junctionlaw6.SafetyTimes", spec := "safetyTimes", unfollowed := true, recurses := true, plainKeys := false, apart := false }
def SafetyTimesSaid : Prop := safetyTimesRow.holds Try.pinned (OpenSpec.ofChange safetyTimesSpec)

/-- ITS FALSE NEIGHBOUR: 'it returns false'. Refute it at one input. -/
def safetyTimesWrong : ChangeSpec := { name := "safetyTimes", fn := fun _ => fun
  | [d1, d2, d3] => { results := [.lit (.bool false)], args := [d1, d2, d3] }
  | _ => none }
def SafetyTimesWrongFalsely : Prop := safetyTimesRow.holds Try.pinned (OpenSpec.ofChange safetyTimesWrong)

/-- 'junctionlaw6.SafetyMoves': WHATEVER THE INPUT: true; the input reads as it did. -/
def safetyMovesSpec : ChangeSpec := { name := "safetyMoves", fn := fun _ => fun
  | [d1, d2, d3] => { results := [.lit (.bool true)], args := [d1, d2, d3] }
  | _ => none }
def safetyMovesRow : OpenClaim := { program := "ythflpnahifpdnaa", sum := "5edea44a7a81a1850702c5df06ba619de1c7aa3148b457c48b5fc4c7a8defe5b", func := "junction/junctionlaw6.SafetyMoves", spec := "safetyMoves", unfollowed := true, recurses := true, plainKeys := false, apart := false }
def SafetyMovesSaid : Prop := safetyMovesRow.holds Try.pinned (OpenSpec.ofChange safetyMovesSpec)

/-- ITS FALSE NEIGHBOUR: 'it returns false'. Refute it at one input. -/
def safetyMovesWrong : ChangeSpec := { name := "safetyMoves", fn := fun _ => fun
  | [d1, d2, d3] => { results := [.lit (.bool false)], args := [d1, d2, d3] }
  | _ => none }
def SafetyMovesWrongFalsely : Prop := safetyMovesRow.holds Try.pinned (OpenSpec.ofChange safetyMovesWrong)

/-- 'junctionlaw7.HeadsApart': WHATEVER THE INPUT: true; the input reads as it did. -/
def headsApartSpec : ChangeSpec := { name := "headsApart", fn := fun _ => fun
  | [d1, d2, d3, d4] => { results := [.lit (.bool true)], args := [d1, d2, d3, d4] }
  | _ => none }
def headsApartRow : OpenClaim := { program := "ythflpnahifpdnaa", sum := "5edea44a7a81a1850702c5df06ba619de1c7aa3148b457c48b5fc4c7a8defe5b", func := "junction/junctionlaw7.HeadsApart", spec := "headsApart", unfollowed := true, recurses := true, plainKeys := false, apart := false }
def HeadsApartSaid : Prop := headsApartRow.holds Try.pinned (OpenSpec.ofChange headsApartSpec)

/-- ITS FALSE NEIGHBOUR: 'it returns false'. Refute it at one input. -/
def headsApartWrong : ChangeSpec := { name := "headsApart", fn := fun _ => fun
  | [d1, d2, d3, d4] => { results := [.lit (.bool false)], args := [d1, d2, d3, d4] }
  | _ => none }
def HeadsApartWrongFalsely : Prop := headsApartRow.holds Try.pinned (OpenSpec.ofChange headsApartWrong)

/-- 'junctionlaw7.HeadsKept': WHATEVER THE INPUT: true; the input reads as it did. -/
def headsKeptSpec : ChangeSpec := { name := "headsKept", fn := fun _ => fun
  | [d1, d2, d3] => { results := [.lit (.bool true)], args := [d1, d2, d3] }
  | _ => none }
def headsKeptRow : OpenClaim := { program := "ythflpnahifpdnaa", sum := "5edea44a7a81a1850702c5df06ba619de1c7aa3148b457c48b5fc4c7a8defe5b", func := "junction/junctionlaw7.HeadsKept", spec := "headsKept", unfollowed := true, recurses := true, plainKeys := false, apart := false }
def HeadsKeptSaid : Prop := headsKeptRow.holds Try.pinned (OpenSpec.ofChange headsKeptSpec)

/-- ITS FALSE NEIGHBOUR: 'it returns false'. Refute it at one input. -/
def headsKeptWrong : ChangeSpec := { name := "headsKept", fn := fun _ => fun
  | [d1, d2, d3] => { results := [.lit (.bool false)], args := [d1, d2, d3] }
  | _ => none }
def HeadsKeptWrongFalsely : Prop := headsKeptRow.holds Try.pinned (OpenSpec.ofChange headsKeptWrong)

/-- 'junctionlaw7.HeadsSeam': WHATEVER THE INPUT: true; the input reads as it did. -/
def headsSeamSpec : ChangeSpec := { name := "headsSeam", fn := fun _ => fun
  | [d1, d2, d3] => { results := [.lit (.bool true)], args := [d1, d2, d3] }
  | _ => none }
def headsSeamRow : OpenClaim := { program := "ythflpnahifpdnaa", sum := "5edea44a7a81a1850702c5df06ba619de1c7aa3148b457c48b5fc4c7a8defe5b", func := "junction/junctionlaw7.HeadsSeam", spec := "headsSeam", unfollowed := true, recurses := true, plainKeys := false, apart := false }
def HeadsSeamSaid : Prop := headsSeamRow.holds Try.pinned (OpenSpec.ofChange headsSeamSpec)

/-- ITS FALSE NEIGHBOUR: 'it returns false'. Refute it at one input. -/
def headsSeamWrong : ChangeSpec := { name := "headsSeam", fn := fun _ => fun
  | [d1, d2, d3] => { results := [.lit (.bool false)], args := [d1, d2, d3] }
  | _ => none }
def HeadsSeamWrongFalsely : Prop := headsSeamRow.holds Try.pinned (OpenSpec.ofChange headsSeamWrong)

/-- 'junctionlaw7.HeadsSettle': WHATEVER THE INPUT: true; the input reads as it did. -/
def headsSettleSpec : ChangeSpec := { name := "headsSettle", fn := fun _ => fun
  | [d1, d2, d3] => { results := [.lit (.bool true)], args := [d1, d2, d3] }
  | _ => none }
def headsSettleRow : OpenClaim := { program := "ythflpnahifpdnaa", sum := "5edea44a7a81a1850702c5df06ba619de1c7aa3148b457c48b5fc4c7a8defe5b", func := "junction/junctionlaw7.HeadsSettle", spec := "headsSettle", unfollowed := true, recurses := true, plainKeys := false, apart := false }
def HeadsSettleSaid : Prop := headsSettleRow.holds Try.pinned (OpenSpec.ofChange headsSettleSpec)

/-- ITS FALSE NEIGHBOUR: 'it returns false'. Refute it at one input. -/
def headsSettleWrong : ChangeSpec := { name := "headsSettle", fn := fun _ => fun
  | [d1, d2, d3] => { results := [.lit (.bool false)], args := [d1, d2, d3] }
  | _ => none }
def HeadsSettleWrongFalsely : Prop := headsSettleRow.holds Try.pinned (OpenSpec.ofChange headsSettleWrong)

/- THE SECOND FORM. 'bulk': how many values and letters a reading holds, each counted each time it is reached (what is shared counts as often as it is met; a slice's spare places count too). A statement '..UptoSaid' is the law's where the arguments, and the package variables that the reading takes, are together of bulk at most 1048576: NARROWER than '..Said'. Prove '..Said' where nothing that the law and all that it calls make is longer than what came in: it says more and counts as full. Else prove '..UptoSaid'. A law counts once. -/
mutual
def uptoBulk {H : Type} : DataW H → Nat
  | .lit (.string bytes) => bytes.length + 1
  | .lit _ => 1
  | .nil => 1
  | .ptr d => uptoBulk d + 1
  | .slice elems spare => uptoBulkAll elems + uptoBulkAll spare + 1
  | .agg parts => uptoBulkAll parts + 1
  | .iface _ d => uptoBulk d + 1
  | .map entries => uptoBulkEntries entries + 1
  | .held _ => 1
def uptoBulkAll {H : Type} : List (DataW H) → Nat
  | [] => 0
  | d :: r => uptoBulk d + uptoBulkAll r
def uptoBulkEntries {H : Type} : List (Lit × DataW H) → Nat
  | [] => 0
  | x :: r => uptoBulkEntry x + uptoBulkEntries r
def uptoBulkEntry {H : Type} : Lit × DataW H → Nat
  | (.string bytes, d) => bytes.length + uptoBulk d + 1
  | (_, d) => uptoBulk d + 1
 end
def uptoSmall : (H : Type) → List (DataW H) → Bool := fun _ ds => decide (uptoBulkAll ds ≤ 1048576)
def OpenSpec.upto (s : _root_.Go.ChangeSpec) : _root_.Go.OpenSpec := { _root_.Go.OpenSpec.ofChange s with cond := some uptoSmall }

/-- 'junctionlaw6.SafetyTimes', WHERE WHAT IT READS IS OF BULK AT MOST 1048576: true; the input reads as it did. -/
def safetyTimesUptoRow : OpenClaim := { program := "ythflpnahifpdnaa", sum := "5edea44a7a81a1850702c5df06ba619de1c7aa3148b457c48b5fc4c7a8defe5b", func := "junction/junctionlaw6.SafetyTimes", spec := "safetyTimes", unfollowed := true, recurses := true, plainKeys := false, apart := false, narrowed := true }
def SafetyTimesUptoSaid : Prop := safetyTimesUptoRow.holds Try.pinned (OpenSpec.upto safetyTimesSpec)

/-- 'junctionlaw6.SafetyMoves', WHERE WHAT IT READS IS OF BULK AT MOST 1048576: true; the input reads as it did. -/
def safetyMovesUptoRow : OpenClaim := { program := "ythflpnahifpdnaa", sum := "5edea44a7a81a1850702c5df06ba619de1c7aa3148b457c48b5fc4c7a8defe5b", func := "junction/junctionlaw6.SafetyMoves", spec := "safetyMoves", unfollowed := true, recurses := true, plainKeys := false, apart := false, narrowed := true }
def SafetyMovesUptoSaid : Prop := safetyMovesUptoRow.holds Try.pinned (OpenSpec.upto safetyMovesSpec)

/-- 'junctionlaw7.HeadsApart', WHERE WHAT IT READS IS OF BULK AT MOST 1048576: true; the input reads as it did. -/
def headsApartUptoRow : OpenClaim := { program := "ythflpnahifpdnaa", sum := "5edea44a7a81a1850702c5df06ba619de1c7aa3148b457c48b5fc4c7a8defe5b", func := "junction/junctionlaw7.HeadsApart", spec := "headsApart", unfollowed := true, recurses := true, plainKeys := false, apart := false, narrowed := true }
def HeadsApartUptoSaid : Prop := headsApartUptoRow.holds Try.pinned (OpenSpec.upto headsApartSpec)

/-- 'junctionlaw7.HeadsKept', WHERE WHAT IT READS IS OF BULK AT MOST 1048576: true; the input reads as it did. -/
def headsKeptUptoRow : OpenClaim := { program := "ythflpnahifpdnaa", sum := "5edea44a7a81a1850702c5df06ba619de1c7aa3148b457c48b5fc4c7a8defe5b", func := "junction/junctionlaw7.HeadsKept", spec := "headsKept", unfollowed := true, recurses := true, plainKeys := false, apart := false, narrowed := true }
def HeadsKeptUptoSaid : Prop := headsKeptUptoRow.holds Try.pinned (OpenSpec.upto headsKeptSpec)

/-- 'junctionlaw7.HeadsSeam', WHERE WHAT IT READS IS OF BULK AT MOST 1048576: true; the input reads as it did. -/
def headsSeamUptoRow : OpenClaim := { program := "ythflpnahifpdnaa", sum := "5edea44a7a81a1850702c5df06ba619de1c7aa3148b457c48b5fc4c7a8defe5b", func := "junction/junctionlaw7.HeadsSeam", spec := "headsSeam", unfollowed := true, recurses := true, plainKeys := false, apart := false, narrowed := true }
def HeadsSeamUptoSaid : Prop := headsSeamUptoRow.holds Try.pinned (OpenSpec.upto headsSeamSpec)

/-- 'junctionlaw7.HeadsSettle', WHERE WHAT IT READS IS OF BULK AT MOST 1048576: true; the input reads as it did. -/
def headsSettleUptoRow : OpenClaim := { program := "ythflpnahifpdnaa", sum := "5edea44a7a81a1850702c5df06ba619de1c7aa3148b457c48b5fc4c7a8defe5b", func := "junction/junctionlaw7.HeadsSettle", spec := "headsSettle", unfollowed := true, recurses := true, plainKeys := false, apart := false, narrowed := true }
def HeadsSettleUptoSaid : Prop := headsSettleUptoRow.holds Try.pinned (OpenSpec.upto headsSettleSpec)

end Rows
end Go.Proofs.Ythflpnahifpdnaa
