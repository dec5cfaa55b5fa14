/-
  No cell of these rows narrows 'for every input' (looked for: loops, veiled, ifaces, maps, wideKeys, modest, calm, conditions, laid).
  DERIVED. THE GIVEN ROWS OF THIS SEAT. 2 by the template 'for every input the law returns true; each argument reads behind the call as it read before'; 0 by the template 'total and deterministic' (their statements: YtjocedfdpigjcaaTotals.lean).
  GIVEN WITH THE SEED: the statements are not yours to turn. If you find one false, say at which input.
  Laid BY PROGRAM, IN A SANDBOX (cutbox-rows.mjs): the forced cells as the released guide's own fill.sh prints them over the translation 2224162f5c78f036… (all of the seat's roots in one cut). By AI agents, Wed Nov 11 2026. No macro, syntax, notation, axiom, sorry.
-/
import Derived.Test.YtjocedfdpigjcaaChecked
import GoSem.Claim
import GoSem.ClaimJoined
import GoSem.ClaimMapViews
import Derived.JoinedTies
import Derived.KernelRfl
namespace Go.Proofs.Ytjocedfdpigjcaa
/- THE CELL 'sum', in the pinned program and in every row, IS THE sha256 OF THE DUMP (.gsa) THAT YtjocedfdpigjcaaProg.lean LOADS. Nothing in Lean hashes anything: it is a label: what it is worth is what the hold of that sum in a sandbox is worth. -/
noncomputable def Try.pinned : Pinned := { name := "ytjocedfdpigjcaa", sum := "2224162f5c78f03602115e1bf3614e0caecb9404e25c36764532c6099d53894f", checked := Try.checked }
namespace Rows
def none {H : Type} : Left H := { results := [], args := [] }

/-- 'junctionlaw18.TableWeeks': WHATEVER THE INPUT: true; the input reads as it did. -/
def tableWeeksSpec : ChangeSpec := { name := "tableWeeks", fn := fun _ => fun
  | [d1, d2] => { results := [.lit (.bool true)], args := [d1, d2] }
  | _ => none }
def tableWeeksRow : OpenClaim := { program := "ytjocedfdpigjcaa", sum := "2224162f5c78f03602115e1bf3614e0caecb9404e25c36764532c6099d53894f", func := "junction/junctionlaw18.TableWeeks", spec := "tableWeeks", unfollowed := true, recurses := true, apart := false }
def TableWeeksSaid : Prop := tableWeeksRow.holds Try.pinned (OpenSpec.ofChange tableWeeksSpec)

/-- ITS FALSE NEIGHBOUR: 'it returns false'. Refute it at one input. -/
def tableWeeksWrong : ChangeSpec := { name := "tableWeeks", fn := fun _ => fun
  | [d1, d2] => { results := [.lit (.bool false)], args := [d1, d2] }
  | _ => none }
def TableWeeksWrongFalsely : Prop := tableWeeksRow.holds Try.pinned (OpenSpec.ofChange tableWeeksWrong)

/-- 'junctionlaw18.TableAts': WHATEVER THE INPUT: true; the input reads as it did. -/
def tableAtsSpec : ChangeSpec := { name := "tableAts", fn := fun _ => fun
  | [d1, d2, d3] => { results := [.lit (.bool true)], args := [d1, d2, d3] }
  | _ => none }
def tableAtsRow : OpenClaim := { program := "ytjocedfdpigjcaa", sum := "2224162f5c78f03602115e1bf3614e0caecb9404e25c36764532c6099d53894f", func := "junction/junctionlaw18.TableAts", spec := "tableAts", unfollowed := true, recurses := true, apart := false }
def TableAtsSaid : Prop := tableAtsRow.holds Try.pinned (OpenSpec.ofChange tableAtsSpec)

/-- ITS FALSE NEIGHBOUR: 'it returns false'. Refute it at one input. -/
def tableAtsWrong : ChangeSpec := { name := "tableAts", fn := fun _ => fun
  | [d1, d2, d3] => { results := [.lit (.bool false)], args := [d1, d2, d3] }
  | _ => none }
def TableAtsWrongFalsely : Prop := tableAtsRow.holds Try.pinned (OpenSpec.ofChange tableAtsWrong)

/- THE SECOND FORM. 'bulk': how many values and letters a reading holds, each counted each time it is reached (what is shared counts as often as it is met; a slice's spare places count too). A statement '..UptoSaid' is the law's where the arguments, and the package variables that the reading takes, are together of bulk at most 1048576: NARROWER than '..Said'. Prove '..Said' where nothing that the law and all that it calls make is longer than what came in: it says more and counts as full. Else prove '..UptoSaid'. A law counts once. -/
mutual
def uptoBulk {H : Type} : DataW H → Nat
  | .lit (.string bytes) => bytes.length + 1
  | .lit _ => 1
  | .nil => 1
  | .ptr d => uptoBulk d + 1
  | .slice elems spare => uptoBulkAll elems + uptoBulkAll spare + 1
  | .agg parts => uptoBulkAll parts + 1
  | .iface _ d => uptoBulk d + 1
  | .map entries => uptoBulkEntries entries + 1
  | .held _ => 1
def uptoBulkAll {H : Type} : List (DataW H) → Nat
  | [] => 0
  | d :: r => uptoBulk d + uptoBulkAll r
def uptoBulkEntries {H : Type} : List (Lit × DataW H) → Nat
  | [] => 0
  | x :: r => uptoBulkEntry x + uptoBulkEntries r
def uptoBulkEntry {H : Type} : Lit × DataW H → Nat
  | (.string bytes, d) => bytes.length + uptoBulk d + 1
  | (_, d) => uptoBulk d + 1
 end
def uptoSmall : (H : Type) → List (DataW H) → Bool := fun _ ds => decide (uptoBulkAll ds ≤ 1048576)
def OpenSpec.upto (s : _root_.Go.ChangeSpec) : _root_.Go.OpenSpec := { _root_.Go.OpenSpec.ofChange s with cond := some uptoSmall }

/-- 'junctionlaw18.TableWeeks', WHERE WHAT IT READS IS OF BULK AT MOST 1048576: true; the input reads as it did. -/
def tableWeeksUptoRow : OpenClaim := { program := "ytjocedfdpigjcaa", sum := "2224162f5c78f03602115e1bf3614e0caecb9404e25c36764532c6099d53894f", func := "junction/junctionlaw18.TableWeeks", spec := "tableWeeks", unfollowed := true, recurses := true, apart := false, narrowed := true }
def TableWeeksUptoSaid : Prop := tableWeeksUptoRow.holds Try.pinned (OpenSpec.upto tableWeeksSpec)

/-- 'junctionlaw18.TableAts', WHERE WHAT IT READS IS OF BULK AT MOST 1048576: true; the input reads as it did. -/
def tableAtsUptoRow : OpenClaim := { program := "ytjocedfdpigjcaa", sum := "2224162f5c78f03602115e1bf3614e0caecb9404e25c36764532c6099d53894f", func := "junction/junctionlaw18.TableAts", spec := "tableAts", unfollowed := true, recurses := true, apart := false, narrowed := true }
def TableAtsUptoSaid : Prop := tableAtsUptoRow.holds Try.pinned (OpenSpec.upto tableAtsSpec)

end Rows
end Go.Proofs.Ytjocedfdpigjcaa
