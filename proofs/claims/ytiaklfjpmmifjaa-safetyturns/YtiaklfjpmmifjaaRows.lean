/-
  No cell of these rows narrows 'for every input' (looked for: loops, veiled, ifaces, maps, wideKeys, modest, calm, conditions, laid).
  DERIVED. THE GIVEN ROWS OF THIS SEAT. 4 by the template 'for every input the law returns true; each argument reads behind the call as it read before'; 0 by the template 'total and deterministic' (their statements: YtiaklfjpmmifjaaTotals.lean).
  GIVEN WITH THE SEED: the statements are not yours to turn. If you find one false, say at which input.
  Laid BY PROGRAM, IN A SANDBOX (cutbox-rows.mjs): the forced cells as the released guide's own fill.sh prints them over the translation 50e74b1bc1152fd3… (all of the seat's roots in one cut). By AI agents, Wed Nov 11 2026. No macro, syntax, notation, axiom, sorry.
-/
import Derived.Test.YtiaklfjpmmifjaaChecked
import GoSem.Claim
import GoSem.ClaimJoined
import GoSem.ClaimMapViews
import Derived.JoinedTies
import Derived.KernelRfl
namespace Go.Proofs.Ytiaklfjpmmifjaa
/- THE CELL 'sum', in the pinned program and in every row, IS THE sha256 OF THE DUMP (.gsa) THAT YtiaklfjpmmifjaaProg.lean LOADS. Nothing in Lean hashes anything: it is a label: what it is worth is what the hold of that sum in a sandbox is worth. -/
noncomputable def Try.pinned : Pinned := { name := "ytiaklfjpmmifjaa", sum := "50e74b1bc1152fd3bb0b81a82ed589a45f923f5ca5e1c68d54257582566133ef", checked := Try.checked }
namespace Rows
def none {H : Type} : Left H := { results := [], args := [] }

/-- 'junctionlaw6.SafetyInters': WHATEVER THE INPUT: true; the input reads as it did. -/
def safetyIntersSpec : ChangeSpec := { name := "safetyInters", fn := fun _ => fun
  | [d1, d2, d3] => { results := [.lit (.bool true)], args := [d1, d2, d3] }
  | _ => none }
def safetyIntersRow : OpenClaim := { program := "ytiaklfjpmmifjaa", sum := "50e74b1bc1152fd3bb0b81a82ed589a45f923f5ca5e1c68d54257582566133ef", func := "junction/junctionlaw6.SafetyInters", spec := "safetyInters", plainKeys := false, apart := false }
def SafetyIntersSaid : Prop := safetyIntersRow.holds Try.pinned (OpenSpec.ofChange safetyIntersSpec)

/-- ITS FALSE NEIGHBOUR: 'it returns false'. Refute it at one input. -/
def safetyIntersWrong : ChangeSpec := { name := "safetyInters", fn := fun _ => fun
  | [d1, d2, d3] => { results := [.lit (.bool false)], args := [d1, d2, d3] }
  | _ => none }
def SafetyIntersWrongFalsely : Prop := safetyIntersRow.holds Try.pinned (OpenSpec.ofChange safetyIntersWrong)

/-- 'junctionlaw6.SafetyClashes': WHATEVER THE INPUT: true; the input reads as it did. -/
def safetyClashesSpec : ChangeSpec := { name := "safetyClashes", fn := fun _ => fun
  | [d1, d2] => { results := [.lit (.bool true)], args := [d1, d2] }
  | _ => none }
def safetyClashesRow : OpenClaim := { program := "ytiaklfjpmmifjaa", sum := "50e74b1bc1152fd3bb0b81a82ed589a45f923f5ca5e1c68d54257582566133ef", func := "junction/junctionlaw6.SafetyClashes", spec := "safetyClashes", plainKeys := false, apart := false }
def SafetyClashesSaid : Prop := safetyClashesRow.holds Try.pinned (OpenSpec.ofChange safetyClashesSpec)

/-- ITS FALSE NEIGHBOUR: 'it returns false'. Refute it at one input. -/
def safetyClashesWrong : ChangeSpec := { name := "safetyClashes", fn := fun _ => fun
  | [d1, d2] => { results := [.lit (.bool false)], args := [d1, d2] }
  | _ => none }
def SafetyClashesWrongFalsely : Prop := safetyClashesRow.holds Try.pinned (OpenSpec.ofChange safetyClashesWrong)

/-- 'junctionlaw6.SafetyTurns': WHATEVER THE INPUT: true; the input reads as it did. -/
def safetyTurnsSpec : ChangeSpec := { name := "safetyTurns", fn := fun _ => fun
  | [d1, d2, d3, d4, d5] => { results := [.lit (.bool true)], args := [d1, d2, d3, d4, d5] }
  | _ => none }
def safetyTurnsRow : OpenClaim := { program := "ytiaklfjpmmifjaa", sum := "50e74b1bc1152fd3bb0b81a82ed589a45f923f5ca5e1c68d54257582566133ef", func := "junction/junctionlaw6.SafetyTurns", spec := "safetyTurns", plainKeys := false, apart := false }
def SafetyTurnsSaid : Prop := safetyTurnsRow.holds Try.pinned (OpenSpec.ofChange safetyTurnsSpec)

/-- ITS FALSE NEIGHBOUR: 'it returns false'. Refute it at one input. -/
def safetyTurnsWrong : ChangeSpec := { name := "safetyTurns", fn := fun _ => fun
  | [d1, d2, d3, d4, d5] => { results := [.lit (.bool false)], args := [d1, d2, d3, d4, d5] }
  | _ => none }
def SafetyTurnsWrongFalsely : Prop := safetyTurnsRow.holds Try.pinned (OpenSpec.ofChange safetyTurnsWrong)

/-- 'junctionlaw6.SafetySpans': WHATEVER THE INPUT: true; the input reads as it did. -/
def safetySpansSpec : ChangeSpec := { name := "safetySpans", fn := fun _ => fun
  | [d1, d2, d3] => { results := [.lit (.bool true)], args := [d1, d2, d3] }
  | _ => none }
def safetySpansRow : OpenClaim := { program := "ytiaklfjpmmifjaa", sum := "50e74b1bc1152fd3bb0b81a82ed589a45f923f5ca5e1c68d54257582566133ef", func := "junction/junctionlaw6.SafetySpans", spec := "safetySpans", plainKeys := false, apart := false }
def SafetySpansSaid : Prop := safetySpansRow.holds Try.pinned (OpenSpec.ofChange safetySpansSpec)

/-- ITS FALSE NEIGHBOUR: 'it returns false'. Refute it at one input. -/
def safetySpansWrong : ChangeSpec := { name := "safetySpans", fn := fun _ => fun
  | [d1, d2, d3] => { results := [.lit (.bool false)], args := [d1, d2, d3] }
  | _ => none }
def SafetySpansWrongFalsely : Prop := safetySpansRow.holds Try.pinned (OpenSpec.ofChange safetySpansWrong)

/- THE SECOND FORM. 'bulk': how many values and letters a reading holds, each counted each time it is reached (what is shared counts as often as it is met; a slice's spare places count too). A statement '..UptoSaid' is the law's where the arguments, and the package variables that the reading takes, are together of bulk at most 1048576: NARROWER than '..Said'. Prove '..Said' where nothing that the law and all that it calls make is longer than what came in: it says more and counts as full. Else prove '..UptoSaid'. A law counts once. -/
mutual
def uptoBulk {H : Type} : DataW H → Nat
  | .lit (.string bytes) => bytes.length + 1
  | .lit _ => 1
  | .nil => 1
  | .ptr d => uptoBulk d + 1
  | .slice elems spare => uptoBulkAll elems + uptoBulkAll spare + 1
  | .agg parts => uptoBulkAll parts + 1
  | .iface _ d => uptoBulk d + 1
  | .map entries => uptoBulkEntries entries + 1
  | .held _ => 1
def uptoBulkAll {H : Type} : List (DataW H) → Nat
  | [] => 0
  | d :: r => uptoBulk d + uptoBulkAll r
def uptoBulkEntries {H : Type} : List (Lit × DataW H) → Nat
  | [] => 0
  | x :: r => uptoBulkEntry x + uptoBulkEntries r
def uptoBulkEntry {H : Type} : Lit × DataW H → Nat
  | (.string bytes, d) => bytes.length + uptoBulk d + 1
  | (_, d) => uptoBulk d + 1
 end
def uptoSmall : (H : Type) → List (DataW H) → Bool := fun _ ds => decide (uptoBulkAll ds ≤ 1048576)
def OpenSpec.upto (s : _root_.Go.ChangeSpec) : _root_.Go.OpenSpec := { _root_.Go.OpenSpec.ofChange s with cond := some uptoSmall }

/-- 'junctionlaw6.SafetyInters', WHERE WHAT IT READS IS OF BULK AT MOST 1048576: true; the input reads as it did. -/
def safetyIntersUptoRow : OpenClaim := { program := "ytiaklfjpmmifjaa", sum := "50e74b1bc1152fd3bb0b81a82ed589a45f923f5ca5e1c68d54257582566133ef", func := "junction/junctionlaw6.SafetyInters", spec := "safetyInters", plainKeys := false, apart := false, narrowed := true }
def SafetyIntersUptoSaid : Prop := safetyIntersUptoRow.holds Try.pinned (OpenSpec.upto safetyIntersSpec)

/-- 'junctionlaw6.SafetyClashes', WHERE WHAT IT READS IS OF BULK AT MOST 1048576: true; the input reads as it did. -/
def safetyClashesUptoRow : OpenClaim := { program := "ytiaklfjpmmifjaa", sum := "50e74b1bc1152fd3bb0b81a82ed589a45f923f5ca5e1c68d54257582566133ef", func := "junction/junctionlaw6.SafetyClashes", spec := "safetyClashes", plainKeys := false, apart := false, narrowed := true }
def SafetyClashesUptoSaid : Prop := safetyClashesUptoRow.holds Try.pinned (OpenSpec.upto safetyClashesSpec)

/-- 'junctionlaw6.SafetyTurns', WHERE WHAT IT READS IS OF BULK AT MOST 1048576: true; the input reads as it did. -/
def safetyTurnsUptoRow : OpenClaim := { program := "ytiaklfjpmmifjaa", sum := "50e74b1bc1152fd3bb0b81a82ed589a45f923f5ca5e1c68d54257582566133ef", func := "junction/junctionlaw6.SafetyTurns", spec := "safetyTurns", plainKeys := false, apart := false, narrowed := true }
def SafetyTurnsUptoSaid : Prop := safetyTurnsUptoRow.holds Try.pinned (OpenSpec.upto safetyTurnsSpec)

/-- 'junctionlaw6.SafetySpans', WHERE WHAT IT READS IS OF BULK AT MOST 1048576: true; the input reads as it did. -/
def safetySpansUptoRow : OpenClaim := { program := "ytiaklfjpmmifjaa", sum := "50e74b1bc1152fd3bb0b81a82ed589a45f923f5ca5e1c68d54257582566133ef", func := "junction/junctionlaw6.SafetySpans", spec := "safetySpans", plainKeys := false, apart := false, narrowed := true }
def SafetySpansUptoSaid : Prop := safetySpansUptoRow.holds Try.pinned (OpenSpec.upto safetySpansSpec)

end Rows
end Go.Proofs.Ytiaklfjpmmifjaa
