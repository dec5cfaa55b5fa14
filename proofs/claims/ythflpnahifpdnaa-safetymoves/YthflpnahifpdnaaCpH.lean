import Derived.Test.YthflpnahifpdnaaHdA
import Derived.Deep.RegionHeld3
namespace Go.Proofs.Ythflpnahifpdnaa
open Go.RowKit
set_option linter.unusedVariables false


theorem info3' : (Try.prog.info? 3).map (fun i => (i.zero, i.size, i.bytes)) = some (some (.int .i64 0), 1, 8) := by kernel_rfl
theorem info21 : (Try.prog.info? 21).map (fun i => (i.zero, i.size, i.bytes)) = some (some (.int .i32 0), 1, 4) := by kernel_rfl
/-- Three lists in memory of their own. -/
structure CpH (B : Nat) (w : World) (v1 v2 v3 : Value) (A I W : List Int) : Prop where
  a : w.ownsRow B 3 1 v1 A.length (cellsF n64 A)
  i : w.ownsRow B 21 1 v2 I.length (cellsF n32 I)
  w : w.ownsRow B 21 1 v3 W.length (cellsF n32 W)
  ai : ∀ q, v1.ownBlock = some q → v2.ownBlock ≠ some q
  aw : ∀ q, v1.ownBlock = some q → v3.ownBlock ≠ some q
  iw : ∀ q, v2.ownBlock = some q → v3.ownBlock ≠ some q
end Go.Proofs.Ythflpnahifpdnaa
