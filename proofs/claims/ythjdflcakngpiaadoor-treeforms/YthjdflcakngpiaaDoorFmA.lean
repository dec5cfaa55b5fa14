import Derived.Test.YthjdflcakngpiaaDoorFmM
namespace Go.Proofs.YthjdflcakngpiaaDoor
open Go.RowKit
set_option linter.unusedVariables false

set_option maxRecDepth 100000 in
set_option maxHeartbeats 4000000 in
theorem isName_any (s : ByteArray) (w : World) (hs : Sm s) (t : Tb w) :
    Calls Tryd.prog 16 #[.string s] w fun e w' => e = .returned (.bool (nmB s)) ∧ Below w.heap.size w w' := by
  have hK := fun (X : World) (t : Tb X) => kindOf_any s X hs t.wt
  unfold nmB
  generalize kindL s.data.toList = K at *
  go_enter Tryd.func16, Tryd.ntmps16
  go_wp2_with (go_at_call 26; (with_reducible refine Calls.mono (hK _ t) ?_); rintro e w1 ⟨rfl, hb1⟩)
  go_ret
  exact ⟨rfl, hb1⟩
set_option maxRecDepth 100000 in
set_option maxHeartbeats 4000000 in
theorem refName_any (s : ByteArray) (w : World) (hs : Sm s) (t : Tb w) :
    Calls Tryd.prog 20 #[.string s] w fun e w' => e = .returned (.bool (nmB s)) ∧ Below w.heap.size w w' := by
  have hK := fun (X : World) (t : Tb X) => refKindOf_any s X hs t.kt t.st
  unfold nmB
  generalize kindL s.data.toList = K at *
  go_enter Tryd.func20, Tryd.ntmps20
  go_wp2_with (go_at_call 35; (with_reducible refine Calls.mono (hK _ t) ?_); rintro e w1 ⟨rfl, hb1⟩)
  go_ret
  exact ⟨rfl, hb1⟩
end Go.Proofs.YthjdflcakngpiaaDoor
