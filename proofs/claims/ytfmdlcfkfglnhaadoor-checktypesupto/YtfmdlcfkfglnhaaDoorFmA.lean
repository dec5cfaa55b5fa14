import Derived.Test.YtfmdlcfkfglnhaaDoorFmM
namespace Go.Proofs.YtfmdlcfkfglnhaaDoor
open Go.RowKit
set_option linter.unusedVariables false

set_option maxRecDepth 100000 in
set_option maxHeartbeats 4000000 in
theorem isName_any (s : ByteArray) (w : World) (hs : Sm s) (t : Tb w) :
    Calls Tryd.prog 31 #[.string s] w fun e w' => e = .returned (.bool (nmB s)) ∧ Below w.heap.size w w' := by
  have hK := fun (X : World) (t : Tb X) => kindOf_any s X hs t.wt
  unfold nmB
  generalize kindL s.data.toList = K at *
  go_enter Tryd.func31, Tryd.ntmps31
  go_wp2_with (go_at_call 43; (with_reducible refine Calls.mono (hK _ t) ?_); rintro e w1 ⟨rfl, hb1⟩)
  go_ret
  exact ⟨rfl, hb1⟩
set_option maxRecDepth 100000 in
set_option maxHeartbeats 4000000 in
theorem refName_any (s : ByteArray) (w : World) (hs : Sm s) (t : Tb w) :
    Calls Tryd.prog 40 #[.string s] w fun e w' => e = .returned (.bool (nmB s)) ∧ Below w.heap.size w w' := by
  have hK := fun (X : World) (t : Tb X) => refKindOf_any s X hs t.kt t.st
  unfold nmB
  generalize kindL s.data.toList = K at *
  go_enter Tryd.func40, Tryd.ntmps40
  go_wp2_with (go_at_call 46; (with_reducible refine Calls.mono (hK _ t) ?_); rintro e w1 ⟨rfl, hb1⟩)
  go_ret
  exact ⟨rfl, hb1⟩
end Go.Proofs.YtfmdlcfkfglnhaaDoor
