import Derived.Test.YtcehnibfmhbeiaaAct
import Derived.Test.YtcehnibfmhbeiaaWalksC
import Derived.Deep.LoopGhost
import Derived.Deep.CutRange
import Derived.Deep.RegionWith
import Derived.Deep.Light
namespace Go.Proofs.Ytcehnibfmhbeiaa
open Go.RowKit
set_option linter.unusedVariables false

/-- Block b holds just these cells, and may be written. -/
def Has (w : World) (b : Nat) (vs : Array Value) : Prop := b < w.heap.size ∧ (∀ i, w.cell? ⟨b, i, none⟩ = vs[i]?) ∧ ∀ i, w.frozen? ⟨b, i, none⟩ = false
theorem Has.below {w w' : World} {b : Nat} {vs : Array Value} (h : Has w b vs) (hb : Below w.heap.size w w') : Has w' b vs :=
  ⟨Nat.lt_of_lt_of_le h.1 hb.size, fun i => (hb.cell (p := ⟨b, i, none⟩) h.1).trans (h.2.1 i), fun i => (hb.frozen (p := ⟨b, i, none⟩) h.1).trans (h.2.2 i)⟩
theorem Has.alloc {w : World} {b : Nat} {vs : Array Value} (h : Has w b vs) (o : Obj) : Has (w.alloc o) b vs :=
  h.below ((Below.refl _ _).alloc (Nat.le_refl _) _)
theorem Has.drew {w : World} {b : Nat} {vs : Array Value} (h : Has w b vs) : Has w.drew b vs := h
theorem Has.new (w : World) (vs : Array Value) (t : TypeId) {b : Nat} (hb : b = w.heap.size) : Has (w.alloc (.cells vs t)) b vs :=
  ⟨by simp [hb], fun i => by simp [hb], fun i => World.frozen?_alloc_at _ _ _ _ hb⟩
theorem bel_after {w W w1 : World} {B : Nat} (h : Below B w W) (hB : B ≤ W.heap.size) (hb : Below W.heap.size W w1) : Below B w w1 := h.trans (hb.mono hB)
theorem Has.far {w : World} {b : Nat} {vs : Array Value} (h : Has w b vs) {c i : Nat} (hc : b ≠ c) (v : Value) : Has (w.setCell ⟨c, i, none⟩ v) b vs :=
  ⟨by simpa [World.setCell] using h.1, fun j => (World.cell?_setCell_other w ⟨c, i, none⟩ ⟨b, j, none⟩ v (by intro e; exact hc (congrArg Addr.block e).symm)).trans (h.2.1 j), fun j => by rw [World.frozen?_setCell]; exact h.2.2 j⟩
theorem Has.set {w : World} {b : Nat} {vs : Array Value} (h : Has w b vs) (i : Nat) (hi : i < vs.size) (v : Value) : Has (w.setCell ⟨b, i, none⟩ v) b (vs.setIfInBounds i v) :=
  ⟨by simpa [World.setCell] using h.1, fun j => by
    by_cases e : i = j
    · subst e
      rw [World.cell?_setCell_same w ⟨b, i, none⟩ v (u := vs[i]) (by rw [h.2.1 i]; simp [hi])]
      simp [hi]
    · rw [World.cell?_setCell_other w ⟨b, i, none⟩ ⟨b, j, none⟩ v (by intro h'; exact e (congrArg Addr.off h')), h.2.1 j]
      simp [e], fun j => by rw [World.frozen?_setCell]; exact h.2.2 j⟩
theorem Has.set4 {w : World} {b : Nat} {x0 x1 x2 x3 : Value} (h : Has w b #[x0, x1, x2, x3]) (y0 y1 y2 y3 : Value) :
    Has ((((w.setCell ⟨b, 0, none⟩ y0).setCell ⟨b, 1, none⟩ y1).setCell ⟨b, 2, none⟩ y2).setCell ⟨b, 3, none⟩ y3) b #[y0, y1, y2, y3] :=
  (((h.set 0 (by simp) y0).set 1 (by simp) y1).set 2 (by simp) y2).set 3 (by simp) y3
end Go.Proofs.Ytcehnibfmhbeiaa
