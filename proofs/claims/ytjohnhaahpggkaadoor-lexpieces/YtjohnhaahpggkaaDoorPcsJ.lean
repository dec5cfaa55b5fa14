import Derived.Test.YtjohnhaahpggkaaDoorPcsF
import Derived.Laws.IdiomStrings
namespace Go.Proofs.YtjohnhaahpggkaaDoor
open Go.RowKit
set_option linter.unusedVariables false
set_option linter.unusedSimpArgs false

/-- Bytes that stand in a block. -/
structure Byt (w : World) (g : Nat) (l : List UInt8) : Prop where
  lt : g < w.heap.size
  cell : ∀ j (h : j < l.length), w.cell? ⟨g, j, none⟩ = some (.int .u8 (l[j].toNat : Int))
  fz : ∀ j, j < l.length → w.frozen? ⟨g, j, none⟩ = false
theorem Byt.blk {w w' : World} {g : Nat} {l : List UInt8} (h : Byt w g l) (hs : w.heap.size ≤ w'.heap.size) (hb : w'.heap[g]? = w.heap[g]?) : Byt w' g l :=
  ⟨Nat.lt_of_lt_of_le h.lt hs, fun j hj => (World.cell?_of_block (w := w) hb).trans (h.cell j hj), fun j hj => (World.frozen?_of_block (w := w) hb).trans (h.fz j hj)⟩
theorem Byt.drew {w : World} {g : Nat} {l : List UInt8} (h : Byt w g l) : Byt w.drew g l := h.blk (Nat.le_refl _) rfl
theorem Byt.far {w : World} {g : Nat} {l : List UInt8} (h : Byt w g l) {c i : Nat} (hc : g ≠ c) (v : Value) : Byt (w.setCell ⟨c, i, none⟩ v) g l :=
  h.blk (by simp [World.setCell]) (Below.heap_setCell _ _ _ _ hc)
theorem Byt.set {w : World} {g : Nat} {l : List UInt8} (h : Byt w g l) (k : Nat) (hk : k < l.length) (c : UInt8) (x : Int) (hx : (c.toNat : Int) = x) : Byt (w.setCell ⟨g, k, none⟩ (.int .u8 x)) g (l.set k c) := by
  subst hx
  refine ⟨by have := h.lt; simpa [World.setCell] using this, fun j hj => ?_, fun j hj => ?_⟩
  · have hj' : j < l.length := by simpa using hj
    by_cases e : j = k
    · subst e
      rw [List.getElem_set_self]
      exact World.cell?_setCell_same _ _ _ (h.cell j hj')
    · rw [List.getElem_set_ne (by omega), World.cell?_setCell_other _ _ _ _ (by intro h; injection h with _ h; exact e h.symm)]
      exact h.cell j hj'
  · rw [List.length_set] at hj
    rw [World.frozen?_setCell]; exact h.fz j hj
theorem Byt.conv {w : World} {g n cap : Nat} {l : List UInt8} (h : Byt w g l) (hn : n = l.length) : (convert 65 9 (.slice (some ⟨g, 0, none⟩) n cap)).run Tryd.prog w = .ok (.string (bs l)) w := by
  subst hn
  refine run_convert_bytes_back w 65 9 5 ⟨g, 0, none⟩ cap l und65 und5 und9 (fun j hj => ?_)
  rw [Go.WideShapes.add_plain, Nat.zero_add]
  exact h.cell j hj
theorem byt_new (w : World) (s : ByteArray) (cap : Nat) (fr : Nat) (hf : s.size ≤ fr) : Byt (w.alloc (.cells (bytesRow s cap) 5 (fr, fr + 1))) w.heap.size s.data.toList := by
  have hh : (w.alloc (.cells (bytesRow s cap) 5 (fr, fr + 1))).heap[w.heap.size]? = some (.cells (bytesRow s cap) 5 (fr, fr + 1)) := heap_alloc_new w _
  have hl : s.data.toList.length = s.size := rfl
  refine ⟨by simp, fun j hj => ?_, fun j hj => ?_⟩
  · simp only [World.cell?, hh]
    have hj2 : j < s.data.size := by simpa using hj
    unfold bytesRow
    have hj3 : j < s.size := hj2
    simp [Array.getElem?_append, hj3, hj2]
  · simp only [World.frozen?, hh]
    simp
    omega
end Go.Proofs.YtjohnhaahpggkaaDoor
