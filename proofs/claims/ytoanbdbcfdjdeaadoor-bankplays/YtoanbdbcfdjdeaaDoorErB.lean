import Derived.Test.YtoanbdbcfdjdeaaDoorErA
namespace Go.Proofs.YtoanbdbcfdjdeaaDoor
open Go.RowKit
set_option linter.unusedVariables false
set_option linter.unusedSimpArgs false


theorem belN1 {w : World} {o1 : Obj} : Below w.heap.size w (w.alloc o1) := (Below.refl _ _).alloc (Nat.le_refl _) _
/-- The errors of package bank stand, each in memory of its own, all of it below B. -/
structure Er (B : Nat) (w : World) (a : Nat → Addr) : Prop where
  low : 8 ≤ B
  size : B ≤ w.heap.size
  glob : ∀ i, i < 8 → w.cell? ⟨i, 0, none⟩ = some (.iface 79 (.pointer (some (a i))))
  ne : ∀ i j, i < 8 → j < 8 → i ≠ j → a i ≠ a j
  blk : ∀ i, i < 8 → (a i).block < B ∧ ∃ c t, w.heap[(a i).block]? = some (.cells c t (0, 0))
theorem Er.keep {B : Nat} {w w' : World} {a : Nat → Addr} (h : Er B w a) (hs : w.heap.size ≤ w'.heap.size) (hb : ∀ k, k < B → w'.heap[k]? = w.heap[k]?) : Er B w' a where
  low := h.low
  size := Nat.le_trans h.size hs
  glob := fun i hi => (World.cell?_of_block (a := ⟨i, 0, none⟩) (hb i (by have := h.low; omega))).trans (h.glob i hi)
  ne := h.ne
  blk := fun i hi => ⟨(h.blk i hi).1, by obtain ⟨c, t, e⟩ := (h.blk i hi).2; exact ⟨c, t, (hb _ (h.blk i hi).1).trans e⟩⟩
theorem Er.below {B : Nat} {w w' : World} {a : Nat → Addr} (h : Er B w a) (hb : Below w.heap.size w w') : Er B w' a := h.keep hb.size (fun k hk => hb.block k (Nat.lt_of_lt_of_le hk h.size))
theorem Er.isnt {B : Nat} {w : World} {a : Nat → Addr} (h : Er B w a) (i j : Nat) (hi : i < 8) (hj : j < 8) (hn : i ≠ j) :
    Calls Tryd.prog 24 #[.iface 79 (.pointer (some (a i))), .iface 79 (.pointer (some (a j)))] w fun e w' => e = .returned (.bool false) ∧ Below w.heap.size w w' := by
  obtain ⟨c, t, e⟩ := (h.blk i hi).2
  obtain ⟨c', t', e'⟩ := (h.blk j hj).2
  exact is_other (a i) (a j) c c' t t' w (h.ne i j hi hj hn) e e'
theorem Er.wrapnt {B : Nat} {w : World} {a : Nat → Addr} (h : Er B w a) (s : ByteArray) (k : Int) (i j : Nat) (hi : i < 8) (hj : j < 8) (hn : i ≠ j) :
    Calls Tryd.prog 24 #[.iface 67 (.agg #[.string s, .int .i64 k, .iface 79 (.pointer (some (a i)))]), .iface 79 (.pointer (some (a j)))] w fun e w' => e = .returned (.bool false) ∧ Below w.heap.size w w' := by
  obtain ⟨c, t, e⟩ := (h.blk i hi).2
  obtain ⟨c', t', e'⟩ := (h.blk j hj).2
  exact is_wrap_other s k (a j) (a i) c c' t t' w (h.ne i j hi hj hn) e e'
set_option maxRecDepth 100000 in
set_option maxHeartbeats 2000000 in
theorem number_disk {B : Nat} {a : Nat → Addr} (w : World) (h : Er B w a) :
    Calls Tryd.prog 15 #[.iface 79 (.pointer (some (a 0)))] w fun e w' => e = .returned (.int .i64 160) ∧ Below w.heap.size w w' := by
  have i1 := fun (W : World) (hW : Below w.heap.size w W) => (h.below hW).isnt 0 1 (by decide) (by decide) (by decide)
  have i2 := fun (W : World) (hW : Below w.heap.size w W) => (h.below hW).isnt 0 2 (by decide) (by decide) (by decide)
  have i3 := fun (W : World) (hW : Below w.heap.size w W) => (h.below hW).isnt 0 3 (by decide) (by decide) (by decide)
  have i4 := fun (W : World) (hW : Below w.heap.size w W) => (h.below hW).isnt 0 4 (by decide) (by decide) (by decide)
  have i5 := fun (W : World) (hW : Below w.heap.size w W) => (h.below hW).isnt 0 5 (by decide) (by decide) (by decide)
  have i6 := fun (W : World) (hW : Below w.heap.size w W) => (h.below hW).isnt 0 6 (by decide) (by decide) (by decide)
  have i7 := fun (W : World) (hW : Below w.heap.size w W) => (h.below hW).isnt 0 7 (by decide) (by decide) (by decide)
  have hC := fun (W : World) (hW : Below w.heap.size w W) => (show W.cell? ⟨1, 0, none⟩ = some (.iface 79 (.pointer (some (a 1)))) ∧ W.cell? ⟨2, 0, none⟩ = some (.iface 79 (.pointer (some (a 2)))) ∧ W.cell? ⟨3, 0, none⟩ = some (.iface 79 (.pointer (some (a 3)))) ∧ W.cell? ⟨4, 0, none⟩ = some (.iface 79 (.pointer (some (a 4)))) ∧ W.cell? ⟨5, 0, none⟩ = some (.iface 79 (.pointer (some (a 5)))) ∧ W.cell? ⟨6, 0, none⟩ = some (.iface 79 (.pointer (some (a 6)))) ∧ W.cell? ⟨7, 0, none⟩ = some (.iface 79 (.pointer (some (a 7)))) from ⟨(h.below hW).glob 1 (by decide), (h.below hW).glob 2 (by decide), (h.below hW).glob 3 (by decide), (h.below hW).glob 4 (by decide), (h.below hW).glob 5 (by decide), (h.below hW).glob 6 (by decide), (h.below hW).glob 7 (by decide)⟩)
  clear h
  generalize a 0 = a0 at *
  generalize a 1 = a1 at *
  generalize a 2 = a2 at *
  generalize a 3 = a3 at *
  generalize a 4 = a4 at *
  generalize a 5 = a5 at *
  generalize a 6 = a6 at *
  generalize a 7 = a7 at *
  have XB : Below w.heap.size w w := Below.refl _ _
  obtain ⟨g1, g2, g3, g4, g5, g6, g7⟩ := hC _ XB
  go_enter Tryd.func15, Tryd.ntmps15
  go_wp2_with (go_at_call 24; (with_reducible first | refine Calls.mono (i1 _ XB) ?_ | refine Calls.mono (i2 _ XB) ?_ | refine Calls.mono (i3 _ XB) ?_ | refine Calls.mono (i4 _ XB) ?_ | refine Calls.mono (i5 _ XB) ?_ | refine Calls.mono (i6 _ XB) ?_ | refine Calls.mono (i7 _ XB) ?_); rintro e w1 ⟨rfl, hb⟩; replace XB := XB.trans (hb.mono XB.size); obtain ⟨g1, g2, g3, g4, g5, g6, g7⟩ := hC _ XB)
  go_ret
  exact ⟨rfl, XB⟩
set_option maxRecDepth 100000 in
set_option maxHeartbeats 2000000 in
theorem number_act {B : Nat} {a : Nat → Addr} (s : ByteArray) (k : Int) (w : World) (h : Er B w a) :
    Calls Tryd.prog 15 #[.iface 67 (.agg #[.string s, .int .i64 k, .iface 79 (.pointer (some (a 6)))])] w fun e w' => e = .returned (.int .i64 166) ∧ Below w.heap.size w w' := by
  have i1 := fun (W : World) (hW : Below w.heap.size w W) => (h.below hW).wrapnt s k 6 1 (by decide) (by decide) (by decide)
  have i2 := fun (W : World) (hW : Below w.heap.size w W) => (h.below hW).wrapnt s k 6 2 (by decide) (by decide) (by decide)
  have i3 := fun (W : World) (hW : Below w.heap.size w W) => (h.below hW).wrapnt s k 6 3 (by decide) (by decide) (by decide)
  have i4 := fun (W : World) (hW : Below w.heap.size w W) => (h.below hW).wrapnt s k 6 4 (by decide) (by decide) (by decide)
  have i5 := fun (W : World) (hW : Below w.heap.size w W) => (h.below hW).wrapnt s k 6 5 (by decide) (by decide) (by decide)
  have i6 := fun (W : World) (hW : Below w.heap.size w W) => is_wrap_same s k (a 6) W
  have hC := fun (W : World) (hW : Below w.heap.size w W) => (show W.cell? ⟨1, 0, none⟩ = some (.iface 79 (.pointer (some (a 1)))) ∧ W.cell? ⟨2, 0, none⟩ = some (.iface 79 (.pointer (some (a 2)))) ∧ W.cell? ⟨3, 0, none⟩ = some (.iface 79 (.pointer (some (a 3)))) ∧ W.cell? ⟨4, 0, none⟩ = some (.iface 79 (.pointer (some (a 4)))) ∧ W.cell? ⟨5, 0, none⟩ = some (.iface 79 (.pointer (some (a 5)))) ∧ W.cell? ⟨6, 0, none⟩ = some (.iface 79 (.pointer (some (a 6)))) from ⟨(h.below hW).glob 1 (by decide), (h.below hW).glob 2 (by decide), (h.below hW).glob 3 (by decide), (h.below hW).glob 4 (by decide), (h.below hW).glob 5 (by decide), (h.below hW).glob 6 (by decide)⟩)
  clear h
  generalize a 1 = a1 at *
  generalize a 2 = a2 at *
  generalize a 3 = a3 at *
  generalize a 4 = a4 at *
  generalize a 5 = a5 at *
  generalize a 6 = a6 at *
  have XB : Below w.heap.size w w := Below.refl _ _
  obtain ⟨g1, g2, g3, g4, g5, g6⟩ := hC _ XB
  go_enter Tryd.func15, Tryd.ntmps15
  go_wp2_with (go_at_call 24; (with_reducible first | refine Calls.mono (i1 _ XB) ?_ | refine Calls.mono (i2 _ XB) ?_ | refine Calls.mono (i3 _ XB) ?_ | refine Calls.mono (i4 _ XB) ?_ | refine Calls.mono (i5 _ XB) ?_ | refine Calls.mono (i6 _ XB) ?_); rintro e w1 ⟨rfl, hb⟩; replace XB := XB.trans (hb.mono XB.size); obtain ⟨g1, g2, g3, g4, g5, g6⟩ := hC _ XB)
  go_ret
  exact ⟨rfl, XB⟩
end Go.Proofs.YtoanbdbcfdjdeaaDoor
