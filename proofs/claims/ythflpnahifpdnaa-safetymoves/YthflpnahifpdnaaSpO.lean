import Derived.Test.YthflpnahifpdnaaSpJ
import Derived.Deep.RegionHeld3
namespace Go.Proofs.Ythflpnahifpdnaa
open Go.RowKit
set_option linter.unusedVariables false


/-- A list that may be written. -/
def Cw (w : World) (v : Value) (n : Nat) : Prop := ∃ a c, v = .slice a n c ∧ (n = 0 ∨ ∃ r, a = some ⟨r, 0, none⟩ ∧ ∀ j, j < n → (∃ x, w.cell? ⟨r, j, none⟩ = some x) ∧ w.frozen? ⟨r, j, none⟩ = false)
theorem Cw.below {w w' : World} {v : Value} {n : Nat} (h : Cw w v n) (hb : Below w.heap.size w w') : Cw w' v n := by
  obtain ⟨a, c, e, h⟩ := h
  refine ⟨a, c, e, h.imp id ?_⟩
  rintro ⟨r, er, h⟩
  refine ⟨r, er, fun j hj => ?_⟩
  obtain ⟨⟨x, hx⟩, hf⟩ := h j hj
  have hr : r < w.heap.size := cell_ltF hx
  exact ⟨⟨x, (hb.cell (p := ⟨r, j, none⟩) hr).trans hx⟩, (hb.frozen (p := ⟨r, j, none⟩) hr).trans hf⟩
theorem Cw.set {w : World} {v : Value} {n q i : Nat} {u : Value} (h : Cw w v n) : Cw (w.setCell ⟨q, i, none⟩ u) v n := by
  obtain ⟨a, c, e, h⟩ := h
  refine ⟨a, c, e, h.imp id ?_⟩
  rintro ⟨r, er, h⟩
  refine ⟨r, er, fun j hj => ?_⟩
  obtain ⟨⟨x, hx⟩, hf⟩ := h j hj
  refine ⟨?_, by rw [World.frozen?_setCell]; exact hf⟩
  by_cases e : (⟨q, i, none⟩ : Addr) = ⟨r, j, none⟩
  · rw [e]; exact ⟨u, World.cell?_setCell_same w _ u hx⟩
  · rw [World.cell?_setCell_other w ⟨q, i, none⟩ ⟨r, j, none⟩ u (fun h => e (by first | exact h | exact h.symm))]; exact ⟨x, hx⟩
theorem Cw.own {w : World} {base e n : Nat} {v : Value} {xs : List Value} (h : w.ownsRow base e 1 v n xs) : Cw w v n := by
  obtain ⟨a, c, rfl⟩ := own_form h
  refine ⟨a, c, rfl, ?_⟩
  rcases Nat.eq_zero_or_pos n with h0 | h0
  · exact .inl h0
  · obtain ⟨g, cap, ev, _, _, _⟩ := own_block h h0
    obtain ⟨rfl, rfl⟩ : a = some ⟨g, 0, none⟩ ∧ c = cap := by injection ev with q1 _ q2; exact ⟨q1, q2⟩
    exact .inr ⟨g, rfl, fun j hj => ⟨own_some h j (by omega), h.frozenAt j⟩⟩
def blk3 (u1 u2 u3 : Value) : Nat → Prop := fun q => u1.ownBlock = some q ∨ u2.ownBlock = some q ∨ u3.ownBlock = some q
theorem ownBlock_slice (r n c : Nat) : (Value.slice (some ⟨r, 0, none⟩) n c).ownBlock = some r := rfl
end Go.Proofs.Ythflpnahifpdnaa
