import Derived.Test.YtcehnibfmhbeiaaDoorMkD
import Derived.Laws.Tables
import Derived.ArgAppend
namespace Go.Proofs.YtcehnibfmhbeiaaDoor
open Go.RowKit
set_option linter.unusedVariables false

/-- A row of the call's own, its block g written out. -/
def Row (w : World) (base g n cap : Nat) (xs : List Value) : Prop := w.ownsRow base 3 1 (.slice (some ⟨g, 0, none⟩) n cap) n xs
theorem row_of {w : World} {base n : Nat} {v : Value} {xs : List Value} (h : w.ownsRow base 3 1 v n xs) (hv : v ≠ .slice none 0 0) : ∃ g cap, v = .slice (some ⟨g, 0, none⟩) n cap ∧ Row w base g n cap xs := by
  rcases h.2 with ⟨rfl, _⟩ | ⟨g, cap, cur, rfl, hg⟩
  · exact absurd rfl hv
  · exact ⟨g, cap, rfl, h⟩
theorem Row.open {w : World} {base g n cap : Nat} {xs : List Value} (h : Row w base g n cap xs) : xs.length = n ∧ base ≤ g ∧ g < w.heap.size ∧ n ≤ cap ∧ cap ≤ maxLen ∧ (∀ j, w.frozen? ⟨g, j, none⟩ = false) ∧ ∀ j u, xs[j]? = some u → w.cell? ⟨g, j, none⟩ = some u := by
  obtain ⟨hl, h⟩ := h
  rcases h with ⟨e, _⟩ | ⟨g', cap', cur, e, hb, hh, h1, h2, h3, h4⟩
  · cases e
  · simp only [Value.slice.injEq, Option.some.injEq, Addr.mk.injEq, true_and, and_true] at e
    obtain ⟨rfl, rfl⟩ := e
    have hlt : g < w.heap.size := (Array.getElem?_eq_some_iff.1 hh).1
    refine ⟨by simpa using hl, hb, hlt, h1, h2, fun j => by simp [World.frozen?, hh], fun j u hu => ?_⟩
    rw [← h4] at hu
    have hu2 : cur.toList[j]? = some u := by
      rw [List.getElem?_take] at hu
      split at hu
      · exact hu
      · cases hu
    simp only [World.cell?, hh]
    simpa using hu2
theorem Row.blk {w w' : World} {base g n cap : Nat} {xs : List Value} (h : Row w base g n cap xs) (e : w'.heap[g]? = w.heap[g]?) : Row w' base g n cap xs := by
  obtain ⟨hl, h⟩ := h
  rcases h with ⟨e', _⟩ | ⟨g', cap', cur, e', hb, hh, h1, h2, h3, h4⟩
  · cases e'
  · simp only [Value.slice.injEq, Option.some.injEq, Addr.mk.injEq, true_and, and_true] at e'
    obtain ⟨rfl, rfl⟩ := e'
    exact ⟨hl, .inr ⟨g, cap, cur, rfl, hb, e.trans hh, h1, h2, h3, h4⟩⟩
theorem Row.below {w w' : World} {base g n cap : Nat} {xs : List Value} (h : Row w base g n cap xs) (hb : Below w.heap.size w w') : Row w' base g n cap xs := h.blk (hb.block g h.open.2.2.1)
theorem Row.far {w : World} {base g n cap : Nat} {xs : List Value} (h : Row w base g n cap xs) {c i : Nat} (hc : g ≠ c) (v : Value) : Row (w.setCell ⟨c, i, none⟩ v) base g n cap xs := h.blk (Below.heap_setCell _ _ _ _ hc)
theorem Row.set {w : World} {base g n cap : Nat} {xs : List Value} (h : Row w base g n cap xs) (i : Nat) (hi : i < n) (v : Value) : Row (w.setCell ⟨g, i, none⟩ v) base g n cap (xs.set i v) := by
  obtain ⟨hl, h⟩ := h
  rcases h with ⟨e', _⟩ | ⟨g', cap', cur, e', hb, hh, h1, h2, h3, h4⟩
  · cases e'
  · simp only [Value.slice.injEq, Option.some.injEq, Addr.mk.injEq, true_and, and_true] at e'
    obtain ⟨rfl, rfl⟩ := e'
    refine ⟨by simpa using hl, .inr ⟨g, cap, cur.setIfInBounds i v, rfl, hb, ?_, h1, h2, by simpa using h3, ?_⟩⟩
    · rw [setCell_eq_setRow w g i cur 3 (0, 0) v hh]; exact setRow_heap w g cur _ 3 _ hh
    · rw [← h4, Array.toList_setIfInBounds, List.take_set]
theorem Row.zero {w : World} {base g n cap : Nat} {xs : List Value} (h : Row w base g n cap xs) (base' : Nat) (hb : base' ≤ g) : Row w base' g n cap xs := by
  obtain ⟨hl, h⟩ := h
  rcases h with ⟨e', _⟩ | ⟨g', cap', cur, e', _, hh⟩
  · cases e'
  · simp only [Value.slice.injEq, Option.some.injEq, Addr.mk.injEq, true_and, and_true] at e'
    obtain ⟨rfl, rfl⟩ := e'
    exact ⟨hl, .inr ⟨g, cap, cur, rfl, hb, hh⟩⟩

/-- One number appended to a row of the call's own: in place or in a new block; the row itself reads as before. -/
theorem wpList_append_one (w : World) {ops : Array Oper} {rest : List Oper} {o : Oper} {a : Act} {Q : Exit → Act → World → Prop}
    (hg : o.guard = none) (s x : Operand) (hop : o.op = Op.call { callee := Callee.builtin Builtin.append, args := #[s, x], argTypes := #[30, 30] })
    (base g n cap : Nat) (xs : List Value) (hs : a.eval s = .slice (some ⟨g, 0, none⟩) n cap) (hrow : Row w base g n cap xs)
    (ad : Addr) (c : Nat) (u : Value) (hx : a.eval x = .slice (some ad) 1 c) (hc : ∀ j y, [u][j]? = some y → w.cell? (ad.add j) = some y) (h1 : u.oneCell' = true) (hn : n + 1 ≤ 1000000) (hbase : base ≤ w.heap.size)
    (hK : ∀ g' cap' w', Row w' base g' (n + 1) cap' (xs ++ [u]) → (∀ j y, xs[j]? = some y → w'.cell? ⟨g, j, none⟩ = some y) → w.grownBy w' (some g) → (g' = g ∨ w.heap.size ≤ g') → wpList Tryd.prog ops Q rest (a.put o.dst (.slice (some ⟨g', 0, none⟩) (n + 1) cap')) w') :
    wpList Tryd.prog ops Q (o :: rest) a w := by
  obtain ⟨i0, hi, hz0, hz1, hz2⟩ := info_parts info3
  obtain ⟨hxl, hbg, hgl, hnc, hcm, hfr, hcells⟩ := hrow.open
  by_cases hr : n + 1 ≤ cap
  · refine wpList_append_fits w hg s x 30 hop base 3 i0 1 Tryd.underlying30 hi hz1 g n cap xs hs hrow ad 1 c [u] hx (by simp) hc (fun y hy => by simp at hy; subst hy; exact h1) hr ?_
    intro w' hown hgrow
    have hrow' : Row w' base g (n + 1) cap (xs ++ [u]) := hown
    refine hK g cap w' hrow' (fun j y hj => hrow'.open.2.2.2.2.2.2 j y ?_) hgrow (.inl rfl)
    have hjl : j < xs.length := (List.getElem?_eq_some_iff.1 hj).1
    rw [List.getElem?_append_left hjl]; exact hj
  · refine wpList_append_grows w hg s x 30 hop 3 i0 (.int .i64 0) 1 8 Tryd.underlying30 hi hz0 hz1 hz2 rfl (by decide) (some ⟨g, 0, none⟩) n cap xs hs (fun h => by cases h) (by simpa using hxl)
      (fun b hb j y hj => by cases hb; rw [Go.WideShapes.add_plain, Nat.zero_add]; exact hcells j y hj) ad 1 c [u] hx (by simp) hc (fun y hy => by simp at hy; subst hy; exact h1) (by omega) (by unfold maxLen; omega) (by omega) ?_
    intro v' w' hown hgrow
    obtain ⟨g', cap', rfl, hrow'⟩ := row_of hown (by
      intro e
      rcases hown.2 with ⟨_, h0⟩ | ⟨g'', cap'', cur, e', _⟩
      · omega
      · rw [e] at e'; cases e')
    have hg' := hrow'.open.2.1
    refine hK g' cap' w' (hrow'.zero base (by omega)) (fun j y hj => ?_) (by obtain ⟨q1, q2, q3, q4, q5⟩ := hgrow; exact ⟨q1, q2, q3, q4, fun k hk _ => q5 k hk (by simp)⟩) (.inr hg')
    rw [← hcells j y hj]
    obtain ⟨q1, q2, q3, q4, q5⟩ := hgrow
    exact World.cell?_of_block (q5 g hgl (by simp))
end Go.Proofs.YtcehnibfmhbeiaaDoor
