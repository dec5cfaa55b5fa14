import Derived.Test.YthjdflcakngpiaaDoorCpyA
namespace Go.Proofs.YthjdflcakngpiaaDoor
open Go.RowKit
set_option linter.unusedVariables false

theorem info65 : (Tryd.prog.info? 48).map (fun i => (i.zero, i.size, i.bytes)) = some (some (.slice none 0 0), 1, 24) := by kernel_rfl
theorem World.heap_alloc_lt (w : World) (o : Obj) (k : Nat) (h : k < w.heap.size) : (w.alloc o).heap[k]? = w.heap[k]? := ((Below.refl w.heap.size w).alloc (Nat.le_refl _) o).block k h
/-- The two marks behind a list of statements. -/
def marksS : List Value := [.int .i64 0, .string ⟨#[]⟩, .int .i64 77, .slice none 0 0, .int .i64 0, .int .i64 0, .int .i64 0, .string ⟨#[]⟩, .int .i64 77, .slice none 0 0, .int .i64 0, .int .i64 0]
/-- What Room.list leaves. -/
structure RlO (w w' : World) (b lo hi nL BL : Nat) (v vD vE vG vL vN : Value) (L : List St) (ys : List Value) (g c g2 c2 : Nat) : Prop where
  at1 : v.ownBlock = some g ∨ w.heap.size ≤ g
  at2 : vL.ownBlock = some g2 ∨ w.heap.size ≤ g2
  ne : g2 ≠ g
  full : ∃ xs, w'.ownsRow lo 66 6 (.slice (some ⟨g, 0, none⟩) (L.length + 2) c) (L.length + 2) (xs ++ marksS) ∧ Els 6 StR (Si lo hi v) w' xs L
  has : Has w' b #[vD, vE, vG, .slice (some ⟨g2, 0, none⟩) (nL + 1) c2, vN]
  row : w'.ownsRow BL 48 1 (.slice (some ⟨g2, 0, none⟩) (nL + 1) c2) (nL + 1) (ys ++ [.slice (some ⟨g, 0, none⟩) (L.length + 2) c])
  only : Only (fun q => v.ownBlock = some q ∨ vL.ownBlock = some q ∨ q = b) w w'
theorem only_grown {S : Nat → Prop} {a w w' : World} {row : Option Nat} (h : Only S a w) (hg : w.grownBy w' row) (hr : ∀ k, row = some k → S k ∨ a.heap.size ≤ k) : Only S a w' :=
  ⟨hg.os.trans h.os, hg.tape.trans h.tape, hg.output.trans h.output, Nat.le_trans h.size hg.size, fun k hk hn => (hg.block k (Nat.lt_of_lt_of_le hk h.size) (fun e => by rcases hr k e.symm with h1 | h1; (exact hn h1); omega)).trans (h.block k hk hn)⟩

set_option maxRecDepth 100000 in
set_option maxHeartbeats 4000000 in
theorem roomList_any (b lo hi nL BL : Nat) (v vD vE vG vL vN : Value) (L : List St) (ys : List Value) (w : World) (hO : OwnI 66 6 StR lo hi w v L) (hl : L.length ≤ 1954687338211) (hH : Has w b #[vD, vE, vG, vL, vN]) (hR : w.ownsRow BL 48 1 vL nL ys) (hn : nL ≤ 2000000000000)
    (d1 : ∀ g, v.ownBlock = some g → vL.ownBlock ≠ some g) (d2 : v.ownBlock ≠ some b) (d3 : vL.ownBlock ≠ some b) (hlo : lo ≤ w.heap.size) (hBL : BL ≤ w.heap.size) (hb0 : b < lo ∨ hi ≤ b) (hL0 : ∀ g, vL.ownBlock = some g → g < lo ∨ hi ≤ g) :
    Calls Tryd.prog 14 #[.pointer (some ⟨b, 0, none⟩), v] w fun e w' => ∃ g c g2 c2, e = .returned (.slice (some ⟨g, 0, none⟩) L.length c) ∧ RlO w w' b lo hi nL BL v vD vE vG vL vN L ys g c g2 c2 := by
  obtain ⟨xs, hown, hhi, hels⟩ := hO
  obtain ⟨i0, hi0, hi1, hi2, hi3⟩ := info_parts info85
  obtain ⟨j0, hj0, hj1, hj2, hj3⟩ := info_parts info65
  obtain ⟨va, vc, hva⟩ := own_form hown
  obtain ⟨z0, z1, z2⟩ := id hH
  go_enter Tryd.func14, Tryd.ntmps14
  go_wp2_with (first
    | (at_builtin; refine wpList_append_mine _ rfl _ _ 48 rfl lo 66 i0 _ 6 72 Tryd.underlying48 hi0 hi1 hi2 hi3 rfl (by decide) v L.length xs rfl (hown.alloc _) ⟨w.heap.size, 0, none⟩ 2 2 [.int .i64 0, .string ⟨#[]⟩, .int .i64 77, .slice none 0 0, .int .i64 0, .int .i64 0, .int .i64 0, .string ⟨#[]⟩, .int .i64 77, .slice none 0 0, .int .i64 0, .int .i64 0] rfl rfl (cells_at (W := w) rfl _ _) (all_one rfl) (by decide) (by unfold maxLen; omega) (by omega) (by simp; omega) ?_; intro g c w1 own1 hg1 hat1 _ hcap1; have K1 := (hH.alloc _).blk hg1.size (hg1.block _ (by simp; omega) (fun e => d2 e.symm)); obtain ⟨y0, y1, y2⟩ := id K1; have R1 := own_keepA (hR.alloc _) (fun q hq => hg1.block q (by have := (own_lt hR q hq).2; simp; omega) (fun e => d1 q e.symm hq)); have s1 := hg1.size; have s1' : w.heap.size + 1 ≤ w1.heap.size := (by simpa using s1); clear z0 z1 z2)
    | (at_builtin; refine wpList_append_mine _ rfl _ _ 39 rfl BL 48 j0 _ 1 24 Tryd.underlying39 hj0 hj1 hj2 hj3 rfl (by decide) vL nL ys rfl (R1.alloc _) ⟨w1.heap.size, 0, none⟩ 1 1 [.slice (some ⟨g, 0, none⟩) (L.length + 2) c] rfl rfl (cells_at (W := w1) rfl _ _) (all_one rfl) (by decide) (by unfold maxLen; omega) (by omega) (by simp; omega) ?_; intro g2 c2 w2 own2 hg2 hat2 _ hcap2; have K2 := (K1.alloc _).blk hg2.size (hg2.block _ (by simp; omega) (fun e => d3 e.symm)); obtain ⟨x0, x1, x2⟩ := id K2; have s2 : w1.heap.size + 1 ≤ w2.heap.size := (by simpa using hg2.size)))
  have hgl : g < w1.heap.size := (own_lt own1 g rfl).2
  have e1 : v.ownBlock = some g ∨ w.heap.size + 1 ≤ g := hat1.imp id (fun h => by simpa using h)
  have e2 : vL.ownBlock = some g2 ∨ w1.heap.size + 1 ≤ g2 := hat2.imp id (fun h => by simpa using h)
  have hbs : b < w.heap.size := hH.1
  have gb : g ≠ b := by
    rcases e1 with h | h
    · intro e; exact d2 (by rw [h, e])
    · omega
  have g2b : g2 ≠ b := by
    rcases e2 with h | h
    · intro e; exact d3 (by rw [h, e])
    · omega
  have gL : vL.ownBlock ≠ some g := by
    intro e
    rcases e1 with h | h
    · exact d1 g h e
    · have := (own_lt hR g e).2; omega
  have ne : g2 ≠ g := by
    intro e
    rcases e2 with h | h
    · exact gL (by rw [h, e])
    · omega
  go_ret
  refine ⟨g, c, g2, c2, rfl, e1.imp id (fun h => by omega), e2.imp id (fun h => by omega), ne, ⟨xs, ?_, ?_⟩, K2.set 3 (by simp) _, ?_, ?_⟩
  · refine own_keepA own1 (fun q hq => ?_)
    have hq' : q = g := by injection hq with h; exact h.symm
    subst hq'
    rw [show (w2.setCell ⟨b, 3, none⟩ (.slice (some ⟨g2, 0, none⟩) (nL + 1) c2)).heap[q]? = w2.heap[q]? from Below.heap_setCell _ _ _ _ gb, hg2.block q (by simp; omega) (fun e => gL e.symm), World.heap_alloc_lt _ _ _ hgl]
  · refine Els.mv (mx := 0) hels (fun _ _ h => h.mv ⟨?_, fun q hq hs => ⟨?_, hs⟩⟩)
    · have := hg2.size; simp [World.setCell] at this ⊢; omega
    · have hqb : q ≠ b := by have := hs.1; have := hs.2.1; rcases hb0 with h | h <;> omega
      have hqL : vL.ownBlock ≠ some q := by
        intro e; have := hs.1; have := hs.2.1; rcases hL0 q e with h | h <;> omega
      rw [show (w2.setCell ⟨b, 3, none⟩ (.slice (some ⟨g2, 0, none⟩) (nL + 1) c2)).heap[q]? = w2.heap[q]? from Below.heap_setCell _ _ _ _ hqb, hg2.block q (by simp; omega) (fun e => hqL e.symm), World.heap_alloc_lt _ _ _ (by omega), hg1.block q (by simp; omega) (fun e => hs.2.2 e.symm), World.heap_alloc_lt _ _ _ hq]
  · refine own_keepA own2 (fun q hq => ?_)
    have hq' : q = g2 := by injection hq with h; exact h.symm
    subst hq'
    exact Below.heap_setCell _ _ _ _ g2b
  · have o1 : Only (fun q => v.ownBlock = some q ∨ vL.ownBlock = some q ∨ q = b) w w1 := only_grown ((Only.refl _ w).alloc _) hg1 (fun k hk => .inl (.inl hk))
    have o2 := only_grown (o1.alloc (.cells #[.slice (some ⟨g, 0, none⟩) (L.length + 2) c] 48)) hg2 (fun k hk => .inl (.inr (.inl hk)))
    exact o2.set (.inr (.inr rfl)) _
end Go.Proofs.YthjdflcakngpiaaDoor
