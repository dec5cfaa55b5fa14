import Derived.Test.YtcehnibfmhbeiaaDoorMkE
import Derived.Deep.CutRange
import Derived.WalkSmall
namespace Go.Proofs.YtcehnibfmhbeiaaDoor
open Go.RowKit
set_option linter.unusedVariables false

/-- The argument: nil, or its cells from an address on. -/
def Arg (w : World) (a : Option Addr) (n cap : Nat) (z : Nat → Int) : Prop :=
  (a = none ∧ n = 0 ∧ cap = 0) ∨ ∃ ad, a = some ad ∧ (∀ i, i < n → w.cell? (ad.add i) = some (.int .i64 (z i))) ∧ (0 < n → ∃ b o, ad = ⟨b, o, none⟩ ∧ b < w.heap.size)
theorem Arg.below {w w' : World} {a : Option Addr} {n cap : Nat} {z : Nat → Int} (h : Arg w a n cap z) (hb : Below w.heap.size w w') : Arg w' a n cap z := by
  rcases h with h | ⟨ad, rfl, h1, h2⟩
  · exact .inl h
  · refine .inr ⟨ad, rfl, fun i hi => ?_, fun hn => ?_⟩
    · obtain ⟨b, o, rfl, hlt⟩ := h2 (by omega)
      rw [← h1 i hi]
      exact hb.cell (p := (⟨b, o, none⟩ : Addr).add i) (by rw [Go.WideShapes.add_plain]; exact hlt)
    · obtain ⟨b, o, e, hlt⟩ := h2 hn
      exact ⟨b, o, e, Nat.lt_of_lt_of_le hlt hb.size⟩
theorem Arg.refMask {w : World} {a : Option Addr} {n cap : Nat} {z : Nat → Int} (h : Arg w a n cap z) (hn : n ≤ 9223372036854775807) :
    Calls Tryd.prog 11 #[.slice a n cap] w fun e w' => e = .returned (.tuple #[.int .u64 (mkV z n), .int .i64 (mkE z n)]) ∧ Below w.heap.size w w' := by
  rcases h with ⟨rfl, rfl, rfl⟩ | ⟨ad, rfl, h1, h2⟩
  · exact refMask_any none 0 0 0 0 z w hn (fun h => by omega) (fun i h => by omega)
  · rcases Nat.eq_zero_or_pos n with rfl | hp
    · exact refMask_any (some ad) 0 0 0 cap z w hn (fun h => by omega) (fun i h => by omega)
    · obtain ⟨b, o, rfl, hlt⟩ := h2 hp
      exact refMask_any _ b o n cap z w hn (fun _ => ⟨rfl, hlt⟩) (fun i hi => by rw [← Go.WideShapes.add_plain]; exact h1 i hi)
/-- A row whose first cells are these numbers. -/
def Nums (w : World) (g n : Nat) (z : Nat → Int) : Prop := g < w.heap.size ∧ ∀ i, i < n → w.cell? ⟨g, i, none⟩ = some (.int .i64 (z i))
theorem Nums.below {w w' : World} {g n : Nat} {z : Nat → Int} (h : Nums w g n z) (hb : Below w.heap.size w w') : Nums w' g n z :=
  ⟨Nat.lt_of_lt_of_le h.1 hb.size, fun i hi => (hb.cell (p := ⟨g, i, none⟩) h.1).trans (h.2 i hi)⟩
theorem Nums.mask {w : World} {g n cap : Nat} {z : Nat → Int} (h : Nums w g n z) (hn : n ≤ 9223372036854775807) :
    Calls Tryd.prog 10 #[.slice (some ⟨g, 0, none⟩) n cap] w fun e w' => e = .returned (.tuple #[.int .u64 (mkV z n), .int .i64 (mkE z n)]) ∧ w = w' :=
  (mask_eq g 0 n cap z w hn (fun i hi => by rw [Nat.zero_add]; exact h.2 i hi)).mono fun _ _ h => ⟨h.1, h.2.symm⟩
theorem bel_drew {w : World} (q : Nat) : Below w.heap.size w (w.drewN q) := by
  induction q with
  | zero => exact Below.refl _ _
  | succ n ih => exact ih.drew
theorem same_arg {w : World} {g n cap c1 : Nat} {a : Option Addr} {z : Nat → Int} (h1 : Nums w g n z) (h2 : Arg w a n cap z) (hn : n ≤ 9223372036854775807) :
    Calls Tryd.prog 12 #[.slice (some ⟨g, 0, none⟩) n c1, .slice a n cap] w fun e w' => e = .returned (.bool true) ∧ Below w.heap.size w w' := by
  rcases Nat.eq_zero_or_pos n with rfl | hp
  · exact (same_nil _ _ _ _ w).mono fun _ _ h => ⟨h.1, by rw [h.2]; exact Below.refl _ _⟩
  · rcases h2 with ⟨_, h0, _⟩ | ⟨ad, rfl, h3, h4⟩
    · omega
    · obtain ⟨b, o, rfl, hlt⟩ := h4 hp
      refine (same_eq g 0 b o n c1 cap z w hn (fun i hi => by rw [Nat.zero_add]; exact h1.2 i hi) (fun i hi => by rw [← Go.WideShapes.add_plain]; exact h3 i hi)).mono fun _ _ h => ⟨h.1, ?_⟩
      obtain ⟨q, rfl⟩ := h.2
      exact bel_drew q
/-- The values of the argument, as a list of cells. -/
def zl (z : Nat → Int) (n : Nat) : List Value := (List.range n).map fun i => Value.int .i64 (z i)
theorem zl_get (z : Nat → Int) (n j : Nat) (u : Value) (h : (zl z n)[j]? = some u) : j < n ∧ u = .int .i64 (z j) := by
  unfold zl at h
  rw [List.getElem?_map, Option.map_eq_some_iff] at h
  obtain ⟨x, hx, rfl⟩ := h
  have hj : j < n := by
    have := (List.getElem?_eq_some_iff.1 hx).1
    simpa using this
  rw [List.getElem?_range hj] at hx
  cases hx
  exact ⟨hj, rfl⟩

/-- A row of the call's own that may be nil. -/
def RowN (w : World) (base : Nat) (a : Option Addr) (n cap : Nat) (xs : List Value) : Prop := (a = none ∧ n = 0 ∧ cap = 0) ∨ ∃ g, a = some ⟨g, 0, none⟩ ∧ Row w base g n cap xs
theorem form_of {w : World} {base n : Nat} {v : Value} {xs : List Value} (h : w.ownsRow base 3 1 v n xs) : ∃ a cap, v = .slice a n cap ∧ RowN w base a n cap xs := by
  by_cases hv : v = .slice none 0 0
  · subst hv
    rcases h.2 with ⟨_, rfl⟩ | ⟨g, cap, cur, e, _⟩
    · exact ⟨none, 0, rfl, .inl ⟨rfl, rfl, rfl⟩⟩
    · cases e
  · obtain ⟨g, cap, rfl, hr⟩ := row_of h hv
    exact ⟨_, _, rfl, .inr ⟨g, rfl, hr⟩⟩
theorem RowN.blk {w w' : World} {base n cap : Nat} {a : Option Addr} {xs : List Value} (h : RowN w base a n cap xs) (e : ∀ b, base ≤ b → b < w.heap.size → w'.heap[b]? = w.heap[b]?) : RowN w' base a n cap xs := by
  rcases h with h | ⟨g, rfl, hr⟩
  · exact .inl h
  · exact .inr ⟨g, rfl, hr.blk (e g hr.open.2.1 hr.open.2.2.1)⟩
theorem RowN.below {w w' : World} {base n cap : Nat} {a : Option Addr} {xs : List Value} (h : RowN w base a n cap xs) (hb : Below w.heap.size w w') : RowN w' base a n cap xs := h.blk fun b _ hl => hb.block b hl
theorem zl_at (f : Nat → Int) (n i : Nat) (h : i < n) : (zl f n)[i]? = some (.int .i64 (f i)) := by unfold zl; simp [h]
theorem zl_len (f : Nat → Int) (n : Nat) : (zl f n).length = n := by simp [zl]
theorem zl_set (f f' : Nat → Int) (n k : Nat) (y : Int) (hk : f' k = y) (ho : ∀ i, i ≠ k → f' i = f i) : (zl f n).set k (.int .i64 y) = zl f' n := by
  apply List.ext_getElem?
  intro j
  rw [List.getElem?_set, zl_len]
  by_cases hj : j < n
  · rw [zl_at f' n j hj]
    by_cases e : k = j
    · subst e; rw [if_pos rfl, if_pos hj, hk]
    · rw [if_neg e, zl_at f n j hj, ho j (fun h => e h.symm)]
  · have e1 : (zl f' n)[j]? = none := List.getElem?_eq_none (by rw [zl_len]; omega)
    have e2 : (zl f n)[j]? = none := List.getElem?_eq_none (by rw [zl_len]; omega)
    rw [e1, e2]
    split
    · rw [if_neg (by omega)]
    · rfl
theorem zl_ext (f f' : Nat → Int) (n : Nat) (h : ∀ i, i < n → f i = f' i) : zl f n = zl f' n := by
  unfold zl
  apply List.map_congr_left
  intro i hi
  rw [h i (List.mem_range.1 hi)]
theorem vals_zl (l : List Nat) : vals l = zl (fun i => (l.getD i 0 : Nat)) l.length := by
  apply List.ext_getElem?
  intro j
  by_cases hj : j < l.length
  · rw [zl_at _ _ _ hj]; unfold vals; simp [hj]
  · rw [List.getElem?_eq_none (by simp [vals]; omega), List.getElem?_eq_none (by rw [zl_len]; omega)]
theorem Row.nums {w : World} {base g n cap : Nat} {f : Nat → Int} (h : Row w base g n cap (zl f n)) : Nums w g n f := ⟨h.open.2.2.1, fun i hi => h.open.2.2.2.2.2.2 i _ (zl_at f n i hi)⟩
theorem same_rown {w : World} {g n c1 cap base : Nat} {a : Option Addr} {f : Nat → Int} (h1 : Nums w g n f) (h2 : RowN w base a n cap (zl f n)) (hn : n ≤ 1000) :
    Calls Tryd.prog 12 #[.slice (some ⟨g, 0, none⟩) n c1, .slice a n cap] w fun e w' => e = .returned (.bool true) ∧ Below w.heap.size w w' := by
  rcases Nat.eq_zero_or_pos n with rfl | hp
  · exact (same_nil _ _ _ _ w).mono fun _ _ h => ⟨h.1, by rw [h.2]; exact Below.refl _ _⟩
  · rcases h2 with ⟨_, h0, _⟩ | ⟨g2, rfl, hr⟩
    · omega
    · have hn2 := hr.nums
      refine (same_eq g 0 g2 0 n c1 cap f w (by omega) (fun i hi => by rw [Nat.zero_add]; exact h1.2 i hi) (fun i hi => by rw [Nat.zero_add]; exact hn2.2 i hi)).mono fun _ _ h => ⟨h.1, ?_⟩
      obtain ⟨q, rfl⟩ := h.2
      exact bel_drew q
theorem members_row (m : Nat) (w : World) (hm : m < 18446744073709551616) (hT : Go.Proofs.TabAt 1 Lib.deBruijn64tab w) (hsz : 1 < w.heap.size) :
    Calls Tryd.prog 13 #[.int .u64 m] w fun e w' => ∃ g cap, e = .returned (.slice (some ⟨g, 0, none⟩) (mem 0 64 m).length cap) ∧ Row w' w.heap.size g (mem 0 64 m).length cap (zl (fun i => ((mem 0 64 m).getD i 0 : Nat)) (mem 0 64 m).length) ∧ Below w.heap.size w w' :=
  (members_any m w hm hT hsz).mono fun e w' ⟨v, he, hown, hb, hne⟩ => by
    rw [vals_zl] at hown
    obtain ⟨g, cap, rfl, hr⟩ := row_of hown hne
    exact ⟨g, cap, he, hr, hb⟩
theorem refMembers_row (m : Nat) (w : World) (hm : m < 18446744073709551616) :
    Calls Tryd.prog 14 #[.int .u64 m] w fun e w' => ∃ a cap, e = .returned (.slice a (mem 0 64 m).length cap) ∧ RowN w' w.heap.size a (mem 0 64 m).length cap (zl (fun i => ((mem 0 64 m).getD i 0 : Nat)) (mem 0 64 m).length) ∧ Below w.heap.size w w' :=
  (refMembers_any m w hm).mono fun e w' ⟨v, he, hown, hb⟩ => by
    rw [vals_zl] at hown
    obtain ⟨a, cap, rfl, hr⟩ := form_of hown
    exact ⟨a, cap, he, hr, hb⟩

theorem Nums.blk {w w' : World} {g n : Nat} {f : Nat → Int} (h : Nums w g n f) (e : w'.heap[g]? = w.heap[g]?) : Nums w' g n f :=
  ⟨by
    have h0 : g < w.heap.size := h.1
    have h1 : w.heap[g]? = some w.heap[g] := Array.getElem?_eq_getElem h0
    rw [h1] at e
    exact (Array.getElem?_eq_some_iff.1 e).1, fun i hi => (World.cell?_of_block (a := ⟨g, i, none⟩) e).trans (h.2 i hi)⟩
theorem Nums.grown {w w' : World} {g n k : Nat} {f : Nat → Int} (h : Nums w g n f) (hg : w.grownBy w' (some k)) (hk : g ≠ k) : Nums w' g n f := h.blk (hg.block g h.1 (fun e => hk (Option.some.inj e)))
theorem Nums.far {w : World} {g n c i : Nat} {f : Nat → Int} (h : Nums w g n f) (hc : g ≠ c) (v : Value) : Nums (w.setCell ⟨c, i, none⟩ v) g n f := h.blk (Below.heap_setCell _ _ _ _ hc)
/-- The second list of members, by its cells; where there are none nothing is known. -/
def WN (w : World) (lo hi : Nat) (a : Option Addr) (n : Nat) (f : Nat → Int) : Prop := n = 0 ∨ ∃ g, a = some ⟨g, 0, none⟩ ∧ lo ≤ g ∧ g < hi ∧ Nums w g n f
theorem WN.of {w : World} {base n cap : Nat} {a : Option Addr} {f : Nat → Int} (h : RowN w base a n cap (zl f n)) : WN w base w.heap.size a n f := by
  rcases h with ⟨_, h, _⟩ | ⟨g, rfl, hr⟩
  · exact .inl h
  · exact .inr ⟨g, rfl, hr.open.2.1, hr.open.2.2.1, hr.nums⟩
theorem WN.blk {w w' : World} {lo hi n : Nat} {a : Option Addr} {f : Nat → Int} (h : WN w lo hi a n f) (e : ∀ g, lo ≤ g → g < hi → g < w.heap.size → w'.heap[g]? = w.heap[g]?) : WN w' lo hi a n f := by
  rcases h with h | ⟨g, rfl, h1, h2, h3⟩
  · exact .inl h
  · exact .inr ⟨g, rfl, h1, h2, h3.blk (e g h1 h2 h3.1)⟩
theorem WN.below {w w' : World} {lo hi n : Nat} {a : Option Addr} {f : Nat → Int} (h : WN w lo hi a n f) (hb : Below w.heap.size w w') : WN w' lo hi a n f := h.blk fun g _ _ hl => hb.block g hl
theorem same_wn {w : World} {g n c1 cap lo hi : Nat} {a : Option Addr} {f : Nat → Int} (h1 : Nums w g n f) (h2 : WN w lo hi a n f) (hn : n ≤ 1000) :
    Calls Tryd.prog 12 #[.slice (some ⟨g, 0, none⟩) n c1, .slice a n cap] w fun e w' => e = .returned (.bool true) ∧ Below w.heap.size w w' := by
  rcases h2 with rfl | ⟨g2, rfl, _, _, hn2⟩
  · exact (same_nil _ _ _ _ w).mono fun _ _ h => ⟨h.1, by rw [h.2]; exact Below.refl _ _⟩
  · refine (same_eq g 0 g2 0 n c1 cap f w (by omega) (fun i hi => by rw [Nat.zero_add]; exact h1.2 i hi) (fun i hi => by rw [Nat.zero_add]; exact hn2.2 i hi)).mono fun _ _ h => ⟨h.1, ?_⟩
    obtain ⟨q, rfl⟩ := h.2
    exact bel_drew q
/-- Numbers, and one behind them. -/
def tail (f : Nat → Int) (n : Nat) (y : Int) (i : Nat) : Int := if i < n then f i else y
theorem tail_row {w : World} {base g n cap : Nat} {f : Nat → Int} {y : Int} (h : Row w base g (n + 1) cap (zl f n ++ [.int .i64 y])) : Nums w g (n + 1) (tail f n y) :=
  ⟨h.open.2.2.1, fun i hi => h.open.2.2.2.2.2.2 i _ (by
    unfold tail
    by_cases hl : i < n
    · rw [if_pos hl, List.getElem?_append_left (by rw [zl_len]; exact hl), zl_at f n i hl]
    · rw [if_neg hl, List.getElem?_append_right (by rw [zl_len]; omega), zl_len, show i - n = 0 by omega]; rfl)⟩
theorem nums_kept {w' : World} {g n : Nat} {f : Nat → Int} (hl : g < w'.heap.size) (h : ∀ j y, (zl f n)[j]? = some y → w'.cell? ⟨g, j, none⟩ = some y) : Nums w' g n f := ⟨hl, fun i hi => h i _ (zl_at f n i hi)⟩
/-- What stands in the first list behind k stores. -/
def neg (f : Nat → Int) (c : Int) (k i : Nat) : Int := if i < k then c - i else f i

/-- What the last loop reads: four lists and the second list of members. -/
def Kept (w : World) (g1 g8 g9 g12 n1 lo hi : Nat) (a : Option Addr) (f : Nat → Int) : Prop :=
  Nums w g1 n1 (neg f (-7) n1) ∧ Nums w g8 (n1 + 1) (tail (neg f (-7) n1) n1 (-1000)) ∧ WN w lo hi a n1 f ∧ Nums w g9 n1 f ∧ Nums w g12 (n1 + 1) (tail f n1 (-2000))
theorem Kept.below {w w' : World} {g1 g8 g9 g12 n1 lo hi : Nat} {a : Option Addr} {f : Nat → Int} (h : Kept w g1 g8 g9 g12 n1 lo hi a f) (hb : Below w.heap.size w w') : Kept w' g1 g8 g9 g12 n1 lo hi a f :=
  ⟨h.1.below hb, h.2.1.below hb, h.2.2.1.below hb, h.2.2.2.1.below hb, h.2.2.2.2.below hb⟩
theorem Kept.far {w : World} {g1 g8 g9 g12 n1 lo hi : Nat} {a : Option Addr} {f : Nat → Int} (h : Kept w g1 g8 g9 g12 n1 lo hi a f) {c i : Nat} (h1 : g1 ≠ c) (h2 : g8 ≠ c) (h3 : hi ≤ c) (h4 : g9 ≠ c) (h5 : g12 ≠ c) (v : Value) : Kept (w.setCell ⟨c, i, none⟩ v) g1 g8 g9 g12 n1 lo hi a f :=
  ⟨h.1.far h1 v, h.2.1.far h2 v, h.2.2.1.blk (fun g _ hg _ => Below.heap_setCell _ _ _ _ (by show g ≠ c; omega)), h.2.2.2.1.far h4 v, h.2.2.2.2.far h5 v⟩
theorem tail_last (f : Nat → Int) (n : Nat) (y : Int) : tail f n y n = y := by unfold tail; rw [if_neg (by omega)]
theorem tail_at (f : Nat → Int) (n i : Nat) (y : Int) (h : i < n) : tail f n y i = f i := by unfold tail; rw [if_pos h]
theorem neg_at (f : Nat → Int) (c : Int) (k i : Nat) (h : i < k) : neg f c k i = c - i := by unfold neg; rw [if_pos h]

theorem full_of {w w1 w2 : World} {n : Nat} {z : Nat → Int} {v1 v2 : Value} {o : Array Value} {t : TypeId} (hn : n + 2 ≤ 1000000000000000) (hown1 : w1.ownsRow w.heap.size 3 1 v1 n (zl z n)) (hgrow1 : w.grownBy w1 none)
    (hown2 : w2.ownsRow w.heap.size 3 1 v2 (n + 2) (zl z n ++ [.int .i64 (-41), .int .i64 (-42)])) (hgrow2 : (w1.alloc (.cells o t)).grownBy w2 v1.ownBlock) :
    ∃ gF capF, v2 = .slice (some ⟨gF, 0, none⟩) (n + 2) capF ∧ n + 2 ≤ capF ∧ capF ≤ maxLen ∧ Below w.heap.size w w2 ∧ w.heap.size ≤ gF ∧ Nums w2 gF n z ∧ w2.cell? ⟨gF, n, none⟩ = some (.int .i64 (-41)) ∧ w2.cell? ⟨gF, n + 1, none⟩ = some (.int .i64 (-42)) := by
  obtain ⟨g, c, rfl, hrow⟩ := row_of hown2 (by
    intro e
    rcases hown2.2 with ⟨_, h0⟩ | ⟨g'', cap'', cur, e', _⟩
    · omega
    · rw [e] at e'; cases e')
  obtain ⟨hl, hb, hlt, hc1, hc2, _, hcell⟩ := hrow.open
  have hB : Below w.heap.size w w2 := (((Below.refl _ _).grown hgrow1 (Nat.le_refl _) (fun _ h => by cases h)).alloc hgrow1.size _).grown hgrow2 (by have := hgrow1.size; simp; omega) (fun b hb => own_block hown1 hb)
  have hzl : (zl z n).length = n := by simp [zl]
  refine ⟨g, c, rfl, hc1, hc2, hB, hb, ⟨hlt, fun i hi => hcell i _ ?_⟩, hcell n _ ?_, hcell (n + 1) _ ?_⟩
  · rw [List.getElem?_append_left (by omega)]
    unfold zl; simp [hi]
  · rw [List.getElem?_append_right (by omega), hzl]; simp
  · rw [List.getElem?_append_right (by omega), hzl]; simp

set_option maxRecDepth 100000 in
set_option maxHeartbeats 4000000 in
theorem law_main (m other : Nat) (a : Option Addr) (n cap : Nat) (z : Nat → Int) (w : World) (hm : m < 18446744073709551616) (hoth : other < 18446744073709551616) (hn : n ≤ 17592186044414) (hA : Arg w a n cap z)
    (hT : Go.Proofs.TabAt 1 Lib.deBruijn64tab w) (hsz : 1 < w.heap.size) :
    Calls Tryd.prog 5 #[.int .u64 m, .int .u64 other, .slice a n cap] w fun e w' => e = .returned (.bool true) ∧ Below w.heap.size w w' := by
  obtain ⟨i0, hi, hz0, hz1, hz2⟩ := info_parts info3
  go_enter Tryd.func5, Tryd.ntmps5
  go_upto_region 1 with fail
  go_cut [7] from 22 to 25 (fun s7 wx => ∃ gF capF, s7 = .slice (some ⟨gF, 0, none⟩) (n + 2) capF ∧ n + 2 ≤ capF ∧ capF ≤ maxLen ∧ Below w.heap.size w wx ∧ w.heap.size ≤ gF ∧ Nums wx gF n z ∧ wx.cell? ⟨gF, n, none⟩ = some (.int .i64 (-41)) ∧ wx.cell? ⟨gF, n + 1, none⟩ = some (.int .i64 (-42)))
  case first =>
    rcases hA with ⟨rfl, rfl, rfl⟩ | ⟨ad, rfl, h1, h2⟩
    · go_wp2_with (at_builtin; refine wpList_append_own _ rfl _ _ 30 rfl w.heap.size 3 i0 (.int .i64 0) 1 8 Tryd.underlying30 hi hz0 hz1 hz2 rfl (by decide) _ _ _ rfl (World.ownsRow_nil _ _ _ _) ⟨w.heap.size, 0, none⟩ 2 2 [.int .i64 (-41), .int .i64 (-42)] rfl rfl (cell_two_new _ _ _ _) (fun x hx => by simp at hx; rcases hx with rfl | rfl <;> rfl) (by unfold maxLen; omega) (by omega) (by simp) ?_; intro v2 w2 hown2 hgrow2 hnil2)
      go_meet
      case rel => exact full_of (by omega) (World.ownsRow_nil _ _ _ _) (World.grownBy.refl _ _) (by simpa [zl] using hown2) hgrow2
    · go_wp2_with (first
        | (at_builtin; have hsz1 := hgrow1.size; go_must (refine wpList_append_own _ rfl _ _ 30 rfl w.heap.size 3 i0 (.int .i64 0) 1 8 Tryd.underlying30 hi hz0 hz1 hz2 rfl (by decide) _ _ _ rfl (hown1.alloc _) ⟨w1.heap.size, 0, none⟩ 2 2 [.int .i64 (-41), .int .i64 (-42)] rfl rfl (cell_two_new _ _ _ _) (fun x hx => by simp at hx; rcases hx with rfl | rfl <;> rfl) (by unfold maxLen; omega) (by omega) (by simp; omega) ?_; intro v2 w2 hown2 hgrow2 hnil2))
        | (at_builtin; refine wpList_append_own _ rfl _ _ 30 rfl w.heap.size 3 i0 (.int .i64 0) 1 8 Tryd.underlying30 hi hz0 hz1 hz2 rfl (by decide) _ _ _ rfl (World.ownsRow_nil _ _ _ _) ad n cap (zl z n) rfl (by simp [zl]) (fun j u hj => by obtain ⟨hjn, rfl⟩ := zl_get z n j u hj; exact h1 j hjn) (fun x hx => by unfold zl at hx; rw [List.mem_map] at hx; obtain ⟨i, _, rfl⟩ := hx; rfl) (by unfold maxLen; omega) (by omega) (Nat.le_refl _) ?_; intro v1 w1 hown1 hgrow1 hnil1))
      go_meet
      case rel => exact full_of (v1 := v1) (by omega) (by simpa using hown1) hgrow1 (by simpa using hown2) hgrow2
  case rest =>
    obtain ⟨gF, capF, rfl, hc1, hc2, hB1, hgF, hF, hF1, hF2⟩ := hcut
    have hA1 := hA.below hB1
    have hTb : Hid (∀ w', Below w.heap.size w w' → Go.Proofs.TabAt 1 Lib.deBruijn64tab w') := fun w' h => TabAt.below hT h hsz
    have hFl := hF.1
    unfold maxLen at hc2
    have hs1 := hB1.size
    clear hT hA
    go_upto_region 6 with (first
      | (go_at_call 10; go_must (refine (hF.mask (by omega)).mono ?_; rintro e w' ⟨rfl, rfl⟩))
      | (go_at_call 11; go_must (refine (hA1.refMask (by omega)).mono ?_; rintro e w2 ⟨rfl, hb2⟩; have hF' := hF.below hb2; have hA2 := hA1.below hb2; have hF1' := (hb2.cell (p := ⟨gF, n, none⟩) hFl).trans hF1; have hF2' := (hb2.cell (p := ⟨gF, n + 1, none⟩) hFl).trans hF2; have hB2 := hB1.trans (hb2.mono hs1)))
      | (go_at_call 12; go_must (refine (same_arg hF' hA2 (by omega)).mono ?_; rintro e w3 ⟨rfl, hb3⟩; have hF1'' := (hb3.cell (p := ⟨gF, n, none⟩) hF'.1).trans hF1'; have hF2'' := (hb3.cell (p := ⟨gF, n + 1, none⟩) hF'.1).trans hF2'; have hB3 := hB2.trans (hb3.mono hB2.size))))
    clear hF' hF1' hF2' hF1'' hF2'' hA2 hA1 hF hF1 hF2 hb2 hb3 hB2 hc1 hc2 hFl
    have hn1 := mem_len 64 0 m
    have hn2 := mem_len 64 0 other
    have hM1 := fun w' (h : Below w.heap.size w w') => members_row m w' hm (hTb.out w' h) (Nat.lt_of_lt_of_le hsz h.size)
    have hM2 := fun w' (h : Below w.heap.size w w') => members_row other w' hoth (hTb.out w' h) (Nat.lt_of_lt_of_le hsz h.size)
    have hR1 := fun w' => refMembers_row m w' hm
    have hR2 := fun w' => refMembers_row other w' hoth
    clear hTb
    generalize (mem 0 64 m).length = n1 at *
    generalize (mem 0 64 other).length = n2 at *
    generalize (fun i => (((mem 0 64 m).getD i 0 : Nat) : Int)) = f1 at *
    generalize (fun i => (((mem 0 64 other).getD i 0 : Nat) : Int)) = f2 at *
    have hs3 := hB3.size
    go_wp2_with (first
      | (go_at_call 13; go_must (refine (hM1 _ hB3).mono ?_; rintro e w4 ⟨g1, cap1, rfl, R1, hb4⟩; have hB4 := hB3.trans (hb4.mono hB3.size); have N1 := R1.nums; have hg1 := R1.open.2.1; have hg1l := R1.open.2.2.1))
      | (go_at_call 14; go_must (refine (hR1 _).mono ?_; rintro e w5 ⟨a7, cap7, rfl, R7, hb5⟩; have hB5 := hB4.trans (hb5.mono hB4.size); have R1' := R1.below hb5; have N1' := R1'.nums))
      | (go_at_call 12; go_must (refine (same_rown N1' R7 (by omega)).mono ?_; rintro e w6 ⟨rfl, hb6⟩; have hB6 := hB5.trans (hb6.mono hB5.size); have R1'' := R1'.below hb6; have R7' := R7.below hb6)))
    have hb65 := hb6.size
    have hb54 := hb5.size
    have hb43 := hb4.size
    have W7 := WN.of R7'
    have hRw : Hid (Row w6 w3.heap.size g1 n1 cap1 (zl f1 n1)) := R1''
    clear R1 R1' R1'' R7 R7' N1 N1' hb4 hb5 hb6 hB3 hB4 hB5
    go_loopg [15] n1 (fun gk i wr => ∃ k : Nat, k + gk = n1 ∧ i = .int .i64 k ∧ Below w.heap.size w wr ∧ w6.heap.size ≤ wr.heap.size ∧ Row wr w3.heap.size g1 n1 cap1 (zl (neg f1 (-7) k) n1) ∧ WN wr w4.heap.size w6.heap.size a7 n1 f1)
    case atStart => exact ⟨0, by omega, rfl, hB6, Nat.le_refl _, by rw [zl_ext (neg f1 (-7) 0) f1 n1 (fun i _ => by unfold neg; rw [if_neg (by omega)])]; exact hRw.out, W7⟩
    case round =>
      obtain ⟨k, hk, rfl, hB, hsw, hR, hW⟩ := hrel
      obtain ⟨_, _, hgl, hnc, hcm, hfr, hcells⟩ := hR.open
      unfold maxLen at hcm
      by_cases hlt : k < n1
      · have e1 := hcells k _ (zl_at _ n1 k hlt)
        have e2 := hfr k
        have hk0 : (0 : Int) ≤ (k : Int) := by omega
        have hk1 : (k : Int) < (n1 : Int) := by omega
        clear hcells hfr
        go_wp2
        go_roundg (gk - 1)
        case measure => omega
        case rel =>
          refine ⟨k + 1, by omega, by go_num, hB.setCell (by show _ ≤ g1; omega) _, by simpa [World.setCell] using hsw, ?_, hW.blk (fun g h1 _ _ => Below.heap_setCell _ _ _ _ (by show g ≠ g1; omega))⟩
          rw [← zl_set (neg f1 (-7) k) (neg f1 (-7) (k + 1)) n1 k (-7 - (k : Int)) (by unfold neg; rw [if_pos (by omega)]) (fun i hi => by unfold neg; by_cases h : i < k; rw [if_pos h, if_pos (by omega)]; rw [if_neg h, if_neg (by omega)])]
          exact hR.set k hlt _
      · have hk1 : ¬ (k : Int) < (n1 : Int) := by omega
        have hkn : k = n1 := by omega
        have hR' : Row wr w3.heap.size g1 n1 cap1 (zl (neg f1 (-7) n1) n1) := by have h := hR; rw [hkn] at h; exact h
        clear hcells hfr hR hRw
        go_upto_region 16 with (at_builtin; go_must (refine wpList_append_one _ rfl _ _ rfl w3.heap.size g1 n1 cap1 (zl (neg f1 (-7) n1) n1) rfl (hR'.below ((Below.refl _ _).alloc (Nat.le_refl _) _)) ⟨wr.heap.size, 0, none⟩ 1 (.int .i64 (-1000)) rfl (cell_one_new _ _ _) rfl (by omega) (by simp; omega) ?_; intro g8 cap8 w8 R8 hl8 hgr8 hg8))
        have hsz8 : wr.heap.size + 1 ≤ w8.heap.size := by have := hgr8.size; simpa using this
        have hB8 : Below w.heap.size w w8 := (hB.alloc hB.size _).grown hgr8 (by have := hB.size; simp; omega) (fun b hb => by cases hb; omega)
        have L8 : Nums w8 g1 n1 (neg f1 (-7) n1) := nums_kept (by omega) hl8
        have G8 := tail_row R8
        have hg8l : w3.heap.size ≤ g8 ∧ g8 < w8.heap.size := ⟨R8.open.2.1, R8.open.2.2.1⟩
        have hg8c : n1 + 1 ≤ cap8 ∧ cap8 ≤ 9223372036854775807 := ⟨R8.open.2.2.2.1, by have := R8.open.2.2.2.2.1; unfold maxLen at this; exact this⟩
        have W8 : WN w8 w4.heap.size w6.heap.size a7 n1 f1 := (hW.below ((Below.refl _ _).alloc (Nat.le_refl _) _)).blk (fun g h1 _ h3 => hgr8.block g h3 (fun e => by cases e; omega))
        clear R8 hl8 hgr8 hR' hW
        go_upto_region 18 with (first
          | (go_at_call 13; have h9 := hB9; go_must (refine (hM2 _ hB9).mono ?_; rintro e w10 ⟨g10, cap10, rfl, R10, hb10⟩; have hB10 := hB9.trans (hb10.mono hB9.size)))
          | (go_at_call 13; go_must (refine (hM1 _ hB8).mono ?_; rintro e w9 ⟨g9, cap9, rfl, R9, hb9⟩; have hB9 := hB8.trans (hb9.mono hB8.size))))
        have hs9 := hb9.size
        have hs10 := hb10.size
        have L10 := (L8.below hb9).below hb10
        have G10 := (G8.below hb9).below hb10
        have W10 := (W8.below hb9).below hb10
        have K10 := R9.below hb10
        have hg9 : w8.heap.size ≤ g9 ∧ g9 < w9.heap.size := ⟨R9.open.2.1, R9.open.2.2.1⟩
        have hg10 : w9.heap.size ≤ g10 ∧ g10 < w10.heap.size := ⟨R10.open.2.1, R10.open.2.2.1⟩
        clear L8 G8 W8 R9 hb9 hb10 hB8 hB9
        have hGn : ∀ w', Nums w' g8 (n1 + 1) (tail (neg f1 (-7) n1) n1 (-1000)) → w'.cell? ⟨g8, n1, none⟩ = some (.int .i64 (-1000)) := fun w' h => by have := h.2 n1 (by omega); unfold tail at this; rw [if_neg (by omega)] at this; exact this
        go_upto_region 20 with (first
          | (go_at_call 12; have h12 := hb12; go_must (refine (same_rown (R10.below (hb11.trans (hb12.mono hb11.size))).nums R12 (by omega)).mono ?_; rintro e w13 ⟨rfl, hb13⟩; have hb10' := (hb11.trans (hb12.mono hb11.size)).trans (hb13.mono (Nat.le_trans hb11.size hb12.size)); have G13 := G10.below hb10'; have hc13 := hGn _ G13))
          | (go_at_call 14; go_must (refine (hR2 _).mono ?_; rintro e w12 ⟨a12, cap12, rfl, R12, hb12⟩))
          | (go_at_call 12; go_must (refine (same_wn K10.nums W10 (by omega)).mono ?_; rintro e w11 ⟨rfl, hb11⟩)))
        have hs13 := hb10'.size
        have L13 := L10.below hb10'
        have W13 := W10.below hb10'
        have K13 := K10.below hb10'
        have M13 := R10.below hb10'
        have hB13 := hB10.trans (hb10'.mono hB10.size)
        have hcap9 : n1 ≤ cap9 ∧ cap9 ≤ 9223372036854775807 := ⟨K13.open.2.2.2.1, by have := K13.open.2.2.2.2.1; unfold maxLen at this; exact this⟩
        clear L10 W10 K10 R10 G10 R12 hb11 hb12 hb13 h12 hb10' hGn hM1 hM2 hR1 hR2 hc13
        go_wp2_with (at_builtin; go_must (refine wpList_append_one _ rfl _ _ rfl w8.heap.size g9 n1 cap9 (zl f1 n1) rfl (K13.below ((Below.refl _ _).alloc (Nat.le_refl _) _)) ⟨w13.heap.size, 0, none⟩ 1 (.int .i64 (-2000)) rfl (cell_one_new _ _ _) rfl (by omega) (by simp; omega) ?_; intro g12 cap14 w14 R14 hl14 hgr14 hg12))
        have hsz14 : w13.heap.size + 1 ≤ w14.heap.size := by have := hgr14.size; simpa using this
        have hB14 : Below w.heap.size w w14 := (hB13.alloc hB13.size _).grown hgr14 (by have := hB13.size; simp; omega) (fun b hb => by cases hb; have := hB13.size; have := hB.size; omega)
        have hba := fun o => (Below.refl w13.heap.size w13).alloc (Nat.le_refl _) o
        have P14 : Kept w14 g1 g8 g9 g12 n1 w4.heap.size w6.heap.size a7 f1 := ⟨(L13.below (hba _)).grown hgr14 (by omega), (G13.below (hba _)).grown hgr14 (by omega), (W13.below (hba _)).blk (fun g _ h2 h3 => hgr14.block g h3 (fun e => by cases e; omega)), nums_kept (by omega) hl14, tail_row R14⟩
        have M14 : Row w14 w9.heap.size g10 n2 cap10 (zl f2 n2) := (M13.below (hba _)).blk (hgr14.block g10 (by simp; omega) (fun e => by cases e; omega))
        have hg12n : g12 ≠ g10 := by
          rcases hg12 with h | h
          · omega
          · simp at h; omega
        have hcap14 : n1 + 1 ≤ cap14 ∧ cap14 ≤ 9223372036854775807 := ⟨R14.open.2.2.2.1, by have := R14.open.2.2.2.2.1; unfold maxLen at this; exact this⟩
        have P14' : Hid (Kept w14 g1 g8 g9 g12 n1 w4.heap.size w6.heap.size a7 f1) := P14
        have M14' : Hid (Row w14 w9.heap.size g10 n2 cap10 (zl f2 n2)) := M14
        clear P14 M14 R14 hl14 hgr14 L13 W13 K13 M13 G13 hba
        go_loopg [20] n2 (fun gk i wr => ∃ k : Nat, k + gk = n2 ∧ i = .int .i64 k ∧ Below w.heap.size w wr ∧ w14.heap.size ≤ wr.heap.size ∧ Row wr w9.heap.size g10 n2 cap10 (zl (neg f2 (-500) k) n2) ∧ Kept wr g1 g8 g9 g12 n1 w4.heap.size w6.heap.size a7 f1)
        case atStart => exact ⟨0, by omega, rfl, hB14, Nat.le_refl _, by rw [zl_ext (neg f2 (-500) 0) f2 n2 (fun i _ => by unfold neg; rw [if_neg (by omega)])]; exact M14'.out, P14'.out⟩
        case round =>
          obtain ⟨j, hj, rfl, hBj, hsj, hRj, hPj⟩ := hrel
          obtain ⟨_, _, hglj, hncj, hcmj, hfrj, hcellsj⟩ := hRj.open
          unfold maxLen at hcmj
          by_cases hltj : j < n2
          · have e1 := hcellsj j _ (zl_at _ n2 j hltj)
            have e2 := hfrj j
            have hj0 : (0 : Int) ≤ (j : Int) := by omega
            have hj1 : (j : Int) < (n2 : Int) := by omega
            clear hcellsj hfrj
            go_wp2
            go_roundg (gk - 1)
            case measure => omega
            case rel =>
              refine ⟨j + 1, by omega, by go_num, hBj.setCell (by show _ ≤ g10; have := hB.size; omega) _, by simpa [World.setCell] using hsj, ?_, hPj.far (by omega) (by omega) (by omega) (by omega) hg12n _⟩
              rw [← zl_set (neg f2 (-500) j) (neg f2 (-500) (j + 1)) n2 j (-500 - (j : Int)) (by unfold neg; rw [if_pos (by omega)]) (fun i hi => by unfold neg; by_cases h : i < j; rw [if_pos h, if_pos (by omega)]; rw [if_neg h, if_neg (by omega)])]
              exact hRj.set j hltj _
          · have hj1 : ¬ (j : Int) < (n2 : Int) := by omega
            clear hcellsj hfrj hRj
            go_wp2
            go_loopg [21] n1 (fun gk i wr => ∃ k : Nat, k + gk = n1 ∧ i = .int .i64 k ∧ Below w.heap.size w wr ∧ Kept wr g1 g8 g9 g12 n1 w4.heap.size w6.heap.size a7 f1)
            case atStart => exact ⟨0, by omega, rfl, hBj, hPj⟩
            case round =>
              obtain ⟨q, hq, rfl, hBq, hPq⟩ := hrel
              obtain ⟨pL, pG, pW, pK, pH⟩ := hPq
              by_cases hltq : q < n1
              · have e1 := pL.2 q hltq
                rw [neg_at _ _ _ _ hltq] at e1
                have e2 := pG.2 q (by omega)
                rw [tail_at _ _ _ _ hltq, neg_at _ _ _ _ hltq] at e2
                have e3 := pK.2 q hltq
                have e5 := pH.2 q (by omega)
                rw [tail_at _ _ _ _ hltq] at e5
                have hPq' : Hid (Kept _ g1 g8 g9 g12 n1 w4.heap.size w6.heap.size a7 f1) := ⟨pL, pG, pW, pK, pH⟩
                rcases pW with h0 | ⟨g7, rfl, _, _, pW⟩
                · omega
                have e4 := pW.2 q hltq
                have hq0 : (0 : Int) ≤ (q : Int) := by omega
                have hq1 : (q : Int) < (n1 : Int) := by omega
                have hq2 : (q : Int) < ((n1 + 1 : Nat) : Int) := by omega
                clear pL pG pW pK pH
                go_wp2
                go_quiet (fail)
                go_wp2
                go_roundg (gk - 1)
                case measure => omega
                case rel => exact ⟨q + 1, by omega, by go_num, hBq.trans ((bel_drew nq).mono hBq.size), hPq'.out.below (bel_drew nq)⟩
              · have hq1 : ¬ (q : Int) < (n1 : Int) := by omega
                have e1 := pG.2 n1 (by omega)
                rw [tail_last] at e1
                have e2 := pH.2 n1 (by omega)
                rw [tail_last] at e2
                clear pL pG pW pK pH
                have hq0 : (0 : Int) ≤ (n1 : Int) := by omega
                have hq2 : (n1 : Int) < ((n1 + 1 : Nat) : Int) := by omega
                go_wp2
                go_ret
                exact ⟨rfl, hBq⟩
end Go.Proofs.YtcehnibfmhbeiaaDoor
