import Derived.Test.YtnicolaphmffkaaGreatDoorChecked
import Derived.ProofKit
import Derived.WalkKit
import Derived.Below
import Derived.WalkSmall
import Derived.WalkMore
import Derived.Deep.LoopGhost
import Derived.Deep.CutRange
import Derived.Deep.RegionWith
import Derived.Deep.Light
import Derived.Deep.QuietTactic
import Derived.BigQuiet
import Derived.Maps.AppendAt
import Derived.RangeFuncBox
import Derived.Test.YtnicolaphmffkaaGreatDoorMaP
namespace Go.Proofs.YtnicolaphmffkaaGreatDoor
open Go.RowKit
set_option linter.unusedVariables false
set_option linter.unusedSimpArgs false

theorem ret_bool {a b : Bool} (h : a = b) : Ending.returned (.bool a) = .returned (.bool b) := by rw [h]
theorem ret_int {k : IntKind} {a b : Int} (h : a = b) : Ending.returned (.int k a) = .returned (.int k b) := by rw [h]
theorem ret_str {a b : ByteArray} (h : a = b) : Ending.returned (.string a) = .returned (.string b) := by rw [h]
theorem bel_drewN {B n : Nat} {a w : World} (h : Below B a w) : Below B a (w.drewN n) := by
  induction n generalizing w with
  | zero => exact h
  | succ n ih => exact (ih h).drew

/-- Block b holds just these cells, and may be written. -/
def Has (w : World) (b : Nat) (vs : Array Value) : Prop := b < w.heap.size ∧ (∀ i, w.cell? ⟨b, i, none⟩ = vs[i]?) ∧ ∀ i, w.frozen? ⟨b, i, none⟩ = false
theorem Has.below {w w' : World} {b : Nat} {vs : Array Value} (h : Has w b vs) (hb : Below w.heap.size w w') : Has w' b vs :=
  ⟨Nat.lt_of_lt_of_le h.1 hb.size, fun i => (hb.cell (p := ⟨b, i, none⟩) h.1).trans (h.2.1 i), fun i => (hb.frozen (p := ⟨b, i, none⟩) h.1).trans (h.2.2 i)⟩
theorem Has.alloc {w : World} {b : Nat} {vs : Array Value} (h : Has w b vs) (o : Obj) : Has (w.alloc o) b vs :=
  h.below ((Below.refl _ _).alloc (Nat.le_refl _) _)
theorem Has.drew {w : World} {b : Nat} {vs : Array Value} (h : Has w b vs) : Has w.drew b vs := h
theorem Has.new (w : World) (vs : Array Value) (t : TypeId) {b : Nat} (hb : b = w.heap.size) : Has (w.alloc (.cells vs t)) b vs :=
  ⟨by simp [hb], fun i => by simp [hb], fun i => World.frozen?_alloc_at _ _ _ _ hb⟩
theorem bel_after {w W w1 : World} {B : Nat} (h : Below B w W) (hB : B ≤ W.heap.size) (hb : Below W.heap.size W w1) : Below B w w1 := h.trans (hb.mono hB)
theorem Has.far {w : World} {b : Nat} {vs : Array Value} (h : Has w b vs) {c i : Nat} (hc : b ≠ c) (v : Value) : Has (w.setCell ⟨c, i, none⟩ v) b vs :=
  ⟨by simpa [World.setCell] using h.1, fun j => (World.cell?_setCell_other w ⟨c, i, none⟩ ⟨b, j, none⟩ v (by intro e; exact hc (congrArg Addr.block e).symm)).trans (h.2.1 j), fun j => by rw [World.frozen?_setCell]; exact h.2.2 j⟩
theorem Has.set {w : World} {b : Nat} {vs : Array Value} (h : Has w b vs) (i : Nat) (hi : i < vs.size) (v : Value) : Has (w.setCell ⟨b, i, none⟩ v) b (vs.setIfInBounds i v) :=
  ⟨by simpa [World.setCell] using h.1, fun j => by
    by_cases e : i = j
    · subst e
      rw [World.cell?_setCell_same w ⟨b, i, none⟩ v (u := vs[i]) (by rw [h.2.1 i]; simp [hi])]
      simp [hi]
    · rw [World.cell?_setCell_other w ⟨b, i, none⟩ ⟨b, j, none⟩ v (by intro h'; exact e (congrArg Addr.off h')), h.2.1 j]
      simp [e], fun j => by rw [World.frozen?_setCell]; exact h.2.2 j⟩
theorem Has.drewN {w : World} {b : Nat} {vs : Array Value} (h : Has w b vs) (n : Nat) : Has (w.drewN n) b vs := by
  induction n generalizing w with
  | zero => exact h
  | succ n ih => exact (ih h).drew

/-- Of what was there only blocks of S may have turned. -/
structure Only (S : Nat → Prop) (w w' : World) : Prop where
  os : w'.os = w.os
  tape : w'.tape = w.tape
  output : w'.output = w.output
  size : w.heap.size ≤ w'.heap.size
  block : ∀ k, k < w.heap.size → ¬ S k → w'.heap[k]? = w.heap[k]?
theorem Only.refl (S : Nat → Prop) (w : World) : Only S w w := ⟨rfl, rfl, rfl, Nat.le_refl _, fun _ _ _ => rfl⟩
theorem Only.trans {S : Nat → Prop} {a b c : World} (h : Only S a b) (k : Only S b c) : Only S a c :=
  ⟨k.os.trans h.os, k.tape.trans h.tape, k.output.trans h.output, Nat.le_trans h.size k.size, fun i hi hn => (k.block i (Nat.lt_of_lt_of_le hi h.size) hn).trans (h.block i hi hn)⟩
theorem Only.of_below {S : Nat → Prop} {w w' : World} (h : Below w.heap.size w w') : Only S w w' := ⟨h.os, h.tape, h.output, h.size, fun k hk _ => h.block k hk⟩
theorem Only.below {S : Nat → Prop} {a w w' : World} (h : Only S a w) (hb : Below w.heap.size w w') : Only S a w' := h.trans (.of_below hb)
theorem Only.alloc {S : Nat → Prop} {a w : World} (h : Only S a w) (o : Obj) : Only S a (w.alloc o) := h.below ((Below.refl _ _).alloc (Nat.le_refl _) _)
theorem Only.drew {S : Nat → Prop} {a w : World} (h : Only S a w) : Only S a w.drew := ⟨h.os, h.tape, h.output, h.size, h.block⟩
theorem Only.set {S : Nat → Prop} {a w : World} (h : Only S a w) {b i : Nat} (hb : S b) (v : Value) : Only S a (w.setCell ⟨b, i, none⟩ v) :=
  h.trans ⟨rfl, rfl, rfl, by simp [World.setCell], fun k hk hn => Below.heap_setCell _ _ _ _ (fun e => hn (by rw [e]; exact hb))⟩
theorem Has.blk {w w' : World} {b : Nat} {vs : Array Value} (h : Has w b vs) (hs : w.heap.size ≤ w'.heap.size) (hb : w'.heap[b]? = w.heap[b]?) : Has w' b vs :=
  ⟨Nat.lt_of_lt_of_le h.1 hs, fun i => (World.cell?_of_block (w := w) hb).trans (h.2.1 i), fun i => (World.frozen?_of_block (w := w) hb).trans (h.2.2 i)⟩
theorem Has.only {S : Nat → Prop} {w w' : World} {b : Nat} {vs : Array Value} (h : Has w b vs) (ho : Only S w w') (hb : ¬ S b) : Has w' b vs := h.blk ho.size (ho.block b h.1 hb)
theorem Only.mono {S T : Nat → Prop} {a b : World} (h : Only S a b) (hs : ∀ k, S k → T k) : Only T a b := ⟨h.os, h.tape, h.output, h.size, fun k hk hn => h.block k hk (fun c => hn (hs k c))⟩
theorem Only.put {S : Nat → Prop} {a w : World} (h : Only S a w) {r : Nat} (o : Obj) (hr : S r) : Only S a (w.putObj r o) :=
  h.trans ⟨rfl, rfl, rfl, by simp, fun k hk hn => World.putObj_heap_other (fun e => hn (by rw [e]; exact hr))⟩

theorem own_mono {w : World} {base base' e size n : Nat} {v : Value} {xs : List Value} (h : w.ownsRow base e size v n xs) (hb : base' ≤ base) : w.ownsRow base' e size v n xs :=
  ⟨h.1, h.2.imp id (fun ⟨g, cap, cur, h1, h2, h3, h4⟩ => ⟨g, cap, cur, h1, by omega, h3, h4⟩)⟩
theorem own_lt {w : World} {base e size n : Nat} {v : Value} {xs : List Value} (h : w.ownsRow base e size v n xs) : ∀ g, v.ownBlock = some g → base ≤ g ∧ g < w.heap.size := by
  intro g hg
  rcases h.2 with ⟨h0, _⟩ | ⟨g', cap, cur, h1, h2, h3, h4⟩
  · rw [h0] at hg; cases hg
  · rw [h1] at hg; cases hg; exact ⟨h2, (Array.getElem?_eq_some_iff.1 h3).1⟩

theorem own_only {S : Nat → Prop} {w w' : World} {base e size n : Nat} {v : Value} {xs : List Value} (h : w.ownsRow base e size v n xs) (ho : Only S w w') (hb : ∀ k, base ≤ k → ¬ S k) : w'.ownsRow base e size v n xs := by
  refine ⟨h.1, ?_⟩
  rcases h.2 with h0 | ⟨g, cap, cur, h1, h2, h3, h4⟩
  · exact .inl h0
  · exact .inr ⟨g, cap, cur, h1, h2, (ho.block g (Array.getElem?_eq_some_iff.1 h3).1 (hb g h2)).trans h3, h4⟩

theorem Has.set5 {w : World} {b : Nat} {x0 x1 x2 x3 x4 : Value} (h : Has w b #[x0, x1, x2, x3, x4]) (y0 y1 y2 y3 y4 : Value) :
    Has (((((w.setCell ⟨b, 0, none⟩ y0).setCell ⟨b, 1, none⟩ y1).setCell ⟨b, 2, none⟩ y2).setCell ⟨b, 3, none⟩ y3).setCell ⟨b, 4, none⟩ y4) b #[y0, y1, y2, y3, y4] :=
  ((((h.set 0 (by simp) y0).set 1 (by simp) y1).set 2 (by simp) y2).set 3 (by simp) y3).set 4 (by simp) y4
theorem bel5 {B b : Nat} {a w : World} (h : Below B a w) (hb : B ≤ b) (y0 y1 y2 y3 y4 : Value) :
    Below B a (((((w.setCell ⟨b, 0, none⟩ y0).setCell ⟨b, 1, none⟩ y1).setCell ⟨b, 2, none⟩ y2).setCell ⟨b, 3, none⟩ y3).setCell ⟨b, 4, none⟩ y4) :=
  ((((h.setCell hb _).setCell hb _).setCell hb _).setCell hb _).setCell hb _
end Go.Proofs.YtnicolaphmffkaaGreatDoor
namespace Go.Proofs.YtnicolaphmffkaaGreatDoor
open Go.RowKit
set_option linter.unusedVariables false
set_option linter.unusedSimpArgs false

/-- How many operands. -/
def arF (op : Int) : Int := if 1 ≤ op ∧ op ≤ 10 then 0 else if 20 ≤ op ∧ op ≤ 22 then 1 else if 30 ≤ op ∧ op ≤ 36 ∨ 40 ≤ op ∧ op ≤ 45 ∨ op = 50 ∨ op = 51 then 2 else -1
/-- The level. -/
def lvF (op : Int) : Int := if op = 51 then 1 else if op = 50 then 2 else if op = 21 then 3 else if 40 ≤ op ∧ op ≤ 45 then 4 else if op = 30 ∨ op = 31 then 5 else if 32 ≤ op ∧ op ≤ 34 then 6 else if op = 20 then 7 else 8
/-- What the first operand is asked for, and the second. -/
def akF (op : Int) : Int := if op = 51 then 1 else if op = 50 then 2 else if op = 21 then 3 else if 40 ≤ op ∧ op ≤ 45 then 5 else if op = 30 ∨ op = 31 then 5 else if 32 ≤ op ∧ op ≤ 34 then 6 else if op = 20 then 7 else 1
def akS (op : Int) : Int := if op = 51 then 2 else if op = 50 then 3 else if op = 21 then 3 else if 40 ≤ op ∧ op ≤ 45 then 5 else if op = 30 ∨ op = 31 then 6 else if 32 ≤ op ∧ op ≤ 34 then 7 else if op = 20 then 7 else 1
/-- Does it open something? -/
def opF (op : Int) : Bool := decide (20 ≤ op ∧ op ≤ 22 ∨ op = 35 ∨ op = 36)

theorem ops_cases (op : Int) : (op = 1 ∨ op = 2 ∨ op = 3 ∨ op = 4 ∨ op = 5 ∨ op = 6 ∨ op = 7 ∨ op = 8 ∨ op = 9 ∨ op = 10 ∨ op = 20 ∨ op = 21 ∨ op = 22 ∨ op = 30 ∨ op = 31 ∨ op = 32 ∨ op = 33 ∨ op = 34 ∨ op = 35 ∨ op = 36 ∨ op = 40 ∨ op = 41 ∨ op = 42 ∨ op = 43 ∨ op = 44 ∨ op = 45 ∨ op = 50 ∨ op = 51) ∨ arF op = -1 := by
  unfold arF
  split
  · left; omega
  · split
    · left; omega
    · split
      · left; omega
      · right; rfl

set_option maxHeartbeats 4000000 in
theorem shape_any (op : Int) (w : World) (h : arF op ≠ -1) :
    Calls Tryz.prog 102 #[.int .i64 op] w fun e w' => (∃ y0 y1, e = .returned (.tuple #[.agg #[.int .i64 (arF op), .int .i64 (lvF op), .bool (opF op), .int .i64 y0, .int .i64 y1], .bool true]) ∧ (1 ≤ arF op → y0 = akF op) ∧ (2 ≤ arF op → y1 = akS op)) ∧ Below w.heap.size w w' := by
  rcases (ops_cases op).resolve_right h with h | h | h | h | h | h | h | h | h | h | h | h | h | h | h | h | h | h | h | h | h | h | h | h | h | h | h | h
  all_goals
    subst h
    go_enter Tryz.func102, Tryz.ntmps102
    go_wp2
    refine bodyPost_ret (v := _) (by simp [results, Tryz.results102, go_sem]; rfl) rfl ?_
    refine ⟨⟨_, _, rfl, ?_, ?_⟩, ?_⟩
    · first | exact fun _ => rfl | exact fun hx => absurd hx (by decide)
    · first | exact fun _ => rfl | exact fun hx => absurd hx (by decide)
    · exact (Below.refl _ _).alloc (Nat.le_refl _) _

set_option maxHeartbeats 4000000 in
theorem shape_none (op : Int) (w : World) (h : arF op = -1) :
    Calls Tryz.prog 102 #[.int .i64 op] w fun e w' => e = .returned (.tuple #[.agg #[.int .i64 0, .int .i64 0, .bool false, .int .i64 0, .int .i64 0], .bool false]) ∧ Below w.heap.size w w' := by
  have hn : ∀ k : Int, arF k ≠ -1 → (op == k) = false := by
    intro k hk
    simp only [beq_eq_false_iff_ne]
    intro e; exact hk (by rw [← e]; exact h)
  have n1 := hn 1 (by decide)
  have n2 := hn 2 (by decide)
  have n3 := hn 3 (by decide)
  have n4 := hn 4 (by decide)
  have n5 := hn 5 (by decide)
  have n6 := hn 6 (by decide)
  have n7 := hn 7 (by decide)
  have n8 := hn 8 (by decide)
  have n9 := hn 9 (by decide)
  have n10 := hn 10 (by decide)
  have n20 := hn 20 (by decide)
  have n21 := hn 21 (by decide)
  have n22 := hn 22 (by decide)
  have n30 := hn 30 (by decide)
  have n31 := hn 31 (by decide)
  have n32 := hn 32 (by decide)
  have n33 := hn 33 (by decide)
  have n34 := hn 34 (by decide)
  have n35 := hn 35 (by decide)
  have n36 := hn 36 (by decide)
  have n40 := hn 40 (by decide)
  have n41 := hn 41 (by decide)
  have n42 := hn 42 (by decide)
  have n43 := hn 43 (by decide)
  have n44 := hn 44 (by decide)
  have n45 := hn 45 (by decide)
  have n50 := hn 50 (by decide)
  have n51 := hn 51 (by decide)
  clear hn h
  go_enter Tryz.func102, Tryz.ntmps102
  go_wp2
  refine bodyPost_ret (v := _) (by simp [results, Tryz.results102, go_sem]; rfl) rfl ?_
  exact ⟨rfl, (Below.refl _ _).alloc (Nat.le_refl _) _⟩

set_option maxHeartbeats 1000000 in
theorem refArity_any (op : Int) (w : World) : Calls Tryz.prog 77 #[.int .i64 op] w fun e w' => e = .returned (.int .i64 (arF op)) ∧ w' = w := by
  have hcs : op < 1 ∨ (1 ≤ op ∧ op ≤ 10) ∨ (10 < op ∧ op < 20) ∨ (20 ≤ op ∧ op ≤ 22) ∨ (22 < op ∧ op < 30) ∨ (30 ≤ op ∧ op ≤ 36) ∨ (36 < op ∧ op < 40) ∨ (40 ≤ op ∧ op ≤ 45) ∨ (45 < op ∧ op < 50) ∨ op = 50 ∨ op = 51 ∨ 51 < op := by omega
  rcases hcs with h | ⟨h, h'⟩ | ⟨h, h'⟩ | ⟨h, h'⟩ | ⟨h, h'⟩ | ⟨h, h'⟩ | ⟨h, h'⟩ | ⟨h, h'⟩ | ⟨h, h'⟩ | h | h | h
  all_goals
    first | subst h | (have h50 : (op == 50) = false := by simp; omega)
    try (have h51 : (op == 51) = false := by simp; omega)
    go_enter Tryz.func77, Tryz.ntmps77
    go_wp2
    go_ret
    exact ⟨ret_int (by unfold arF; split <;> (try split) <;> (try split) <;> first | rfl | omega), rfl⟩

theorem lv_cases (op : Int) : (op = 51 ∨ op = 50 ∨ op = 21 ∨ op = 40 ∨ op = 41 ∨ op = 42 ∨ op = 43 ∨ op = 44 ∨ op = 45 ∨ op = 30 ∨ op = 31 ∨ op = 32 ∨ op = 33 ∨ op = 34 ∨ op = 20) ∨ ((op ≠ 51 ∧ op ≠ 50 ∧ op ≠ 21 ∧ op ≠ 40 ∧ op ≠ 41 ∧ op ≠ 42 ∧ op ≠ 43 ∧ op ≠ 44 ∧ op ≠ 45 ∧ op ≠ 30 ∧ op ≠ 31 ∧ op ≠ 32 ∧ op ≠ 33 ∧ op ≠ 34 ∧ op ≠ 20) ∧ lvF op = 8 ∧ akF op = 1 ∧ akS op = 1) := by
  by_cases h : op = 51 ∨ op = 50 ∨ op = 21 ∨ op = 40 ∨ op = 41 ∨ op = 42 ∨ op = 43 ∨ op = 44 ∨ op = 45 ∨ op = 30 ∨ op = 31 ∨ op = 32 ∨ op = 33 ∨ op = 34 ∨ op = 20
  · exact .inl h
  · refine .inr ⟨by omega, ?_, ?_, ?_⟩
    · unfold lvF; repeat' (first | rfl | (rw [if_neg (by omega)]))
    · unfold akF; repeat' (first | rfl | (rw [if_neg (by omega)]))
    · unfold akS; repeat' (first | rfl | (rw [if_neg (by omega)]))

set_option maxHeartbeats 2000000 in
theorem level_any (op : Int) (w : World) : Calls Tryz.prog 80 #[.int .i64 op] w fun e w' => e = .returned (.int .i64 (lvF op)) ∧ w' = w := by
  rcases lv_cases op with h | ⟨⟨h1, h2, h3, h4, h5, h6, h7, h8, h9, h10, h11, h12, h13, h14, h15⟩, e, _, _⟩
  · rcases h with h | h | h | h | h | h | h | h | h | h | h | h | h | h | h
    all_goals
      subst h
      go_enter Tryz.func80, Tryz.ntmps80
      go_wp2
      go_ret
      exact ⟨rfl, rfl⟩
  · rw [e]
    rw [← beq_eq_false_iff_ne] at h1 h2 h3 h4 h5 h6 h7 h8 h9 h10 h11 h12 h13 h14 h15
    clear e
    go_enter Tryz.func80, Tryz.ntmps80
    go_wp2
    go_ret
    exact ⟨rfl, rfl⟩

set_option maxHeartbeats 2000000 in
theorem asked_any (op : Int) (w : World) : Calls Tryz.prog 79 #[.int .i64 op] w fun e w' => e = .returned (.tuple #[.int .i64 (akF op), .int .i64 (akS op)]) ∧ w' = w := by
  rcases lv_cases op with h | ⟨⟨h1, h2, h3, h4, h5, h6, h7, h8, h9, h10, h11, h12, h13, h14, h15⟩, _, e, e'⟩
  · rcases h with h | h | h | h | h | h | h | h | h | h | h | h | h | h | h
    all_goals
      subst h
      go_enter Tryz.func79, Tryz.ntmps79
      go_wp2
      refine bodyPost_ret (v := _) (by simp [results, Tryz.results79, go_sem]; rfl) rfl ?_
      exact ⟨rfl, rfl⟩
  · rw [e, e']
    rw [← beq_eq_false_iff_ne] at h1 h2 h3 h4 h5 h6 h7 h8 h9 h10 h11 h12 h13 h14 h15
    clear e e'
    go_enter Tryz.func79, Tryz.ntmps79
    go_wp2
    refine bodyPost_ret (v := _) (by simp [results, Tryz.results79, go_sem]; rfl) rfl ?_
    exact ⟨rfl, rfl⟩
end Go.Proofs.YtnicolaphmffkaaGreatDoor
namespace Go.Proofs.YtnicolaphmffkaaGreatDoor
open Go.RowKit
set_option linter.unusedVariables false
set_option linter.unusedSimpArgs false

/-- A node. -/
structure Nd where
  op : Int
  val : Int
  name : ByteArray
  line : Int
  col : Int
/-- A list of nodes as it is read. -/
def Nds (w : World) (v : Value) (L : List Nd) : Prop :=
  ∃ a cap, v = .slice a L.length cap ∧ (L = [] ∨ ∃ g o, a = some ⟨g, o, none⟩ ∧ g < w.heap.size ∧ ∀ (i : Nat) (h : i < L.length),
    w.cell? ⟨g, o + i * 5, none⟩ = some (.int .i64 L[i].op) ∧ w.cell? ⟨g, o + i * 5 + 1, none⟩ = some (.int .i32 L[i].val) ∧ w.cell? ⟨g, o + i * 5 + 2, none⟩ = some (.string L[i].name) ∧ w.cell? ⟨g, o + i * 5 + 3, none⟩ = some (.int .i64 L[i].line) ∧ w.cell? ⟨g, o + i * 5 + 4, none⟩ = some (.int .i64 L[i].col))
theorem Nds.below {w w' : World} {v : Value} {L : List Nd} (h : Nds w v L) (hb : Below w.heap.size w w') : Nds w' v L := by
  obtain ⟨a, cap, rfl, h | ⟨g, o, rfl, hg, hc⟩⟩ := h
  · exact ⟨a, cap, rfl, .inl h⟩
  · refine ⟨_, cap, rfl, .inr ⟨g, o, rfl, Nat.lt_of_lt_of_le hg hb.size, fun i hi => ?_⟩⟩
    obtain ⟨h0, h1, h2, h3, h4⟩ := hc i hi
    exact ⟨(hb.cell (p := ⟨g, _, none⟩) hg).trans h0, (hb.cell (p := ⟨g, _, none⟩) hg).trans h1, (hb.cell (p := ⟨g, _, none⟩) hg).trans h2, (hb.cell (p := ⟨g, _, none⟩) hg).trans h3, (hb.cell (p := ⟨g, _, none⟩) hg).trans h4⟩

/-- Going to the left: where the expression begins. -/
def spanGo (L : List Nd) : Nat → Int → Int
  | 0, _ => -1
  | j + 1, w => if arF (L.getD j ⟨0, 0, ⟨#[]⟩, 0, 0⟩).op = -1 then -1 else if w + (arF (L.getD j ⟨0, 0, ⟨#[]⟩, 0, 0⟩).op - 1) = 0 then (j : Int) else spanGo L j (w + (arF (L.getD j ⟨0, 0, ⟨#[]⟩, 0, 0⟩).op - 1))
def spanF (L : List Nd) (i : Int) : Int := if 0 ≤ i ∧ i < L.length then spanGo L (i.toNat + 1) 1 else -1
theorem spanGo_none {L : List Nd} {j : Nat} (h : j < L.length) (w : Int) (e : arF L[j].op = -1) : spanGo L (j + 1) w = -1 := by
  unfold spanGo; rw [List.getD_eq_getElem?_getD, List.getElem?_eq_getElem h]; simp [e]
theorem spanGo_hit {L : List Nd} {j : Nat} (h : j < L.length) (w : Int) (e : arF L[j].op ≠ -1) (e2 : w + (arF L[j].op - 1) = 0) : spanGo L (j + 1) w = j := by
  unfold spanGo; rw [List.getD_eq_getElem?_getD, List.getElem?_eq_getElem h]; simp [e, e2]
theorem spanGo_on {L : List Nd} {j : Nat} (h : j < L.length) (w : Int) (e : arF L[j].op ≠ -1) (e2 : ¬ w + (arF L[j].op - 1) = 0) : spanGo L (j + 1) w = spanGo L j (w + (arF L[j].op - 1)) := by
  conv => lhs; unfold spanGo
  rw [List.getD_eq_getElem?_getD, List.getElem?_eq_getElem h]; simp [e, e2]
theorem arF_bd (op : Int) : -1 ≤ arF op ∧ arF op ≤ 2 := by
  unfold arF; split
  · omega
  · split
    · omega
    · split <;> omega

set_option maxRecDepth 100000 in
set_option maxHeartbeats 4000000 in
theorem span_any (L : List Nd) (v : Value) (i : Int) (w : World) (hN : Nds w v L) (hlen : L.length ≤ 4611686018427387904) (hi1 : -9223372036854775808 ≤ i) (hi2 : i < 9223372036854775808) :
    Calls Tryz.prog 101 #[v, .int .i64 i] w fun e w' => e = .returned (.int .i64 (spanF L i)) ∧ Below w.heap.size w w' := by
  obtain ⟨a, cap, rfl, hc⟩ := hN
  by_cases h1 : (L.length : Int) ≤ i
  · have hr : spanF L i = -1 := by unfold spanF; rw [if_neg (by omega)]
    rw [hr]
    clear hc hr
    go_enter Tryz.func101, Tryz.ntmps101
    go_wp2
    go_ret
    exact ⟨rfl, Below.refl _ _⟩
  · by_cases h2 : i < 0
    · have hr : spanF L i = -1 := by unfold spanF; rw [if_neg (by omega)]
      rw [hr]
      clear hc hr
      go_enter Tryz.func101, Tryz.ntmps101
      go_wp2
      go_loop [6] (fun t => t = .int .i64 i) (fun _ => 0)
      case atStart => exact rfl
      case round =>
        obtain rfl := hrel
        go_wp2
        go_ret
        exact ⟨rfl, Below.refl _ _⟩
    · have hr : spanF L i = spanGo L (i.toNat + 1) 1 := by unfold spanF; rw [if_pos (by omega)]
      rw [hr]
      obtain ⟨g, o, rfl, hg, hC⟩ := hc.resolve_left (by intro h; rw [h] at h1; simp at h1; omega)
      obtain ⟨m, rfl⟩ : ∃ m : Nat, i = m := ⟨i.toNat, by omega⟩
      rw [show (m : Int).toNat = m by omega]
      generalize hA : spanGo L (m + 1) 1 = A
      clear hc hr hi1 hi2
      go_enter Tryz.func101, Tryz.ntmps101
      go_wp2
      go_loopw [5, 6] (fun t5 t6 wr => ∃ (k : Nat) (wd : Int), k ≤ m + 1 ∧ t6 = .int .i64 ((k : Int) - 1) ∧ t5 = .int .i64 wd ∧ 1 ≤ wd ∧ wd + k ≤ m + 2 ∧ spanGo L k wd = A ∧ Below w.heap.size w wr) (fun _ t6 _ => (intOf t6 + 1).toNat)
      case atStart => exact ⟨m + 1, 1, by omega, by go_num, rfl, by omega, by omega, hA, Below.refl _ _⟩
      case round =>
        obtain ⟨k, wd, hk, rfl, rfl, hw1, hw2, hs, hb⟩ := hrel
        cases k with
        | zero =>
          have hs' : A = -1 := by rw [← hs]; rfl
          subst hs'
          go_wp2
          go_ret
          exact ⟨rfl, hb⟩
        | succ j =>
          have hj : j < L.length := by omega
          have hp0 := (hb.cell (p := ⟨g, o + j * 5, none⟩) hg).trans (hC j hj).1
          have hbd := arF_bd L[j].op
          have hjL : (j : Int) < (L.length : Int) := by omega
          have hj0 : (0 : Int) ≤ (j : Int) := by omega
          rw [show ((j + 1 : Nat) : Int) - 1 = (j : Int) by omega]
          by_cases hn : arF L[j].op = -1
          · have hA' : A = -1 := by rw [← hs]; exact spanGo_none hj wd hn
            subst hA'
            have hSh := shape_none L[j].op wr hn
            generalize L[j].op = op at *
            go_wp2_with (go_at_call 102; (with_reducible refine hSh.mono ?_); rintro e w1 ⟨rfl, hb1⟩)
            go_ret
            have hbs := hb.size
            have hb1s := hb1.size
            exact ⟨rfl, (hb.trans (hb1.mono hbs)).alloc (by omega) _⟩
          · have hSh := shape_any L[j].op wr hn
            by_cases he : wd + (arF L[j].op - 1) = 0
            · have hA' : A = j := by rw [← hs]; exact spanGo_hit hj wd hn he
              subst hA'
              generalize L[j].op = op at *
              generalize arF op = ar at *
              go_wp2_with (go_at_call 102; (with_reducible refine hSh.mono ?_); rintro e w1 ⟨⟨y0, y1, rfl, _, _⟩, hb1⟩)
              go_ret
              have hbs := hb.size
              have hb1s := hb1.size
              exact ⟨rfl, (hb.trans (hb1.mono hbs)).alloc (by omega) _⟩
            · have hA' : Hid (spanGo L j (wd + (arF L[j].op - 1)) = A) := by
                show spanGo L j (wd + (arF L[j].op - 1)) = A
                rw [← hs]; exact (spanGo_on hj wd hn he).symm
              generalize L[j].op = op at *
              generalize arF op = ar at *
              have he' : (wd + (ar - 1) == 0) = false := by simp; omega
              go_wp2_with (go_at_call 102; (with_reducible refine hSh.mono ?_); rintro e w1 ⟨⟨y0, y1, rfl, _, _⟩, hb1⟩)
              have hbs := hb.size
              have hb1s := hb1.size
              go_roundw
              case rel => exact ⟨j, wd + (ar - 1), by omega, by go_num, by go_num, by omega, by omega, hA'.out, (hb.trans (hb1.mono hbs)).alloc (by omega) _⟩
              case measure => simp [intOf]

set_option maxRecDepth 100000 in
set_option maxHeartbeats 4000000 in
theorem refSpan_any (L : List Nd) (v : Value) (i : Int) (w : World) (hN : Nds w v L) (hlen : L.length ≤ 4611686018427387904) (hi1 : -9223372036854775808 ≤ i) (hi2 : i < 9223372036854775808) :
    Calls Tryz.prog 42 #[v, .int .i64 i] w fun e w' => e = .returned (.int .i64 (spanF L i)) ∧ Below w.heap.size w w' := by
  obtain ⟨a, cap, rfl, hc⟩ := hN
  by_cases h2 : i < 0
  · have hr : spanF L i = -1 := by unfold spanF; rw [if_neg (by omega)]
    rw [hr]
    clear hc hr
    go_enter Tryz.func42, Tryz.ntmps42
    go_wp2
    go_ret
    exact ⟨rfl, Below.refl _ _⟩
  · by_cases h1 : (L.length : Int) ≤ i
    · have hr : spanF L i = -1 := by unfold spanF; rw [if_neg (by omega)]
      rw [hr]
      clear hc hr
      go_enter Tryz.func42, Tryz.ntmps42
      go_wp2
      go_ret
      exact ⟨rfl, Below.refl _ _⟩
    · have hr : spanF L i = spanGo L (i.toNat + 1) 1 := by unfold spanF; rw [if_pos (by omega)]
      rw [hr]
      obtain ⟨g, o, rfl, hg, hC⟩ := hc.resolve_left (by intro h; rw [h] at h1; simp at h1; omega)
      obtain ⟨m, rfl⟩ : ∃ m : Nat, i = m := ⟨i.toNat, by omega⟩
      rw [show (m : Int).toNat = m by omega]
      generalize hA : spanGo L (m + 1) 1 = A
      have h1' : ¬ L.length ≤ m := by omega
      have h2' : ¬ (m : Int) < 0 := by omega
      have h3' : decide (L.length ≤ m) = false := by simp; omega
      clear hc hr hi1 hi2
      go_enter Tryz.func42, Tryz.ntmps42
      go_wp2
      go_loopw [5, 6] (fun t5 t6 wr => ∃ (k : Nat) (wd : Int), k ≤ m + 1 ∧ t6 = .int .i64 ((k : Int) - 1) ∧ t5 = .int .i64 wd ∧ 1 ≤ wd ∧ wd + k ≤ m + 2 ∧ spanGo L k wd = A ∧ Below w.heap.size w wr) (fun _ t6 _ => (intOf t6 + 1).toNat)
      case atStart => exact ⟨m + 1, 1, by omega, by go_num, rfl, by omega, by omega, hA, Below.refl _ _⟩
      case round =>
        obtain ⟨k, wd, hk, rfl, rfl, hw1, hw2, hs, hb⟩ := hrel
        cases k with
        | zero =>
          have hs' : A = -1 := by rw [← hs]; rfl
          subst hs'
          go_wp2
          go_ret
          exact ⟨rfl, hb⟩
        | succ j =>
          have hj : j < L.length := by omega
          have hp0 := (hb.cell (p := ⟨g, o + j * 5, none⟩) hg).trans (hC j hj).1
          have hbd := arF_bd L[j].op
          have hjL : (j : Int) < (L.length : Int) := by omega
          have hj0 : (0 : Int) ≤ (j : Int) := by omega
          rw [show ((j + 1 : Nat) : Int) - 1 = (j : Int) by omega]
          have hSh := refArity_any L[j].op wr
          by_cases hn : arF L[j].op = -1
          · have hA' : A = -1 := by rw [← hs]; exact spanGo_none hj wd hn
            subst hA'
            rw [hn] at hSh
            generalize L[j].op = op at *
            go_wp2_with (go_at_call 77; (with_reducible refine hSh.mono ?_); rintro e w1 ⟨rfl, rfl⟩)
            go_ret
            exact ⟨rfl, hb⟩
          · by_cases he : wd + (arF L[j].op - 1) = 0
            · have hA' : A = j := by rw [← hs]; exact spanGo_hit hj wd hn he
              subst hA'
              generalize L[j].op = op at *
              generalize arF op = ar at *
              have hn' : ¬ ar < 0 := by omega
              have he2 : wd - 1 + ar = 0 := by omega
              go_wp2_with (go_at_call 77; (with_reducible refine hSh.mono ?_); rintro e w1 ⟨rfl, rfl⟩)
              go_ret
              exact ⟨rfl, hb⟩
            · have hA' : Hid (spanGo L j (wd + (arF L[j].op - 1)) = A) := by
                show spanGo L j (wd + (arF L[j].op - 1)) = A
                rw [← hs]; exact (spanGo_on hj wd hn he).symm
              generalize L[j].op = op at *
              generalize arF op = ar at *
              have hn' : ¬ ar < 0 := by omega
              have he' : (wd - 1 + ar == 0) = false := by simp; omega
              go_wp2_with (go_at_call 77; (with_reducible refine hSh.mono ?_); rintro e w1 ⟨rfl, rfl⟩)
              go_roundw
              case rel => exact ⟨j, wd - 1 + ar, by omega, by go_num, by go_num, by omega, by omega, by rw [show wd - 1 + ar = wd + (ar - 1) by omega]; exact hA'.out, hb⟩
              case measure => simp [intOf]
end Go.Proofs.YtnicolaphmffkaaGreatDoor
namespace Go.Proofs.YtnicolaphmffkaaGreatDoor
open Go.RowKit
set_option linter.unusedVariables false
set_option linter.unusedSimpArgs false

/-- A node's five cells. -/
def Nd.cs (x : Nd) : List Value := [.int .i64 x.op, .int .i32 x.val, .string x.name, .int .i64 x.line, .int .i64 x.col]
theorem cells_ten {W : World} (xs : List Value) (t : TypeId) : ∀ j u, xs[j]? = some u → (W.alloc (.cells xs.toArray t)).cell? ((⟨W.heap.size, 0, none⟩ : Addr).add j) = some u := by
  intro j u h
  have := (Has.new W xs.toArray t rfl).2.1 j
  have e : ((⟨W.heap.size, 0, none⟩ : Addr).add j) = ⟨W.heap.size, j, none⟩ := by
    rw [Go.WideShapes.add_plain, Nat.zero_add]
  rw [e, this]
  simpa using h

/-- The two marks. -/
def mark (n : Int) : Nd := ⟨0, n, ⟨#[114, 111, 111, 109]⟩, 0, 0⟩
end Go.Proofs.YtnicolaphmffkaaGreatDoor
namespace Go.Proofs.YtnicolaphmffkaaGreatDoor
open Go.RowKit
set_option linter.unusedVariables false
set_option linter.unusedSimpArgs false

structure St where
  kind : Int
  name : ByteArray
  ix : Int
  expr : List Nd
  line : Int
  col : Int
structure Nx where
  dst : ByteArray
  cnd : List Nd
  line : Int
  col : Int
structure Sg where
  green : List ByteArray
  enter : List St
  during : List St
  leave : List St
  nexts : List Nx
structure Dc where
  kind : Int
  line : Int
  col : Int
  name : ByteArray
  with_ : ByteArray
  sort : Int
  n0 : Int
  n1 : Int
  n2 : Int
  expr : List Nd
  sg : Sg
structure Pl where
  name : ByteArray
  decls : List Dc

def NdR (S : Nat → Prop) (w : World) (cs : List Value) (x : Nd) : Prop := cs = x.cs
def Exs := Rows 5 2932031007317 NdR
def StR (S : Nat → Prop) (w : World) (cs : List Value) (x : St) : Prop := ∃ v, cs = [.int .i64 x.kind, .string x.name, .int .i64 x.ix, v, .int .i64 x.line, .int .i64 x.col] ∧ Exs S w v x.expr
def NxR (S : Nat → Prop) (w : World) (cs : List Value) (x : Nx) : Prop := ∃ v, cs = [.string x.dst, v, .int .i64 x.line, .int .i64 x.col] ∧ Exs S w v x.cnd
def TxR (S : Nat → Prop) (w : World) (cs : List Value) (x : ByteArray) : Prop := cs = [.string x]
def Sts := Rows 6 1954687338211 StR
def Nxs := Rows 4 2513169434900 NxR
def Txs := Rows 1 8796093022100 TxR
/-- The five lists of a stage. -/
structure SgV where
  green : Value
  enter : Value
  during : Value
  leave : Value
  nexts : Value
def SgR (S : Nat → Prop) (w : World) (s : SgV) (x : Sg) : Prop := Txs S w s.green x.green ∧ Sts S w s.enter x.enter ∧ Sts S w s.during x.during ∧ Sts S w s.leave x.leave ∧ Nxs S w s.nexts x.nexts
def SgV.cs (s : SgV) : List Value := [s.green, s.enter, s.during, s.leave, s.nexts]
/-- A declaration's cells with its lists' values. -/
def Dc.cs (x : Dc) (v : Value) (s : SgV) : List Value :=
  [.int .i64 x.kind, .int .i64 x.line, .int .i64 x.col, .string x.name, .string x.with_, .int .i64 x.sort, .int .i32 x.n0, .int .i32 x.n1, .int .i32 x.n2, v, s.green, s.enter, s.during, s.leave, s.nexts]
def DcR (S : Nat → Prop) (w : World) (cs : List Value) (x : Dc) : Prop := ∃ v s, cs = x.cs v s ∧ Exs S w v x.expr ∧ SgR S w s x.sg
def Dcs := Rows 15 628292358710 DcR
def PlR (S : Nat → Prop) (w : World) (v : Value) (p : Pl) : Prop := ∃ vd, v = .agg #[.string p.name, vd] ∧ Dcs S w vd p.decls

theorem Exs.mv {S S' : Nat → Prop} {w w' : World} {v : Value} {L : List Nd} (h : Exs S w v L) (hm : Mv S w S' w') : Exs S' w' v L := Rows.mv h hm (fun _ _ h => h)
theorem Txs.mv {S S' : Nat → Prop} {w w' : World} {v : Value} {L : List ByteArray} (h : Txs S w v L) (hm : Mv S w S' w') : Txs S' w' v L := Rows.mv h hm (fun _ _ h => h)
theorem StR.mv {S S' : Nat → Prop} {w w' : World} {cs : List Value} {x : St} (h : StR S w cs x) (hm : Mv S w S' w') : StR S' w' cs x := by
  obtain ⟨v, h1, h2⟩ := h; exact ⟨v, h1, h2.mv hm⟩
theorem NxR.mv {S S' : Nat → Prop} {w w' : World} {cs : List Value} {x : Nx} (h : NxR S w cs x) (hm : Mv S w S' w') : NxR S' w' cs x := by
  obtain ⟨v, h1, h2⟩ := h; exact ⟨v, h1, h2.mv hm⟩
theorem Sts.mv {S S' : Nat → Prop} {w w' : World} {v : Value} {L : List St} (h : Sts S w v L) (hm : Mv S w S' w') : Sts S' w' v L := Rows.mv h hm (fun _ _ h => h.mv hm)
theorem Nxs.mv {S S' : Nat → Prop} {w w' : World} {v : Value} {L : List Nx} (h : Nxs S w v L) (hm : Mv S w S' w') : Nxs S' w' v L := Rows.mv h hm (fun _ _ h => h.mv hm)
theorem SgR.mv {S S' : Nat → Prop} {w w' : World} {s : SgV} {x : Sg} (h : SgR S w s x) (hm : Mv S w S' w') : SgR S' w' s x :=
  ⟨h.1.mv hm, h.2.1.mv hm, h.2.2.1.mv hm, h.2.2.2.1.mv hm, h.2.2.2.2.mv hm⟩
theorem DcR.mv {S S' : Nat → Prop} {w w' : World} {cs : List Value} {x : Dc} (h : DcR S w cs x) (hm : Mv S w S' w') : DcR S' w' cs x := by
  obtain ⟨v, s, h1, h2, h3⟩ := h; exact ⟨v, s, h1, h2.mv hm, h3.mv hm⟩
theorem Dcs.mv {S S' : Nat → Prop} {w w' : World} {v : Value} {L : List Dc} (h : Dcs S w v L) (hm : Mv S w S' w') : Dcs S' w' v L := Rows.mv h hm (fun _ _ h => h.mv hm)
theorem PlR.mv {S S' : Nat → Prop} {w w' : World} {v : Value} {p : Pl} (h : PlR S w v p) (hm : Mv S w S' w') : PlR S' w' v p := by
  obtain ⟨vd, h1, h2⟩ := h; exact ⟨vd, h1, h2.mv hm⟩
theorem Exs.below {S : Nat → Prop} {w w' : World} {v : Value} {L : List Nd} (h : Exs S w v L) (hb : Below w.heap.size w w') : Exs S w' v L := h.mv (.below hb)
theorem Txs.below {S : Nat → Prop} {w w' : World} {v : Value} {L : List ByteArray} (h : Txs S w v L) (hb : Below w.heap.size w w') : Txs S w' v L := h.mv (.below hb)
theorem Sts.below {S : Nat → Prop} {w w' : World} {v : Value} {L : List St} (h : Sts S w v L) (hb : Below w.heap.size w w') : Sts S w' v L := h.mv (.below hb)
theorem Nxs.below {S : Nat → Prop} {w w' : World} {v : Value} {L : List Nx} (h : Nxs S w v L) (hb : Below w.heap.size w w') : Nxs S w' v L := h.mv (.below hb)
theorem SgR.below {S : Nat → Prop} {w w' : World} {s : SgV} {x : Sg} (h : SgR S w s x) (hb : Below w.heap.size w w') : SgR S w' s x := h.mv (.below hb)
theorem Dcs.below {S : Nat → Prop} {w w' : World} {v : Value} {L : List Dc} (h : Dcs S w v L) (hb : Below w.heap.size w w') : Dcs S w' v L := h.mv (.below hb)
theorem PlR.below {S : Nat → Prop} {w w' : World} {v : Value} {p : Pl} (h : PlR S w v p) (hb : Below w.heap.size w w') : PlR S w' v p := h.mv (.below hb)

/-- The nodes as NesB reads them. -/
theorem Exs.nds {S : Nat → Prop} {w : World} {v : Value} {L : List Nd} (h : Exs S w v L) : Nds w v L ∧ (v = .slice none 0 0 ∨ ∃ ad cap, v = .slice (some ad) L.length cap) := by
  refine ⟨?_, ?_⟩
  · obtain ⟨a, cap, rfl, _, hc | ⟨g, o, rfl, _, hg, hx⟩⟩ := Rows.any h
    · exact ⟨a, cap, rfl, .inl hc⟩
    · refine ⟨_, cap, rfl, .inr ⟨g, o, rfl, hg, fun i hi => ?_⟩⟩
      obtain ⟨cs, _, rfl, h3⟩ := hx i hi
      exact ⟨h3 0 _ rfl, h3 1 _ rfl, h3 2 _ rfl, h3 3 _ rfl, h3 4 _ rfl⟩
  · rcases Rows.val h with ⟨h, _⟩ | ⟨ad, cap, h, _⟩
    · exact .inl h
    · exact .inr ⟨ad, cap, h⟩

end Go.Proofs.YtnicolaphmffkaaGreatDoor
namespace Go.Proofs.YtnicolaphmffkaaGreatDoor
open Go.RowKit
set_option linter.unusedVariables false
set_option linter.unusedSimpArgs false

/-- An operand's nest, with its brackets. -/
def bump (asked : Int) (x : Int × Int) : Int := if lvF x.1 < asked then x.2 + 1 else x.2
/-- The greatest so far: of the first k operands. -/
def mostK (op : Int) : List (Int × Int) → Int
  | [] => 0
  | [x] => max 0 (bump (akF op) x)
  | x :: y :: _ => max (max 0 (bump (akF op) x)) (bump (akS op) y)
def nodeNest (op : Int) (xs : List (Int × Int)) : Int := mostK op xs + (if opF op = true then 1 else 0)
def stepSt (S : List (Int × Int)) (op : Int) : List (Int × Int) := S.take (S.length - (arF op).toNat) ++ [(op, nodeNest op (S.drop (S.length - (arF op).toNat)))]
def runSt (L : List Nd) (k : Nat) : List (Int × Int) := (L.take k).foldl (fun S n => stepSt S n.op) []
def nestF (L : List Nd) : Int := if spanF L (L.length - 1) = 0 then ((runSt L L.length).headD (0, 0)).2 else -1

theorem runSt_zero (L : List Nd) : runSt L 0 = [] := rfl
theorem runSt_succ (L : List Nd) (k : Nat) (h : k < L.length) : runSt L (k + 1) = stepSt (runSt L k) L[k].op := by
  unfold runSt; rw [List.take_succ_eq_append_getElem h, List.foldl_append]; rfl
theorem stepSt_len (S : List (Int × Int)) (op : Int) : (stepSt S op).length = S.length - (arF op).toNat + 1 := by
  unfold stepSt; simp

theorem span_high (L : List Nd) : ∀ (k : Nat) (w : Int), k ≤ L.length → 1 ≤ w → spanGo L k w = 0 → ((runSt L k).length : Int) = w ∧ ∀ j (hj : j < L.length), j < k → arF L[j].op ≠ -1 ∧ arF L[j].op ≤ (runSt L j).length
  | 0, w, _, _, h => by simp [spanGo] at h
  | j + 1, w, hk, hw, h => by
    have hj : j < L.length := by omega
    have hbd := arF_bd L[j].op
    by_cases hn : arF L[j].op = -1
    · rw [spanGo_none hj w hn] at h; simp at h
    · by_cases he : w + (arF L[j].op - 1) = 0
      · rw [spanGo_hit hj w hn he] at h
        have hj0 : j = 0 := by omega
        subst hj0
        have ha : arF L[0].op = 0 := by omega
        refine ⟨?_, ?_⟩
        · rw [runSt_succ L 0 hj, stepSt_len, runSt_zero, ha]; simp; omega
        · intro i hi hlt
          obtain rfl : i = 0 := by omega
          exact ⟨hn, by rw [runSt_zero, ha]; simp⟩
      · rw [spanGo_on hj w hn he] at h
        obtain ⟨h1, h2⟩ := span_high L j _ (by omega) (by omega) h
        refine ⟨?_, ?_⟩
        · rw [runSt_succ L j hj, stepSt_len]; omega
        · intro i hi hlt
          by_cases e : i = j
          · subst e; exact ⟨hn, by omega⟩
          · exact h2 i hi (by omega)

theorem bump_bd (a : Int) (x : Int × Int) : x.2 ≤ bump a x ∧ bump a x ≤ x.2 + 1 := by unfold bump; split <;> omega
theorem mostK_bd (op : Int) (xs : List (Int × Int)) (B : Int) (hB : 0 ≤ B) (h : ∀ x ∈ xs, 0 ≤ x.2 ∧ x.2 ≤ B) : 0 ≤ mostK op xs ∧ mostK op xs ≤ B + 1 := by
  match xs, h with
  | [], _ => simp [mostK]; omega
  | [x], h =>
    have h1 := h x (by simp)
    have h2 := bump_bd (akF op) x
    simp only [mostK]; omega
  | x :: y :: r, h =>
    have h1 := h x (by simp)
    have h2 := bump_bd (akF op) x
    have h3 := h y (by simp)
    have h4 := bump_bd (akS op) y
    simp only [mostK]; omega
theorem nodeNest_bd (op : Int) (xs : List (Int × Int)) (B : Int) (hB : 0 ≤ B) (h : ∀ x ∈ xs, 0 ≤ x.2 ∧ x.2 ≤ B) : 0 ≤ nodeNest op xs ∧ nodeNest op xs ≤ B + 2 := by
  have := mostK_bd op xs B hB h
  unfold nodeNest; split <;> omega
theorem runSt_bd (L : List Nd) : ∀ k, k ≤ L.length → ∀ x ∈ runSt L k, 0 ≤ x.2 ∧ x.2 ≤ 2 * (k : Int)
  | 0, _ => by intro x hx; rw [runSt_zero] at hx; simp at hx
  | k + 1, hk => by
    have ih := runSt_bd L k (by omega)
    rw [runSt_succ L k (by omega)]
    intro x hx
    unfold stepSt at hx
    rcases List.mem_append.1 hx with h | h
    · have := ih x (List.mem_of_mem_take h); omega
    · simp only [List.mem_singleton] at h
      have := nodeNest_bd L[k].op ((runSt L k).drop ((runSt L k).length - (arF L[k].op).toNat)) (2 * k) (by omega) (fun y hy => ih y (List.mem_of_mem_drop hy))
      rw [h]; simp only; omega

/-- A list of what waits, as it is read. -/
def Ms (w : World) (v : Value) (xs : List (Int × Int)) : Prop :=
  ∃ a cap, v = .slice a xs.length cap ∧ (xs = [] ∨ ∃ g o, a = some ⟨g, o, none⟩ ∧ g < w.heap.size ∧ ∀ (i : Nat) (h : i < xs.length),
    w.cell? ⟨g, o + i * 2, none⟩ = some (.int .i64 (lvF xs[i].1)) ∧ w.cell? ⟨g, o + i * 2 + 1, none⟩ = some (.int .i64 xs[i].2))

set_option maxRecDepth 100000 in
set_option maxHeartbeats 4000000 in
theorem over_nil (op ar y0 y1 : Int) (v : Value) (w : World) (hM : Ms w v []) :
    Calls Tryz.prog 103 #[.agg #[.int .i64 ar, .int .i64 (lvF op), .bool (opF op), .int .i64 y0, .int .i64 y1], v] w fun e w' => e = .returned (.int .i64 (nodeNest op [])) ∧ Below w.heap.size w w' := by
  obtain ⟨a, cap, rfl, hx⟩ := hM
  clear hx
  unfold nodeNest mostK
  generalize lvF op = lv
  cases hop : opF op
  all_goals
    clear hop
    go_enter Tryz.func103, Tryz.ntmps103
    go_wp2
    go_loopw [5, 11] (fun t5 t11 wr => t5 = .int .i64 0 ∧ t11 = .int .i64 0 ∧ Below w.heap.size w wr ∧ Has wr w.heap.size #[.int .i64 ar, .int .i64 lv, .bool _, .int .i64 y0, .int .i64 y1]) (fun _ _ _ => 0)
    case atStart => exact ⟨rfl, rfl, (Below.refl _ _).alloc (Nat.le_refl _) _, Has.new _ _ _ rfl⟩
    case round =>
      obtain ⟨rfl, rfl, hb, hH⟩ := hrel
      obtain ⟨x0, X1, x2⟩ := hH
      go_wp2
      go_ret
      exact ⟨rfl, hb⟩

set_option maxRecDepth 100000 in
set_option maxHeartbeats 8000000 in
theorem over_one (op ar y1 : Int) (x : Int × Int) (v : Value) (w : World) (hM : Ms w v [x]) (hx : 0 ≤ x.2 ∧ x.2 ≤ 4611686018427387904) :
    Calls Tryz.prog 103 #[.agg #[.int .i64 ar, .int .i64 (lvF op), .bool (opF op), .int .i64 (akF op), .int .i64 y1], v] w fun e w' => e = .returned (.int .i64 (nodeNest op [x])) ∧ Below w.heap.size w w' := by
  obtain ⟨a, cap, rfl, hc⟩ := hM
  obtain ⟨g, o, rfl, hg, hC⟩ := hc.resolve_left (by simp)
  obtain ⟨p0, p1⟩ := hC 0 (by simp)
  simp only [List.getElem_cons_zero, Nat.zero_mul, Nat.add_zero] at p0 p1
  have hB : Hid (nodeNest op [x] = (max 0 (bump (akF op) x)) + (if opF op = true then 1 else 0)) := rfl
  have hbu := bump_bd (akF op) x
  have hbe : Hid (bump (akF op) x = if lvF x.1 < akF op then x.2 + 1 else x.2) := rfl
  generalize nodeNest op [x] = N at *
  generalize bump (akF op) x = b at *
  generalize lvF x.1 = lx at *
  generalize akF op = ak at *
  generalize x.2 = nx at *
  generalize lvF op = lv
  generalize opF op = pn at *
  clear hc hC
  have hA : ∀ A : World, Below w.heap.size w A → A.cell? ⟨g, o, none⟩ = some (.int .i64 lx) ∧ A.cell? ⟨g, o + 1, none⟩ = some (.int .i64 nx) := fun A h => ⟨(h.cell (p := ⟨g, _, none⟩) hg).trans p0, (h.cell (p := ⟨g, _, none⟩) hg).trans p1⟩
  go_enter Tryz.func103, Tryz.ntmps103
  go_wp2
  go_loopw [5, 11] (fun t5 t11 wr => ((t5 = .int .i64 0 ∧ t11 = .int .i64 0) ∨ (t5 = .int .i64 (max 0 b) ∧ t11 = .int .i64 1)) ∧ Below w.heap.size w wr ∧ Has wr w.heap.size #[.int .i64 ar, .int .i64 lv, .bool pn, .int .i64 ak, .int .i64 y1]) (fun _ t _ => 1 - (intOf t).toNat)
  case atStart => exact ⟨.inl ⟨rfl, rfl⟩, (Below.refl _ _).alloc (Nat.le_refl _) _, Has.new _ _ _ rfl⟩
  case round =>
    obtain ⟨hst, hb, hH⟩ := hrel
    obtain ⟨x0, X1, x2⟩ := id hH
    have hbs := hb.size
    rcases hst with ⟨rfl, rfl⟩ | ⟨rfl, rfl⟩
    · obtain ⟨q0, q1⟩ := hA wr hb
      by_cases hlt : lx < ak
      · have hbv : b = nx + 1 := by rw [hbe.out, if_pos hlt]
        subst hbv
        clear hA hB hbe
        go_wp2
        go_quiet (fail)
        go_wp2
        go_roundw
        case rel => exact ⟨.inr ⟨congrArg (Value.int .i64) (by omega), rfl⟩, bel_drewN (hb.alloc (by omega) _), (hH.alloc _).drewN _⟩
        case measure => simp [intOf]
      · have hbv : b = nx := by rw [hbe.out, if_neg hlt]
        subst hbv
        clear hA hB hbe
        go_wp2
        go_quiet (fail)
        go_wp2
        go_roundw
        case rel => exact ⟨.inr ⟨congrArg (Value.int .i64) (by omega), rfl⟩, bel_drewN (hb.alloc (by omega) _), (hH.alloc _).drewN _⟩
        case measure => simp [intOf]
    · have hN := hB.out
      clear hA hB hbe
      cases pn
      · simp only [if_neg (show ¬ (false = true) by simp), Int.add_zero] at hN
        subst hN
        go_wp2
        go_ret
        exact ⟨rfl, hb⟩
      · simp only [if_pos] at hN
        subst hN
        go_wp2
        go_ret
        exact ⟨rfl, hb⟩

set_option maxRecDepth 100000 in
set_option maxHeartbeats 8000000 in
theorem over_two (op ar : Int) (x y : Int × Int) (v : Value) (w : World) (hM : Ms w v [x, y]) (hx : 0 ≤ x.2 ∧ x.2 ≤ 4611686018427387904) (hy : 0 ≤ y.2 ∧ y.2 ≤ 4611686018427387904) :
    Calls Tryz.prog 103 #[.agg #[.int .i64 ar, .int .i64 (lvF op), .bool (opF op), .int .i64 (akF op), .int .i64 (akS op)], v] w fun e w' => e = .returned (.int .i64 (nodeNest op [x, y])) ∧ Below w.heap.size w w' := by
  obtain ⟨a, cap, rfl, hc⟩ := hM
  obtain ⟨g, o, rfl, hg, hC⟩ := hc.resolve_left (by simp)
  obtain ⟨p0, p1⟩ := hC 0 (by simp)
  obtain ⟨p2, p3⟩ := hC 1 (by simp)
  simp only [List.getElem_cons_zero, List.getElem_cons_succ, Nat.zero_mul, Nat.one_mul, Nat.add_zero] at p0 p1 p2 p3
  have hB : Hid (nodeNest op [x, y] = (max (max 0 (bump (akF op) x)) (bump (akS op) y)) + (if opF op = true then 1 else 0)) := rfl
  have hbu := bump_bd (akF op) x
  have hbe : Hid (bump (akF op) x = if lvF x.1 < akF op then x.2 + 1 else x.2) := rfl
  have hcu := bump_bd (akS op) y
  have hce : Hid (bump (akS op) y = if lvF y.1 < akS op then y.2 + 1 else y.2) := rfl
  generalize nodeNest op [x, y] = N at *
  generalize bump (akF op) x = b at *
  generalize bump (akS op) y = c at *
  generalize lvF x.1 = lx at *
  generalize lvF y.1 = ly at *
  generalize akF op = ak at *
  generalize akS op = az at *
  generalize x.2 = nx at *
  generalize y.2 = ny at *
  generalize lvF op = lv
  generalize opF op = pn at *
  clear hc hC
  have hA : ∀ A : World, Below w.heap.size w A → A.cell? ⟨g, o, none⟩ = some (.int .i64 lx) ∧ A.cell? ⟨g, o + 1, none⟩ = some (.int .i64 nx) ∧ A.cell? ⟨g, o + 2, none⟩ = some (.int .i64 ly) ∧ A.cell? ⟨g, o + 2 + 1, none⟩ = some (.int .i64 ny) := fun A h => ⟨(h.cell (p := ⟨g, _, none⟩) hg).trans p0, (h.cell (p := ⟨g, _, none⟩) hg).trans p1, (h.cell (p := ⟨g, _, none⟩) hg).trans p2, (h.cell (p := ⟨g, _, none⟩) hg).trans p3⟩
  go_enter Tryz.func103, Tryz.ntmps103
  go_wp2
  go_loopw [5, 11] (fun t5 t11 wr => ((t5 = .int .i64 0 ∧ t11 = .int .i64 0) ∨ (∃ q, q = max 0 b ∧ t5 = .int .i64 q ∧ t11 = .int .i64 1) ∨ (∃ q, q = max (max 0 b) c ∧ t5 = .int .i64 q ∧ t11 = .int .i64 2)) ∧ Below w.heap.size w wr ∧ Has wr w.heap.size #[.int .i64 ar, .int .i64 lv, .bool pn, .int .i64 ak, .int .i64 az]) (fun _ t _ => 2 - (intOf t).toNat)
  case atStart => exact ⟨.inl ⟨rfl, rfl⟩, (Below.refl _ _).alloc (Nat.le_refl _) _, Has.new _ _ _ rfl⟩
  case round =>
    obtain ⟨hst, hb, hH⟩ := hrel
    obtain ⟨x0, X1, x2⟩ := id hH
    have hbs := hb.size
    rcases hst with ⟨rfl, rfl⟩ | ⟨q, hq, rfl, rfl⟩ | ⟨q, hq, rfl, rfl⟩
    · obtain ⟨q0, q1, _, _⟩ := hA wr hb
      by_cases hlt : lx < ak
      · have hbv : b = nx + 1 := by rw [hbe.out, if_pos hlt]
        subst hbv
        clear hA hB hbe hce
        go_wp2
        go_quiet (fail)
        go_wp2
        go_roundw
        case rel => exact ⟨.inr (.inl ⟨_, by omega, rfl, rfl⟩), bel_drewN (hb.alloc (by omega) _), (hH.alloc _).drewN _⟩
        case measure => simp [intOf]
      · have hbv : b = nx := by rw [hbe.out, if_neg hlt]
        subst hbv
        clear hA hB hbe hce
        go_wp2
        go_quiet (fail)
        go_wp2
        go_roundw
        case rel => exact ⟨.inr (.inl ⟨_, by omega, rfl, rfl⟩), bel_drewN (hb.alloc (by omega) _), (hH.alloc _).drewN _⟩
        case measure => simp [intOf]
    · obtain ⟨_, _, q0, q1⟩ := hA wr hb
      by_cases hlt : ly < az
      · have hbv : c = ny + 1 := by rw [hce.out, if_pos hlt]
        subst hbv
        clear hA hB hbe hce
        go_wp2
        go_quiet (fail)
        go_wp2
        go_roundw
        case rel => exact ⟨.inr (.inr ⟨_, by omega, rfl, rfl⟩), bel_drewN (hb.alloc (by omega) _), (hH.alloc _).drewN _⟩
        case measure => simp [intOf]
      · have hbv : c = ny := by rw [hce.out, if_neg hlt]
        subst hbv
        clear hA hB hbe hce
        go_wp2
        go_quiet (fail)
        go_wp2
        go_roundw
        case rel => exact ⟨.inr (.inr ⟨_, by omega, rfl, rfl⟩), bel_drewN (hb.alloc (by omega) _), (hH.alloc _).drewN _⟩
        case measure => simp [intOf]
    · have hN := hB.out
      rw [← hq] at hN
      have hq9 : 0 ≤ q ∧ q ≤ 4611686018427387905 := by omega
      clear hA hB hbe hce hq
      cases pn
      · simp only [if_neg (show ¬ (false = true) by simp), Int.add_zero] at hN
        subst hN
        go_wp2
        go_ret
        exact ⟨rfl, hb⟩
      · simp only [if_pos] at hN
        subst hN
        go_wp2
        go_ret
        exact ⟨rfl, hb⟩
end Go.Proofs.YtnicolaphmffkaaGreatDoor
