import Derived.Test.YtjohnhaahpggkabDoorPcsF
import Derived.Laws.IdiomStrings
import Derived.Deep.RegionHeld3
import Derived.Test.YtjohnhaahpggkabDoorJnC
namespace Go.Proofs.YtjohnhaahpggkabDoor
open Go.RowKit
set_option linter.unusedVariables false
set_option linter.unusedSimpArgs false

/-- A piece that is handed in. -/
structure Pc where
  wh : Int
  n : Int
  tx : ByteArray
def Pc.Ok (p : Pc) : Prop := (-9223372036854775808 ≤ p.wh ∧ p.wh < 9223372036854775808) ∧ (-9223372036854775808 ≤ p.n ∧ p.n < 9223372036854775808) ∧ p.tx.size ≤ 4611686018427387904
/-- A list of pieces as it is read. -/
def Pl (w : World) (v : Value) (L : List Pc) : Prop :=
  ∃ a cap, v = .slice a L.length cap ∧ (L = [] ∨ ∃ g o, a = some ⟨g, o, none⟩ ∧ g < w.heap.size ∧ ∀ (i : Nat) (h : i < L.length),
    w.cell? ⟨g, o + i * 3, none⟩ = some (.int .i64 L[i].wh) ∧ w.cell? ⟨g, o + i * 3 + 1, none⟩ = some (.int .i64 L[i].n) ∧ w.cell? ⟨g, o + i * 3 + 2, none⟩ = some (.string L[i].tx))

/-- Bytes that stand in a block. -/
structure Byt (w : World) (g : Nat) (l : List UInt8) : Prop where
  lt : g < w.heap.size
  cell : ∀ j (h : j < l.length), w.cell? ⟨g, j, none⟩ = some (.int .u8 (l[j].toNat : Int))
  fz : ∀ j, j < l.length → w.frozen? ⟨g, j, none⟩ = false
theorem Byt.blk {w w' : World} {g : Nat} {l : List UInt8} (h : Byt w g l) (hs : w.heap.size ≤ w'.heap.size) (hb : w'.heap[g]? = w.heap[g]?) : Byt w' g l :=
  ⟨Nat.lt_of_lt_of_le h.lt hs, fun j hj => (World.cell?_of_block (w := w) hb).trans (h.cell j hj), fun j hj => (World.frozen?_of_block (w := w) hb).trans (h.fz j hj)⟩
theorem Byt.drew {w : World} {g : Nat} {l : List UInt8} (h : Byt w g l) : Byt w.drew g l := h.blk (Nat.le_refl _) rfl
theorem Byt.far {w : World} {g : Nat} {l : List UInt8} (h : Byt w g l) {c i : Nat} (hc : g ≠ c) (v : Value) : Byt (w.setCell ⟨c, i, none⟩ v) g l :=
  h.blk (by simp [World.setCell]) (Below.heap_setCell _ _ _ _ hc)
theorem Byt.set {w : World} {g : Nat} {l : List UInt8} (h : Byt w g l) (k : Nat) (hk : k < l.length) (c : UInt8) (x : Int) (hx : (c.toNat : Int) = x) : Byt (w.setCell ⟨g, k, none⟩ (.int .u8 x)) g (l.set k c) := by
  subst hx
  refine ⟨by have := h.lt; simpa [World.setCell] using this, fun j hj => ?_, fun j hj => ?_⟩
  · have hj' : j < l.length := by simpa using hj
    by_cases e : j = k
    · subst e
      rw [List.getElem_set_self]
      exact World.cell?_setCell_same _ _ _ (h.cell j hj')
    · rw [List.getElem_set_ne (by omega), World.cell?_setCell_other _ _ _ _ (by intro h; injection h with _ h; exact e h.symm)]
      exact h.cell j hj'
  · rw [List.length_set] at hj
    rw [World.frozen?_setCell]; exact h.fz j hj
theorem Byt.conv {w : World} {g n cap : Nat} {l : List UInt8} (h : Byt w g l) (hn : n = l.length) : (convert 48 9 (.slice (some ⟨g, 0, none⟩) n cap)).run Tryd.prog w = .ok (.string (bs l)) w := by
  subst hn
  refine run_convert_bytes_back w 48 9 5 ⟨g, 0, none⟩ cap l und48 und5 und9 (fun j hj => ?_)
  rw [Go.WideShapes.add_plain, Nat.zero_add]
  exact h.cell j hj
theorem byt_new (w : World) (s : ByteArray) (cap : Nat) (fr : Nat) (hf : s.size ≤ fr) : Byt (w.alloc (.cells (bytesRow s cap) 5 (fr, fr + 1))) w.heap.size s.data.toList := by
  have hh : (w.alloc (.cells (bytesRow s cap) 5 (fr, fr + 1))).heap[w.heap.size]? = some (.cells (bytesRow s cap) 5 (fr, fr + 1)) := heap_alloc_new w _
  have hl : s.data.toList.length = s.size := rfl
  refine ⟨by simp, fun j hj => ?_, fun j hj => ?_⟩
  · simp only [World.cell?, hh]
    have hj2 : j < s.data.size := by simpa using hj
    unfold bytesRow
    have hj3 : j < s.size := hj2
    simp [Array.getElem?_append, hj3, hj2]
  · simp only [World.frozen?, hh]
    simp
    omega
end Go.Proofs.YtjohnhaahpggkabDoor
namespace Go.Proofs.YtjohnhaahpggkabDoor
open Go.RowKit
set_option linter.unusedVariables false
set_option linter.unusedSimpArgs false

set_option maxRecDepth 100000 in
set_option maxHeartbeats 40000000 in
theorem token_kw (wh N : Int) (tx : ByteArray) (w : World) (hw1 : -9223372036854775808 ≤ wh) (hw2 : wh < 9223372036854775808) (hn1 : -9223372036854775808 ≤ N) (hn2 : N < 9223372036854775808) (hT : Kw w) (h0 : wh % 8 = 4) :
    Calls Tryd.prog 5 #[.agg #[.int .i64 wh, .int .i64 N, .string tx]] w fun e w' => (∃ tk l is, e = .returned (.tuple #[tokV tk 0 0, .string (bs l), .bool is]) ∧ Pce tk l is) ∧ Below w.heap.size w w' := by
  have B0 := fun W => below_any wh 8 W (by omega) (by omega) hw1 hw2
  have B1 := fun W => below_any N 41 W (by omega) (by omega) hn1 hn2
  rw [h0] at B0
  obtain ⟨n, en, hn⟩ := emod_nat N 41 (by omega)
  rw [en] at B1
  have hBb : Below w.heap.size w ((w.alloc (.cells #[.int .i64 wh, .int .i64 N, .string tx] 31)).alloc (.cells #[.int .i64 0, .int .i32 0, .string ⟨#[]⟩, .int .i64 0, .int .i64 0] 27)) := ((Below.refl _ _).alloc (Nat.le_refl _) _).alloc (by simp) _
  have hP0 : Has ((w.alloc (.cells #[.int .i64 wh, .int .i64 N, .string tx] 31)).alloc (.cells #[.int .i64 0, .int .i32 0, .string ⟨#[]⟩, .int .i64 0, .int .i64 0] 27)) w.heap.size #[.int .i64 wh, .int .i64 N, .string tx] := (Has.new _ _ _ rfl).alloc _
  have hQ0 : Has ((w.alloc (.cells #[.int .i64 wh, .int .i64 N, .string tx] 31)).alloc (.cells #[.int .i64 0, .int .i32 0, .string ⟨#[]⟩, .int .i64 0, .int .i64 0] 27)) (w.heap.size + 1) #[.int .i64 0, .int .i32 0, .string ⟨#[]⟩, .int .i64 0, .int .i64 0] := Has.new _ _ _ (by simp)
  have hT2 := hT.below hBb hT.1
  have hc := hT2.2 n (by omega)
  obtain ⟨f1, f2⟩ := kw_at n (by omega)
  have k0 : (0 : Int) ≤ (n : Int) := by omega
  have k1 : (n : Int) < 41 := by omega
  have kN : n < 41 := by omega
  have hwr : IntKind.i64.wrap (n : Int) = n := by rw [IntKind.wrap_i64]; omega
  have e1 : (10 : Int) + (n : Int) - 10 = (n : Int) := by omega
  have hne2 : ¬ 0 = w.heap.size + 1 := by omega
  have hne3 : ¬ w.heap.size + 1 = 0 := by omega
  clear h0 en hn hw1 hw2 hn1 hn2 hT hT2
  generalize kwL.getD n [] = l at *
  go_enter Tryd.func5, Tryd.ntmps5
  go_wp2_with (first
    | (go_at_call 11; (with_reducible refine (B0 _).mono ?_); rintro e w9 ⟨rfl, hw9⟩; have hw9' := hw9.symm; subst hw9')
    | (go_at_call 11; (with_reducible refine (B1 _).mono ?_); rintro e w9 ⟨rfl, hw9⟩; have hw9' := hw9.symm; subst hw9'))
  generalize ((w.alloc (.cells #[.int .i64 wh, .int .i64 N, .string tx] 31)).alloc (.cells #[.int .i64 0, .int .i32 0, .string ⟨#[]⟩, .int .i64 0, .int .i64 0] 27)) = U at hBb hP0 hQ0 hc ⊢
  obtain ⟨qp1, QQ1, qq1⟩ := id hQ0
  have f3 : Whl ⟨10 + (n : Int), 0, []⟩ l := by
    have := kw_whl f1
    rw [f2] at this
    exact this
  have hll : l.length ≤ 4611686018427387906 := by have := (kw_facts l f1).2.2.2; omega
  have hPce : Pce ⟨10 + (n : Int), 0, []⟩ l true := ⟨f3.1, fun _ => ⟨f3, kw_hd f1, by unfold Ends; simp; omega⟩, fun h => (by cases h), hll⟩
  have hF := (hQ0.set5 (.int .i64 (10 + (n : Int))) (.int .i32 0) (.string ⟨#[]⟩) (.int .i64 0) (.int .i64 0)).drew
  have hBF := (((((hBb.setCell (p := ⟨w.heap.size + 1, 0, none⟩) (by simp) (.int .i64 (10 + (n : Int)))).setCell (p := ⟨w.heap.size + 1, 1, none⟩) (by simp) (.int .i32 0)).setCell (p := ⟨w.heap.size + 1, 2, none⟩) (by simp) (.string ⟨#[]⟩)).setCell (p := ⟨w.heap.size + 1, 3, none⟩) (by simp) (.int .i64 0)).setCell (p := ⟨w.heap.size + 1, 4, none⟩) (by simp) (.int .i64 0)).drew
  obtain ⟨x0, X1, x2⟩ := hF
  clear f1 f2 hll f3
  go_region_held3 (fun w' => w'.cell? ⟨0, n, none⟩ = some (.string (bs l))) (first | go_keep | (simp [World.cell?_setCell_far, *])) (fail)
  all_goals
    go_wp2
    exact bodyPost_ret (v := .tuple #[.agg #[.int .i64 (10 + (n : Int)), .int .i32 0, .string ⟨#[]⟩, .int .i64 0, .int .i64 0], .string (bs l), .bool true]) (by simp [results, Tryd.results5, go_sem, X1]) rfl ⟨⟨⟨10 + (n : Int), 0, []⟩, l, true, rfl, hPce⟩, hBF⟩
end Go.Proofs.YtjohnhaahpggkabDoor
namespace Go.Proofs.YtjohnhaahpggkabDoor
open Go.RowKit
set_option linter.unusedVariables false
set_option linter.unusedSimpArgs false

set_option maxRecDepth 100000 in
set_option maxHeartbeats 40000000 in
theorem token_sg (wh N : Int) (tx : ByteArray) (w : World) (hw1 : -9223372036854775808 ≤ wh) (hw2 : wh < 9223372036854775808) (hn1 : -9223372036854775808 ≤ N) (hn2 : N < 9223372036854775808) (hT : Mk w) (h0 : wh % 8 = 5) :
    Calls Tryd.prog 5 #[.agg #[.int .i64 wh, .int .i64 N, .string tx]] w fun e w' => (∃ tk l is, e = .returned (.tuple #[tokV tk 0 0, .string (bs l), .bool is]) ∧ Pce tk l is) ∧ Below w.heap.size w w' := by
  have B0 := fun W => below_any wh 8 W (by omega) (by omega) hw1 hw2
  have B1 := fun W => below_any N 18 W (by omega) (by omega) hn1 hn2
  rw [h0] at B0
  obtain ⟨n, en, hn⟩ := emod_nat N 18 (by omega)
  rw [en] at B1
  have hBb : Below w.heap.size w ((w.alloc (.cells #[.int .i64 wh, .int .i64 N, .string tx] 31)).alloc (.cells #[.int .i64 0, .int .i32 0, .string ⟨#[]⟩, .int .i64 0, .int .i64 0] 27)) := ((Below.refl _ _).alloc (Nat.le_refl _) _).alloc (by simp) _
  have hP0 : Has ((w.alloc (.cells #[.int .i64 wh, .int .i64 N, .string tx] 31)).alloc (.cells #[.int .i64 0, .int .i32 0, .string ⟨#[]⟩, .int .i64 0, .int .i64 0] 27)) w.heap.size #[.int .i64 wh, .int .i64 N, .string tx] := (Has.new _ _ _ rfl).alloc _
  have hQ0 : Has ((w.alloc (.cells #[.int .i64 wh, .int .i64 N, .string tx] 31)).alloc (.cells #[.int .i64 0, .int .i32 0, .string ⟨#[]⟩, .int .i64 0, .int .i64 0] 27)) (w.heap.size + 1) #[.int .i64 0, .int .i32 0, .string ⟨#[]⟩, .int .i64 0, .int .i64 0] := Has.new _ _ _ (by simp)
  have hT2 := hT.below hBb hT.1
  have hc := hT2.2 n (by omega)
  obtain ⟨f1, f2⟩ := sg_at n (by omega)
  have k0 : (0 : Int) ≤ (n : Int) := by omega
  have k1 : (n : Int) < 18 := by omega
  have kN : n < 18 := by omega
  have hwr : IntKind.i64.wrap (n : Int) = n := by rw [IntKind.wrap_i64]; omega
  have e1 : (60 : Int) + (n : Int) - 60 = (n : Int) := by omega
  have hne1 : ¬ w.heap.size = 0 := by have := hT.1; omega
  have hne2 : ¬ 1 = w.heap.size + 1 := by have := hT.1; omega
  have hne3 : ¬ w.heap.size + 1 = 1 := by have := hT.1; omega
  clear h0 en hn hw1 hw2 hn1 hn2 hT hT2
  generalize sgL.getD n [] = l at *
  go_enter Tryd.func5, Tryd.ntmps5
  go_wp2_with (first
    | (go_at_call 11; (with_reducible refine (B0 _).mono ?_); rintro e w9 ⟨rfl, hw9⟩; have hw9' := hw9.symm; subst hw9')
    | (go_at_call 11; (with_reducible refine (B1 _).mono ?_); rintro e w9 ⟨rfl, hw9⟩; have hw9' := hw9.symm; subst hw9'))
  generalize ((w.alloc (.cells #[.int .i64 wh, .int .i64 N, .string tx] 31)).alloc (.cells #[.int .i64 0, .int .i32 0, .string ⟨#[]⟩, .int .i64 0, .int .i64 0] 27)) = U at hBb hP0 hQ0 hc ⊢
  obtain ⟨qp1, QQ1, qq1⟩ := id hQ0
  have f3 : Whl ⟨60 + (n : Int), 0, []⟩ l := by
    have := sg_whl f1
    rw [f2] at this
    exact this
  have hll : l.length ≤ 4611686018427387906 := by have := (sg_facts l f1).1; omega
  have hPce : Pce ⟨60 + (n : Int), 0, []⟩ l true := ⟨f3.1, fun _ => ⟨f3, sg_hd f1, by unfold Ends; simp; omega⟩, fun h => (by cases h), hll⟩
  have hF := (hQ0.set5 (.int .i64 (60 + (n : Int))) (.int .i32 0) (.string ⟨#[]⟩) (.int .i64 0) (.int .i64 0)).drew
  have hBF := (((((hBb.setCell (p := ⟨w.heap.size + 1, 0, none⟩) (by simp) (.int .i64 (60 + (n : Int)))).setCell (p := ⟨w.heap.size + 1, 1, none⟩) (by simp) (.int .i32 0)).setCell (p := ⟨w.heap.size + 1, 2, none⟩) (by simp) (.string ⟨#[]⟩)).setCell (p := ⟨w.heap.size + 1, 3, none⟩) (by simp) (.int .i64 0)).setCell (p := ⟨w.heap.size + 1, 4, none⟩) (by simp) (.int .i64 0)).drew
  obtain ⟨x0, X1, x2⟩ := hF
  clear f1 f2 hll f3
  go_region_held3 (fun w' => w'.cell? ⟨1, n, none⟩ = some (.string (bs l))) (first | go_keep | (simp [World.cell?_setCell_far, *])) (fail)
  all_goals
    go_wp2
    exact bodyPost_ret (v := .tuple #[.agg #[.int .i64 (60 + (n : Int)), .int .i32 0, .string ⟨#[]⟩, .int .i64 0, .int .i64 0], .string (bs l), .bool true]) (by simp [results, Tryd.results5, go_sem, X1]) rfl ⟨⟨⟨60 + (n : Int), 0, []⟩, l, true, rfl, hPce⟩, hBF⟩
end Go.Proofs.YtjohnhaahpggkabDoor
namespace Go.Proofs.YtjohnhaahpggkabDoor
open Go.RowKit
set_option linter.unusedVariables false
set_option linter.unusedSimpArgs false

def blanks : List UInt8 := [32, 9, 13, 10, 32, 32, 10, 10]
theorem bl_all : ∀ k : Nat, k < 8 → (blanks.take (1 + k)).all isB = true ∧ blanks.take (1 + k) ≠ [] ∧ (blanks.take (1 + k)).length ≤ 8 := by decide
theorem bl_size : (⟨#[32, 9, 13, 10, 32, 32, 10, 10]⟩ : ByteArray).size = 8 := rfl
theorem bl_ext (k : Nat) : (⟨#[32, 9, 13, 10, 32, 32, 10, 10]⟩ : ByteArray).extract 0 (1 + k) = bs (blanks.take (1 + k)) := ext_take blanks (1 + k)
set_option maxRecDepth 100000 in
theorem bl_slice (w : World) (k : Nat) (h : k < 8) : (Instr.slice 9 (.string ⟨#[32, 9, 13, 10, 32, 32, 10, 10]⟩) none (some (.int .i64 (1 + (k : Int)))) none).run Tryd.prog w = .ok (.string (bs (blanks.take (1 + k)))) w := by
  have h8 : k = 0 ∨ k = 1 ∨ k = 2 ∨ k = 3 ∨ k = 4 ∨ k = 5 ∨ k = 6 ∨ k = 7 := by omega
  rcases h8 with rfl | rfl | rfl | rfl | rfl | rfl | rfl | rfl
  all_goals rfl
attribute [local go_sem] bl_slice

set_option maxRecDepth 100000 in
set_option maxHeartbeats 4000000 in
theorem token_blank (wh N : Int) (tx : ByteArray) (w : World) (hw1 : -9223372036854775808 ≤ wh) (hw2 : wh < 9223372036854775808) (hn1 : -9223372036854775808 ≤ N) (hn2 : N < 9223372036854775808) (h0 : wh % 8 = 6) :
    Calls Tryd.prog 5 #[.agg #[.int .i64 wh, .int .i64 N, .string tx]] w fun e w' => (∃ tk l is, e = .returned (.tuple #[tokV tk 0 0, .string (bs l), .bool is]) ∧ Pce tk l is) ∧ Below w.heap.size w w' := by
  have B0 := fun W => below_any wh 8 W (by omega) (by omega) hw1 hw2
  have B1 := fun W => below_any N 8 W (by omega) (by omega) hn1 hn2
  rw [h0] at B0
  obtain ⟨n, en, hn⟩ := emod_nat N 8 (by omega)
  rw [en] at B1
  have hBb : Below w.heap.size w ((w.alloc (.cells #[.int .i64 wh, .int .i64 N, .string tx] 31)).alloc (.cells #[.int .i64 0, .int .i32 0, .string ⟨#[]⟩, .int .i64 0, .int .i64 0] 27)) := ((Below.refl _ _).alloc (Nat.le_refl _) _).alloc (by simp) _
  have hP0 : Has ((w.alloc (.cells #[.int .i64 wh, .int .i64 N, .string tx] 31)).alloc (.cells #[.int .i64 0, .int .i32 0, .string ⟨#[]⟩, .int .i64 0, .int .i64 0] 27)) w.heap.size #[.int .i64 wh, .int .i64 N, .string tx] := (Has.new _ _ _ rfl).alloc _
  have hQ0 : Has ((w.alloc (.cells #[.int .i64 wh, .int .i64 N, .string tx] 31)).alloc (.cells #[.int .i64 0, .int .i32 0, .string ⟨#[]⟩, .int .i64 0, .int .i64 0] 27)) (w.heap.size + 1) #[.int .i64 0, .int .i32 0, .string ⟨#[]⟩, .int .i64 0, .int .i64 0] := Has.new _ _ _ (by simp)
  have hn8 : n < 8 := by omega
  obtain ⟨f1, f2, f3⟩ := bl_all n hn8
  have hsz := bl_size
  have hwr : IntKind.i64.wrap (1 + (n : Int)) = 1 + (n : Int) := by rw [IntKind.wrap_i64]; omega
  clear h0 en hn hw1 hw2 hn1 hn2
  go_enter Tryd.func5, Tryd.ntmps5
  go_wp2_with (first
    | (go_at_call 11; (with_reducible refine (B0 _).mono ?_); rintro e w9 ⟨rfl, hw9⟩; have hw9' := hw9.symm; subst hw9')
    | (go_at_call 11; (with_reducible refine (B1 _).mono ?_); rintro e w9 ⟨rfl, hw9⟩; have hw9' := hw9.symm; subst hw9'))
  generalize ((w.alloc (.cells #[.int .i64 wh, .int .i64 N, .string tx] 31)).alloc (.cells #[.int .i64 0, .int .i32 0, .string ⟨#[]⟩, .int .i64 0, .int .i64 0] 27)) = U at hBb hP0 hQ0 ⊢
  obtain ⟨qp1, QQ1, qq1⟩ := id hQ0
  obtain ⟨pp1, PP1, pq1⟩ := id hP0
  rename_i K hKK
  have hP : Pce ⟨0, 0, []⟩ (blanks.take (1 + n)) false := ⟨f2, fun h => (by cases h), fun _ => skp_blank f1, by omega⟩
  have hF := (hQ0.set5 (.int .i64 0) (.int .i32 0) (.string ⟨#[]⟩) (.int .i64 0) (.int .i64 0)).drew
  have hBF := (((((hBb.setCell (p := ⟨w.heap.size + 1, 0, none⟩) (by simp) (.int .i64 0)).setCell (p := ⟨w.heap.size + 1, 1, none⟩) (by simp) (.int .i32 0)).setCell (p := ⟨w.heap.size + 1, 2, none⟩) (by simp) (.string ⟨#[]⟩)).setCell (p := ⟨w.heap.size + 1, 3, none⟩) (by simp) (.int .i64 0)).setCell (p := ⟨w.heap.size + 1, 4, none⟩) (by simp) (.int .i64 0)).drew
  obtain ⟨x0, X1, x2⟩ := hF
  go_region_with (go_at_call 11; (with_reducible refine (B1 _).mono ?_); rintro e w9 ⟨rfl, hw9⟩; have hw9' := hw9.symm; subst hw9')
  all_goals
    go_wp2
    exact bodyPost_ret (v := .tuple #[.agg #[.int .i64 0, .int .i32 0, .string ⟨#[]⟩, .int .i64 0, .int .i64 0], .string (bs (blanks.take (1 + n))), .bool false]) (by simp [results, Tryd.results5, go_sem, X1, bl_ext]) rfl ⟨⟨⟨0, 0, []⟩, _, false, rfl, hP⟩, hBF⟩
end Go.Proofs.YtjohnhaahpggkabDoor
namespace Go.Proofs.YtjohnhaahpggkabDoor
open Go.RowKit
set_option linter.unusedVariables false
set_option linter.unusedSimpArgs false

theorem conv_str (w : World) (s : ByteArray) : (convert 9 48 (.string s)).run Tryd.prog w = .ok (.slice (some ⟨w.heap.size, 0, none⟩) s.size (grownCap w s.size 0 5)) (w.drew.alloc (.cells (bytesRow s (grownCap w s.size 0 5)) 5 ((bytesRow s (grownCap w s.size 0 5)).size, (bytesRow s (grownCap w s.size 0 5)).size + 1))) :=
  run_bytes_of_string w 9 48 5 s und9 und48 und5
theorem row_size (w : World) (s : ByteArray) : s.size ≤ (bytesRow s (grownCap w s.size 0 5)).size := by
  unfold bytesRow
  rw [Array.size_append, Array.size_map]
  exact Nat.le_add_right s.data.size _
theorem cat_rem (m : List UInt8) : (⟨#[35]⟩ : ByteArray) ++ bs m ++ ⟨#[10]⟩ = bs (35 :: (m ++ [10])) := by
  rw [show (⟨#[35]⟩ : ByteArray) = bs [35] from rfl, show (⟨#[10]⟩ : ByteArray) = bs [10] from rfl, bs_app, bs_app]; rfl
attribute [local go_sem] conv_str

set_option maxRecDepth 100000 in
set_option maxHeartbeats 4000000 in
theorem token_rem (wh N : Int) (tx : ByteArray) (w : World) (hw1 : -9223372036854775808 ≤ wh) (hw2 : wh < 9223372036854775808) (hn1 : -9223372036854775808 ≤ N) (hn2 : N < 9223372036854775808) (htx : tx.size ≤ 4611686018427387904) (h0 : wh % 8 = 7) :
    Calls Tryd.prog 5 #[.agg #[.int .i64 wh, .int .i64 N, .string tx]] w fun e w' => (∃ tk l is, e = .returned (.tuple #[tokV tk 0 0, .string (bs l), .bool is]) ∧ Pce tk l is) ∧ Below w.heap.size w w' := by
  have B0 := fun W => below_any wh 8 W (by omega) (by omega) hw1 hw2
  rw [h0] at B0
  have hBb : Below w.heap.size w ((w.alloc (.cells #[.int .i64 wh, .int .i64 N, .string tx] 31)).alloc (.cells #[.int .i64 0, .int .i32 0, .string ⟨#[]⟩, .int .i64 0, .int .i64 0] 27)) := ((Below.refl _ _).alloc (Nat.le_refl _) _).alloc (by simp) _
  have hP0 : Has ((w.alloc (.cells #[.int .i64 wh, .int .i64 N, .string tx] 31)).alloc (.cells #[.int .i64 0, .int .i32 0, .string ⟨#[]⟩, .int .i64 0, .int .i64 0] 27)) w.heap.size #[.int .i64 wh, .int .i64 N, .string tx] := (Has.new _ _ _ rfl).alloc _
  have hQ0 : Has ((w.alloc (.cells #[.int .i64 wh, .int .i64 N, .string tx] 31)).alloc (.cells #[.int .i64 0, .int .i32 0, .string ⟨#[]⟩, .int .i64 0, .int .i64 0] 27)) (w.heap.size + 1) #[.int .i64 0, .int .i32 0, .string ⟨#[]⟩, .int .i64 0, .int .i64 0] := Has.new _ _ _ (by simp)
  have hUs : ((w.alloc (.cells #[.int .i64 wh, .int .i64 N, .string tx] 31)).alloc (.cells #[.int .i64 0, .int .i32 0, .string ⟨#[]⟩, .int .i64 0, .int .i64 0] 27)).heap.size = w.heap.size + 2 := by simp
  clear h0 hw1 hw2 hn1 hn2
  go_enter Tryd.func5, Tryd.ntmps5
  go_wp2_with (go_at_call 11; (with_reducible refine (B0 _).mono ?_); rintro e w9 ⟨rfl, hw9⟩; have hw9' := hw9.symm; subst hw9')
  have hrs := row_size ((w.alloc (.cells #[.int .i64 wh, .int .i64 N, .string tx] 31)).alloc (.cells #[.int .i64 0, .int .i32 0, .string ⟨#[]⟩, .int .i64 0, .int .i64 0] 27)) tx
  generalize grownCap ((w.alloc (.cells #[.int .i64 wh, .int .i64 N, .string tx] 31)).alloc (.cells #[.int .i64 0, .int .i32 0, .string ⟨#[]⟩, .int .i64 0, .int .i64 0] 27)) tx.size 0 5 = cap at hrs ⊢
  generalize hfr : (bytesRow tx cap).size = fr at hrs ⊢
  have hY := byt_new ((w.alloc (.cells #[.int .i64 wh, .int .i64 N, .string tx] 31)).alloc (.cells #[.int .i64 0, .int .i32 0, .string ⟨#[]⟩, .int .i64 0, .int .i64 0] 27)) tx cap fr hrs
  have hBb2 := hBb.alloc (by rw [hUs]; omega) (.cells (bytesRow tx cap) 5 (fr, fr + 1))
  have hQ2 := hQ0.alloc (.cells (bytesRow tx cap) 5 (fr, fr + 1))
  rw [hUs] at hY
  generalize ((w.alloc (.cells #[.int .i64 wh, .int .i64 N, .string tx] 31)).alloc (.cells #[.int .i64 0, .int .i32 0, .string ⟨#[]⟩, .int .i64 0, .int .i64 0] 27)).alloc (.cells (bytesRow tx cap) 5 (fr, fr + 1)) = U at hY hBb2 hQ2 ⊢
  clear hBb hP0 hQ0 hUs hfr hrs B0
  go_loopw [12] (fun ti wr => ∃ (k : Nat) (m : List UInt8), ti = .int .i64 (k : Int) ∧ k ≤ m.length ∧ m.length = tx.size ∧ Byt wr (w.heap.size + 2) m ∧ Hid (∀ j (h : j < m.length), j < k → ¬ m[j] = 10) ∧ Has wr (w.heap.size + 1) #[.int .i64 0, .int .i32 0, .string ⟨#[]⟩, .int .i64 0, .int .i64 0] ∧ Below w.heap.size w wr) (fun ti _ => tx.size - (intOf ti).toNat)
  case atStart => exact ⟨0, tx.data.toList, rfl, by omega, rfl, hY.drew, fun j h1 h2 => by omega, hQ2.drew, hBb2.drew⟩
  case round =>
    obtain ⟨k, m, rfl, hk, hm, hB, hA, hQ, hb⟩ := hrel
    by_cases hlt : k < tx.size
    · have hk' : k < m.length := by omega
      have hc := hB.cell k hk'
      have hf := hB.fz k hk'
      have k0 : (0 : Int) ≤ (k : Int) := by omega
      have k1 : (k : Int) < (tx.size : Int) := by omega
      by_cases h10 : m[k] = 10
      · have hx : (m[k].toNat : Int) = 10 := by rw [h10]; rfl
        rw [hx] at hc
        go_wp2
        go_roundw
        case rel =>
          refine ⟨k + 1, m.set k 35, by go_num, by simp; omega, by simp; omega, hB.set k hk' 35 35 rfl, fun j h1 h2 => ?_, hQ.far (by omega) _, hb.setCell (by show w.heap.size ≤ w.heap.size + 2; omega) _⟩
          have h1' : j < m.length := by simpa using h1
          by_cases e : j = k
          · subst e; rw [List.getElem_set_self]; decide
          · rw [List.getElem_set_ne (by omega)]; exact hA j h1' (by omega)
        case measure => simp [intOf]; omega
      · have hx : ¬ (m[k].toNat : Int) = 10 := fun h => h10 ((ten_iff _).1 h)
        generalize hu : (m[k].toNat : Int) = u at hc hx
        go_wp2
        go_roundw
        case rel =>
          refine ⟨k + 1, m, by go_num, by omega, hm, hB, fun j h1 h2 => ?_, hQ, hb⟩
          by_cases e : j = k
          · subst e; exact h10
          · exact hA j h1 (by omega)
        case measure => simp [intOf]; omega
    · have k1 : ¬ (k : Int) < (tx.size : Int) := by omega
      have hP : Pce ⟨0, 0, []⟩ (35 :: m ++ [10]) false := ⟨by simp, fun h => (by cases h), fun _ => skp_comment (fun c hc => by
        obtain ⟨j, hj, rfl⟩ := List.getElem_of_mem hc
        exact hA j hj (by omega)), by simp; omega⟩
      have hF := (hQ.set5 (.int .i64 0) (.int .i32 0) (.string ⟨#[]⟩) (.int .i64 0) (.int .i64 0)).drew
      have hBF := (((((hb.setCell (p := ⟨w.heap.size + 1, 0, none⟩) (by simp) (.int .i64 0)).setCell (p := ⟨w.heap.size + 1, 1, none⟩) (by simp) (.int .i32 0)).setCell (p := ⟨w.heap.size + 1, 2, none⟩) (by simp) (.string ⟨#[]⟩)).setCell (p := ⟨w.heap.size + 1, 3, none⟩) (by simp) (.int .i64 0)).setCell (p := ⟨w.heap.size + 1, 4, none⟩) (by simp) (.int .i64 0)).drew
      have hcv0 := hB.drew.conv (n := tx.size) (cap := cap) hm.symm
      have hcv1 := (((((hB.far (c := w.heap.size + 1) (i := 0) (by omega) (.int .i64 0)).far (c := w.heap.size + 1) (i := 1) (by omega) (.int .i32 0)).far (c := w.heap.size + 1) (i := 2) (by omega) (.string ⟨#[]⟩)).far (c := w.heap.size + 1) (i := 3) (by omega) (.int .i64 0)).far (c := w.heap.size + 1) (i := 4) (by omega) (.int .i64 0)).drew.conv (n := tx.size) (cap := cap) hm.symm
      have hsm := bs_szp m
      have hn1 : ¬ 9223372036854775807 < 1 + tx.size := by omega
      have hn2 : ¬ 9223372036854775807 < 1 + tx.size + 1 := by omega
      obtain ⟨qp1, QQ1, qq1⟩ := id hQ
      obtain ⟨x0, X1, x2⟩ := hF
      go_wp2
      go_region_with (fail)
      all_goals
        go_wp2
        exact bodyPost_ret (v := .tuple #[.agg #[.int .i64 0, .int .i32 0, .string ⟨#[]⟩, .int .i64 0, .int .i64 0], .string (bs (35 :: m ++ [10])), .bool false]) (by simp [results, Tryd.results5, go_sem, X1, cat_rem]) rfl ⟨⟨⟨0, 0, []⟩, _, false, rfl, hP⟩, hBF⟩
end Go.Proofs.YtjohnhaahpggkabDoor
namespace Go.Proofs.YtjohnhaahpggkabDoor
open Go.RowKit
set_option linter.unusedVariables false
set_option linter.unusedSimpArgs false

theorem token_any (p : Pc) (W : World) (hp : p.Ok) (hK : Kw W) (hM : Mk W) :
    Calls Tryd.prog 5 #[.agg #[.int .i64 p.wh, .int .i64 p.n, .string p.tx]] W fun e w' => (∃ tk l is, e = .returned (.tuple #[tokV tk 0 0, .string (bs l), .bool is]) ∧ Pce tk l is) ∧ Below W.heap.size W w' := by
  obtain ⟨⟨a1, a2⟩, ⟨b1, b2⟩, c⟩ := hp
  have h8 : p.wh % 8 = 0 ∨ p.wh % 8 = 1 ∨ p.wh % 8 = 2 ∨ p.wh % 8 = 3 ∨ p.wh % 8 = 4 ∨ p.wh % 8 = 5 ∨ p.wh % 8 = 6 ∨ p.wh % 8 = 7 := by omega
  rcases h8 with h | h | h | h | h | h | h | h
  · exact token_zero p.wh p.n p.tx W a1 a2 b1 b2 h
  · exact token_num1 p.wh p.n p.tx W a1 a2 b1 b2 h
  · exact token_num2 p.wh p.n p.tx W a1 a2 b1 b2 h
  · exact token_num3 p.wh p.n p.tx W a1 a2 b1 b2 h
  · exact token_kw p.wh p.n p.tx W a1 a2 b1 b2 hK h
  · exact token_sg p.wh p.n p.tx W a1 a2 b1 b2 hM h
  · exact token_blank p.wh p.n p.tx W a1 a2 b1 b2 h
  · exact token_rem p.wh p.n p.tx W a1 a2 b1 b2 c h
end Go.Proofs.YtjohnhaahpggkabDoor
