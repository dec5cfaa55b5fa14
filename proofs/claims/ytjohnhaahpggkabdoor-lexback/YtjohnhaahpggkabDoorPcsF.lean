import Derived.Test.YtjohnhaahpggkabDoorPcsT
namespace Go.Proofs.YtjohnhaahpggkabDoor
open Go.RowKit
set_option linter.unusedVariables false
set_option linter.unusedSimpArgs false

/-- The statements' own tables: keywords and signs. -/
def Kw (w : World) : Prop := 0 < w.heap.size ∧ ∀ i : Nat, i < 41 → w.cell? ⟨0, i, none⟩ = some (.string (bs (kwL.getD i [])))
def Mk (w : World) : Prop := 1 < w.heap.size ∧ ∀ i : Nat, i < 18 → w.cell? ⟨1, i, none⟩ = some (.string (bs (sgL.getD i [])))
theorem Kw.below {w w' : World} {B : Nat} (h : Kw w) (hb : Below B w w') (hB : 0 < B) : Kw w' := ⟨Nat.lt_of_lt_of_le h.1 hb.size, fun i hi => (World.cell?_of_block (w := w) (hb.block 0 hB)).trans (h.2 i hi)⟩
theorem Mk.below {w w' : World} {B : Nat} (h : Mk w) (hb : Below B w w') (hB : 1 < B) : Mk w' := ⟨Nat.lt_of_lt_of_le h.1 hb.size, fun i hi => (World.cell?_of_block (w := w) (hb.block 1 hB)).trans (h.2 i hi)⟩

/-- What a piece is. -/
def Pce (tk : Tk) (l : List UInt8) (is : Bool) : Prop := l ≠ [] ∧ (is = true → Whl tk l ∧ Hd l ∧ ¬ Ends tk) ∧ (is = false → Skp l) ∧ l.length ≤ 4611686018427387906
theorem kw_at : ∀ k : Nat, k < 41 → kwL.getD k [] ∈ kwL ∧ kwK (kwL.getD k []) = ((10 + k : Nat) : Int) := by decide
theorem sg_at : ∀ k : Nat, k < 18 → sgL.getD k [] ∈ sgL ∧ sgK (sgL.getD k []) = ((60 + k : Nat) : Int) := by decide

set_option maxRecDepth 100000 in
set_option maxHeartbeats 4000000 in
theorem token_zero (wh N : Int) (tx : ByteArray) (w : World) (hw1 : -9223372036854775808 ≤ wh) (hw2 : wh < 9223372036854775808) (hn1 : -9223372036854775808 ≤ N) (hn2 : N < 9223372036854775808) (h0 : wh % 8 = 0) :
    Calls Tryd.prog 5 #[.agg #[.int .i64 wh, .int .i64 N, .string tx]] w fun e w' => (∃ tk l is, e = .returned (.tuple #[tokV tk 0 0, .string (bs l), .bool is]) ∧ Pce tk l is) ∧ Below w.heap.size w w' := by
  have B0 := fun W => below_any wh 8 W (by omega) (by omega) hw1 hw2
  have B1 := fun W => below_any N 1099511627776 W (by omega) (by omega) hn1 hn2
  rw [h0] at B0
  obtain ⟨n, en, hn⟩ := emod_nat N 1099511627776 (by omega)
  rw [en] at B1
  have D1 := fun W => named_any n W (by omega)
  have hBb : Below w.heap.size w ((w.alloc (.cells #[.int .i64 wh, .int .i64 N, .string tx] 31)).alloc (.cells #[.int .i64 0, .int .i32 0, .string ⟨#[]⟩, .int .i64 0, .int .i64 0] 27)) := ((Below.refl _ _).alloc (Nat.le_refl _) _).alloc (by simp) _
  have hP0 : Has ((w.alloc (.cells #[.int .i64 wh, .int .i64 N, .string tx] 31)).alloc (.cells #[.int .i64 0, .int .i32 0, .string ⟨#[]⟩, .int .i64 0, .int .i64 0] 27)) w.heap.size #[.int .i64 wh, .int .i64 N, .string tx] := (Has.new _ _ _ rfl).alloc _
  have hQ0 : Has ((w.alloc (.cells #[.int .i64 wh, .int .i64 N, .string tx] 31)).alloc (.cells #[.int .i64 0, .int .i32 0, .string ⟨#[]⟩, .int .i64 0, .int .i64 0] 27)) (w.heap.size + 1) #[.int .i64 0, .int .i32 0, .string ⟨#[]⟩, .int .i64 0, .int .i64 0] := Has.new _ _ _ (by simp)
  clear h0 en hn hw1 hw2 hn1 hn2
  go_enter Tryd.func5, Tryd.ntmps5
  go_wp2_with (first
    | (go_at_call 11; (with_reducible refine (B0 _).mono ?_); rintro e w9 ⟨rfl, hw9⟩; have hw9' := hw9.symm; subst hw9')
    | (go_at_call 11; (with_reducible refine (B1 _).mono ?_); rintro e w9 ⟨rfl, hw9⟩; have hw9' := hw9.symm; subst hw9')
    | (go_at_call 12; (with_reducible refine (D1 _).mono ?_); rintro e w1 ⟨⟨l, rfl, hl⟩, hb1⟩; replace hBb := hBb.trans (hb1.mono hBb.size); replace hP0 := hP0.below hb1; replace hQ0 := hQ0.below hb1; obtain ⟨pp1, PP1, pq1⟩ := id hP0; obtain ⟨qp1, QQ1, qq1⟩ := id hQ0))
  obtain ⟨x0, X1, x2⟩ := hQ0.set5 (.int .i64 1) (.int .i32 0) (.string (bs l)) (.int .i64 0) (.int .i64 0)
  exact bodyPost_ret (v := .tuple #[.agg #[.int .i64 1, .int .i32 0, .string (bs l), .int .i64 0, .int .i64 0], .string (bs l), .bool true]) (by simp [results, Tryd.results5, go_sem, X1]) rfl ⟨⟨_, _, true, rfl, ⟨(name_whl hl).1, fun _ => ⟨name_whl hl, name_hd hl, by unfold Ends; simp⟩, fun h => (by cases h), (by have := hl.1; omega)⟩⟩, ((((hBb.setCell (by simp) _).setCell (by simp) _).setCell (by simp) _).setCell (by simp) _).setCell (by simp) _⟩
set_option maxRecDepth 100000 in
set_option maxHeartbeats 4000000 in
theorem token_num1 (wh N : Int) (tx : ByteArray) (w : World) (hw1 : -9223372036854775808 ≤ wh) (hw2 : wh < 9223372036854775808) (hn1 : -9223372036854775808 ≤ N) (hn2 : N < 9223372036854775808) (h0 : wh % 8 = 1) :
    Calls Tryd.prog 5 #[.agg #[.int .i64 wh, .int .i64 N, .string tx]] w fun e w' => (∃ tk l is, e = .returned (.tuple #[tokV tk 0 0, .string (bs l), .bool is]) ∧ Pce tk l is) ∧ Below w.heap.size w w' := by
  have B0 := fun W => below_any wh 8 W (by omega) (by omega) hw1 hw2
  rw [h0] at B0
  have D1 : ∀ W, Calls Tryd.prog 13 #[.agg #[.int .i64 wh, .int .i64 N, .string tx]] W fun e w' => (∃ (v : Nat) (l : List UInt8), e = .returned (.tuple #[.agg #[.int .i64 2, .int .i32 (v : Int), .string ⟨#[]⟩, .int .i64 0, .int .i64 0], .string (bs l)]) ∧ NumL v l) ∧ Below W.heap.size W w' := fun W => numbered_any wh N tx W hw1 hw2 hn1 hn2
  have hBb : Below w.heap.size w ((w.alloc (.cells #[.int .i64 wh, .int .i64 N, .string tx] 31)).alloc (.cells #[.int .i64 0, .int .i32 0, .string ⟨#[]⟩, .int .i64 0, .int .i64 0] 27)) := ((Below.refl _ _).alloc (Nat.le_refl _) _).alloc (by simp) _
  have hP0 : Has ((w.alloc (.cells #[.int .i64 wh, .int .i64 N, .string tx] 31)).alloc (.cells #[.int .i64 0, .int .i32 0, .string ⟨#[]⟩, .int .i64 0, .int .i64 0] 27)) w.heap.size #[.int .i64 wh, .int .i64 N, .string tx] := (Has.new _ _ _ rfl).alloc _
  have hQ0 : Has ((w.alloc (.cells #[.int .i64 wh, .int .i64 N, .string tx] 31)).alloc (.cells #[.int .i64 0, .int .i32 0, .string ⟨#[]⟩, .int .i64 0, .int .i64 0] 27)) (w.heap.size + 1) #[.int .i64 0, .int .i32 0, .string ⟨#[]⟩, .int .i64 0, .int .i64 0] := Has.new _ _ _ (by simp)
  clear h0 hw1 hw2 hn1 hn2
  go_enter Tryd.func5, Tryd.ntmps5
  go_wp2_with (first
    | (go_at_call 11; (with_reducible refine (B0 _).mono ?_); rintro e w9 ⟨rfl, hw9⟩; have hw9' := hw9.symm; subst hw9')
    | (go_at_call 13; (with_reducible refine (D1 _).mono ?_); rintro e w1 ⟨⟨v, l, rfl, hl⟩, hb1⟩; replace hBb := hBb.trans (hb1.mono hBb.size); replace hP0 := hP0.below hb1; replace hQ0 := hQ0.below hb1; obtain ⟨pp1, PP1, pq1⟩ := id hP0; obtain ⟨qp1, QQ1, qq1⟩ := id hQ0))
  have hF := (hQ0.set5 (.int .i64 2) (.int .i32 (v : Int)) (.string ⟨#[]⟩) (.int .i64 0) (.int .i64 0)).alloc (.cells #[.int .i64 2, .int .i32 (v : Int), .string ⟨#[]⟩, .int .i64 0, .int .i64 0] 27)
  have hBz := hBb.size
  have hBF := ((((((hBb.setCell (p := ⟨w.heap.size + 1, 0, none⟩) (by simp) (.int .i64 2)).setCell (p := ⟨w.heap.size + 1, 1, none⟩) (by simp) (.int .i32 (v : Int))).setCell (p := ⟨w.heap.size + 1, 2, none⟩) (by simp) (.string ⟨#[]⟩)).setCell (p := ⟨w.heap.size + 1, 3, none⟩) (by simp) (.int .i64 0)).setCell (p := ⟨w.heap.size + 1, 4, none⟩) (by simp) (.int .i64 0)).alloc (by simpa [World.setCell] using hBz) (.cells #[.int .i64 2, .int .i32 (v : Int), .string ⟨#[]⟩, .int .i64 0, .int .i64 0] 27))
  obtain ⟨x0, X1, x2⟩ := hF
  exact bodyPost_ret (v := .tuple #[.agg #[.int .i64 2, .int .i32 (v : Int), .string ⟨#[]⟩, .int .i64 0, .int .i64 0], .string (bs l), .bool true]) (by simp [results, Tryd.results5, go_sem, X1]) rfl ⟨⟨⟨2, (v : Int), []⟩, l, true, rfl, ⟨(num_whl hl).1, fun _ => ⟨num_whl hl, num_hd hl, by unfold Ends; simp⟩, fun h => (by cases h), (by have := hl.2.2.2.1; omega)⟩⟩, hBF⟩
set_option maxRecDepth 100000 in
set_option maxHeartbeats 4000000 in
theorem token_num2 (wh N : Int) (tx : ByteArray) (w : World) (hw1 : -9223372036854775808 ≤ wh) (hw2 : wh < 9223372036854775808) (hn1 : -9223372036854775808 ≤ N) (hn2 : N < 9223372036854775808) (h0 : wh % 8 = 2) :
    Calls Tryd.prog 5 #[.agg #[.int .i64 wh, .int .i64 N, .string tx]] w fun e w' => (∃ tk l is, e = .returned (.tuple #[tokV tk 0 0, .string (bs l), .bool is]) ∧ Pce tk l is) ∧ Below w.heap.size w w' := by
  have B0 := fun W => below_any wh 8 W (by omega) (by omega) hw1 hw2
  rw [h0] at B0
  have D1 : ∀ W, Calls Tryd.prog 13 #[.agg #[.int .i64 wh, .int .i64 N, .string tx]] W fun e w' => (∃ (v : Nat) (l : List UInt8), e = .returned (.tuple #[.agg #[.int .i64 2, .int .i32 (v : Int), .string ⟨#[]⟩, .int .i64 0, .int .i64 0], .string (bs l)]) ∧ NumL v l) ∧ Below W.heap.size W w' := fun W => numbered_any wh N tx W hw1 hw2 hn1 hn2
  have hBb : Below w.heap.size w ((w.alloc (.cells #[.int .i64 wh, .int .i64 N, .string tx] 31)).alloc (.cells #[.int .i64 0, .int .i32 0, .string ⟨#[]⟩, .int .i64 0, .int .i64 0] 27)) := ((Below.refl _ _).alloc (Nat.le_refl _) _).alloc (by simp) _
  have hP0 : Has ((w.alloc (.cells #[.int .i64 wh, .int .i64 N, .string tx] 31)).alloc (.cells #[.int .i64 0, .int .i32 0, .string ⟨#[]⟩, .int .i64 0, .int .i64 0] 27)) w.heap.size #[.int .i64 wh, .int .i64 N, .string tx] := (Has.new _ _ _ rfl).alloc _
  have hQ0 : Has ((w.alloc (.cells #[.int .i64 wh, .int .i64 N, .string tx] 31)).alloc (.cells #[.int .i64 0, .int .i32 0, .string ⟨#[]⟩, .int .i64 0, .int .i64 0] 27)) (w.heap.size + 1) #[.int .i64 0, .int .i32 0, .string ⟨#[]⟩, .int .i64 0, .int .i64 0] := Has.new _ _ _ (by simp)
  clear h0 hw1 hw2 hn1 hn2
  go_enter Tryd.func5, Tryd.ntmps5
  go_wp2_with (first
    | (go_at_call 11; (with_reducible refine (B0 _).mono ?_); rintro e w9 ⟨rfl, hw9⟩; have hw9' := hw9.symm; subst hw9')
    | (go_at_call 13; (with_reducible refine (D1 _).mono ?_); rintro e w1 ⟨⟨v, l, rfl, hl⟩, hb1⟩; replace hBb := hBb.trans (hb1.mono hBb.size); replace hP0 := hP0.below hb1; replace hQ0 := hQ0.below hb1; obtain ⟨pp1, PP1, pq1⟩ := id hP0; obtain ⟨qp1, QQ1, qq1⟩ := id hQ0))
  have hF := (hQ0.set5 (.int .i64 2) (.int .i32 (v : Int)) (.string ⟨#[]⟩) (.int .i64 0) (.int .i64 0)).alloc (.cells #[.int .i64 2, .int .i32 (v : Int), .string ⟨#[]⟩, .int .i64 0, .int .i64 0] 27)
  have hBz := hBb.size
  have hBF := ((((((hBb.setCell (p := ⟨w.heap.size + 1, 0, none⟩) (by simp) (.int .i64 2)).setCell (p := ⟨w.heap.size + 1, 1, none⟩) (by simp) (.int .i32 (v : Int))).setCell (p := ⟨w.heap.size + 1, 2, none⟩) (by simp) (.string ⟨#[]⟩)).setCell (p := ⟨w.heap.size + 1, 3, none⟩) (by simp) (.int .i64 0)).setCell (p := ⟨w.heap.size + 1, 4, none⟩) (by simp) (.int .i64 0)).alloc (by simpa [World.setCell] using hBz) (.cells #[.int .i64 2, .int .i32 (v : Int), .string ⟨#[]⟩, .int .i64 0, .int .i64 0] 27))
  obtain ⟨x0, X1, x2⟩ := hF
  exact bodyPost_ret (v := .tuple #[.agg #[.int .i64 2, .int .i32 (v : Int), .string ⟨#[]⟩, .int .i64 0, .int .i64 0], .string (bs l), .bool true]) (by simp [results, Tryd.results5, go_sem, X1]) rfl ⟨⟨⟨2, (v : Int), []⟩, l, true, rfl, ⟨(num_whl hl).1, fun _ => ⟨num_whl hl, num_hd hl, by unfold Ends; simp⟩, fun h => (by cases h), (by have := hl.2.2.2.1; omega)⟩⟩, hBF⟩
set_option maxRecDepth 100000 in
set_option maxHeartbeats 4000000 in
theorem token_num3 (wh N : Int) (tx : ByteArray) (w : World) (hw1 : -9223372036854775808 ≤ wh) (hw2 : wh < 9223372036854775808) (hn1 : -9223372036854775808 ≤ N) (hn2 : N < 9223372036854775808) (h0 : wh % 8 = 3) :
    Calls Tryd.prog 5 #[.agg #[.int .i64 wh, .int .i64 N, .string tx]] w fun e w' => (∃ tk l is, e = .returned (.tuple #[tokV tk 0 0, .string (bs l), .bool is]) ∧ Pce tk l is) ∧ Below w.heap.size w w' := by
  have B0 := fun W => below_any wh 8 W (by omega) (by omega) hw1 hw2
  rw [h0] at B0
  have D1 : ∀ W, Calls Tryd.prog 13 #[.agg #[.int .i64 wh, .int .i64 N, .string tx]] W fun e w' => (∃ (v : Nat) (l : List UInt8), e = .returned (.tuple #[.agg #[.int .i64 2, .int .i32 (v : Int), .string ⟨#[]⟩, .int .i64 0, .int .i64 0], .string (bs l)]) ∧ NumL v l) ∧ Below W.heap.size W w' := fun W => numbered_any wh N tx W hw1 hw2 hn1 hn2
  have hBb : Below w.heap.size w ((w.alloc (.cells #[.int .i64 wh, .int .i64 N, .string tx] 31)).alloc (.cells #[.int .i64 0, .int .i32 0, .string ⟨#[]⟩, .int .i64 0, .int .i64 0] 27)) := ((Below.refl _ _).alloc (Nat.le_refl _) _).alloc (by simp) _
  have hP0 : Has ((w.alloc (.cells #[.int .i64 wh, .int .i64 N, .string tx] 31)).alloc (.cells #[.int .i64 0, .int .i32 0, .string ⟨#[]⟩, .int .i64 0, .int .i64 0] 27)) w.heap.size #[.int .i64 wh, .int .i64 N, .string tx] := (Has.new _ _ _ rfl).alloc _
  have hQ0 : Has ((w.alloc (.cells #[.int .i64 wh, .int .i64 N, .string tx] 31)).alloc (.cells #[.int .i64 0, .int .i32 0, .string ⟨#[]⟩, .int .i64 0, .int .i64 0] 27)) (w.heap.size + 1) #[.int .i64 0, .int .i32 0, .string ⟨#[]⟩, .int .i64 0, .int .i64 0] := Has.new _ _ _ (by simp)
  clear h0 hw1 hw2 hn1 hn2
  go_enter Tryd.func5, Tryd.ntmps5
  go_wp2_with (first
    | (go_at_call 11; (with_reducible refine (B0 _).mono ?_); rintro e w9 ⟨rfl, hw9⟩; have hw9' := hw9.symm; subst hw9')
    | (go_at_call 13; (with_reducible refine (D1 _).mono ?_); rintro e w1 ⟨⟨v, l, rfl, hl⟩, hb1⟩; replace hBb := hBb.trans (hb1.mono hBb.size); replace hP0 := hP0.below hb1; replace hQ0 := hQ0.below hb1; obtain ⟨pp1, PP1, pq1⟩ := id hP0; obtain ⟨qp1, QQ1, qq1⟩ := id hQ0))
  have hF := (hQ0.set5 (.int .i64 2) (.int .i32 (v : Int)) (.string ⟨#[]⟩) (.int .i64 0) (.int .i64 0)).alloc (.cells #[.int .i64 2, .int .i32 (v : Int), .string ⟨#[]⟩, .int .i64 0, .int .i64 0] 27)
  have hBz := hBb.size
  have hBF := ((((((hBb.setCell (p := ⟨w.heap.size + 1, 0, none⟩) (by simp) (.int .i64 2)).setCell (p := ⟨w.heap.size + 1, 1, none⟩) (by simp) (.int .i32 (v : Int))).setCell (p := ⟨w.heap.size + 1, 2, none⟩) (by simp) (.string ⟨#[]⟩)).setCell (p := ⟨w.heap.size + 1, 3, none⟩) (by simp) (.int .i64 0)).setCell (p := ⟨w.heap.size + 1, 4, none⟩) (by simp) (.int .i64 0)).alloc (by simpa [World.setCell] using hBz) (.cells #[.int .i64 2, .int .i32 (v : Int), .string ⟨#[]⟩, .int .i64 0, .int .i64 0] 27))
  obtain ⟨x0, X1, x2⟩ := hF
  exact bodyPost_ret (v := .tuple #[.agg #[.int .i64 2, .int .i32 (v : Int), .string ⟨#[]⟩, .int .i64 0, .int .i64 0], .string (bs l), .bool true]) (by simp [results, Tryd.results5, go_sem, X1]) rfl ⟨⟨⟨2, (v : Int), []⟩, l, true, rfl, ⟨(num_whl hl).1, fun _ => ⟨num_whl hl, num_hd hl, by unfold Ends; simp⟩, fun h => (by cases h), (by have := hl.2.2.2.1; omega)⟩⟩, hBF⟩
end Go.Proofs.YtjohnhaahpggkabDoor
