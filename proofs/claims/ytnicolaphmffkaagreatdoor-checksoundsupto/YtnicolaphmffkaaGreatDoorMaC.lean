import Derived.Test.YtnicolaphmffkaaGreatDoorMaB
import Derived.Test.YtnicolaphmffkaaGreatDoorNesC
namespace Go.Proofs.YtnicolaphmffkaaGreatDoor
open Go.RowKit
set_option linter.unusedVariables false
set_option linter.unusedSimpArgs false

theorem wr64 (z : Int) (h : -9223372036854775808 ≤ z ∧ z ≤ 9223372036854775807) : IntKind.i64.wrap z = z := by
  simp [IntKind.wrap, IntKind.bits, IntKind.signed]
  omega
def vOk (v : Int) : Prop := -2147483648 ≤ v ∧ v ≤ 2147483647
theorem em_eq {s : ByteArray} (h : emB s = true) : s = ⟨#[]⟩ := by
  unfold emB at h
  have h2 : s.toList = (⟨#[]⟩ : ByteArray).toList := by rw [List.isEmpty_iff.1 h, Lib.toList_data]
  exact tl_inj h2
set_option maxRecDepth 100000 in
set_option maxHeartbeats 8000000 in
theorem place_any (i n : Int) (w : World) : Calls Tryz.prog 35 #[.int .i64 i, .int .i64 n] w fun e w' => e = .returned (.bool (decide (0 ≤ i) && decide (i < n))) ∧ w' = w := by
  by_cases h0 : 0 ≤ i
  · by_cases h1 : i < n
    · go_enter Tryz.func35, Tryz.ntmps35
      go_wp2_with fail
      go_ret
      exact ⟨by simp [h0, h1], rfl⟩
    · go_enter Tryz.func35, Tryz.ntmps35
      go_wp2_with fail
      go_ret
      exact ⟨by simp [h0, h1], rfl⟩
  · go_enter Tryz.func35, Tryz.ntmps35
    go_wp2_with fail
    go_ret
    exact ⟨by simp; omega, rfl⟩
set_option maxRecDepth 100000 in
set_option maxHeartbeats 8000000 in
theorem sNode3 (z : Sz) (w : World) (val : Int) : Calls Tryz.prog 74 #[(.agg #[.int .i64 (z.g : Int), .int .i64 (z.d : Int), .int .i64 (z.t : Int), .int .i64 (z.c : Int), .int .i64 (z.v : Int)]), .agg #[.int .i64 3, .int .i32 val, .string ⟨#[]⟩, .int .i64 0, .int .i64 0]] w fun e w' => e = .returned (.bool (ndV z 3 val)) ∧ Below w.heap.size w w' := by
  have hb : Below w.heap.size w ((w.alloc (.cells #[.int .i64 (z.g : Int), .int .i64 (z.d : Int), .int .i64 (z.t : Int), .int .i64 (z.c : Int), .int .i64 (z.v : Int)] 104)).alloc (.cells #[.int .i64 3, .int .i32 val, .string ⟨#[]⟩, .int .i64 0, .int .i64 0] 88)) := ((Below.refl _ _).alloc (Nat.le_refl _) _).alloc (by simp) _
  go_enter Tryz.func74, Tryz.ntmps74
  go_wp2_with fail
  go_ret
  exact ⟨by simp [ndV], hb⟩
set_option maxRecDepth 100000 in
set_option maxHeartbeats 8000000 in
theorem sNode1 (z : Sz) (w : World) (val : Int) : Calls Tryz.prog 74 #[(.agg #[.int .i64 (z.g : Int), .int .i64 (z.d : Int), .int .i64 (z.t : Int), .int .i64 (z.c : Int), .int .i64 (z.v : Int)]), .agg #[.int .i64 1, .int .i32 val, .string ⟨#[]⟩, .int .i64 0, .int .i64 0]] w fun e w' => e = .returned (.bool (ndV z 1 val)) ∧ Below w.heap.size w w' := by
  have hb : Below w.heap.size w ((w.alloc (.cells #[.int .i64 (z.g : Int), .int .i64 (z.d : Int), .int .i64 (z.t : Int), .int .i64 (z.c : Int), .int .i64 (z.v : Int)] 104)).alloc (.cells #[.int .i64 1, .int .i32 val, .string ⟨#[]⟩, .int .i64 0, .int .i64 0] 88)) := ((Below.refl _ _).alloc (Nat.le_refl _) _).alloc (by simp) _
  go_enter Tryz.func74, Tryz.ntmps74
  go_wp2_with fail
  go_ret
  exact ⟨by simp [ndV], hb⟩
set_option maxRecDepth 100000 in
set_option maxHeartbeats 8000000 in
theorem sNode2 (z : Sz) (w : World) (val : Int) : Calls Tryz.prog 74 #[(.agg #[.int .i64 (z.g : Int), .int .i64 (z.d : Int), .int .i64 (z.t : Int), .int .i64 (z.c : Int), .int .i64 (z.v : Int)]), .agg #[.int .i64 2, .int .i32 val, .string ⟨#[]⟩, .int .i64 0, .int .i64 0]] w fun e w' => e = .returned (.bool (ndV z 2 val)) ∧ Below w.heap.size w w' := by
  have hb : Below w.heap.size w ((w.alloc (.cells #[.int .i64 (z.g : Int), .int .i64 (z.d : Int), .int .i64 (z.t : Int), .int .i64 (z.c : Int), .int .i64 (z.v : Int)] 104)).alloc (.cells #[.int .i64 2, .int .i32 val, .string ⟨#[]⟩, .int .i64 0, .int .i64 0] 88)) := ((Below.refl _ _).alloc (Nat.le_refl _) _).alloc (by simp) _
  by_cases v0 : val = 0
  · subst v0
    go_enter Tryz.func74, Tryz.ntmps74
    go_wp2_with fail
    go_ret
    exact ⟨by simp [ndV], hb⟩
  · by_cases v1 : val = 1
    · subst v1
      go_enter Tryz.func74, Tryz.ntmps74
      go_wp2_with fail
      go_ret
      exact ⟨by simp [ndV], hb⟩
    · have n0 : (val == 0) = false := by simpa using v0
      have n1 : (val == 1) = false := by simpa using v1
      go_enter Tryz.func74, Tryz.ntmps74
      go_wp2_with fail
      go_ret
      exact ⟨by simp [ndV, v0, v1], hb⟩
set_option maxRecDepth 100000 in
set_option maxHeartbeats 8000000 in
theorem sNode5 (z : Sz) (w : World) (val : Int) (hv : vOk val) : Calls Tryz.prog 74 #[(.agg #[.int .i64 (z.g : Int), .int .i64 (z.d : Int), .int .i64 (z.t : Int), .int .i64 (z.c : Int), .int .i64 (z.v : Int)]), .agg #[.int .i64 5, .int .i32 val, .string ⟨#[]⟩, .int .i64 0, .int .i64 0]] w fun e w' => e = .returned (.bool (ndV z 5 val)) ∧ Below w.heap.size w w' := by
  have hb : Below w.heap.size w ((w.alloc (.cells #[.int .i64 (z.g : Int), .int .i64 (z.d : Int), .int .i64 (z.t : Int), .int .i64 (z.c : Int), .int .i64 (z.v : Int)] 104)).alloc (.cells #[.int .i64 5, .int .i32 val, .string ⟨#[]⟩, .int .i64 0, .int .i64 0] 88)) := ((Below.refl _ _).alloc (Nat.le_refl _) _).alloc (by simp) _
  have wv : IntKind.i64.wrap val = val := wr64 val (by unfold vOk at hv; omega)
  have kP := fun X => place_any val (z.g : Int) X
  go_enter Tryz.func74, Tryz.ntmps74
  go_wp2_with (go_at_call 35; (with_reducible refine Calls.mono (kP _) ?_); rintro e wx ⟨rfl, hwx⟩; have hwy := hwx.symm; clear hwx; subst hwy)
  go_ret
  exact ⟨by simp [ndV, plB], hb⟩
set_option maxRecDepth 100000 in
set_option maxHeartbeats 8000000 in
theorem sNode6 (z : Sz) (w : World) (val : Int) (hv : vOk val) : Calls Tryz.prog 74 #[(.agg #[.int .i64 (z.g : Int), .int .i64 (z.d : Int), .int .i64 (z.t : Int), .int .i64 (z.c : Int), .int .i64 (z.v : Int)]), .agg #[.int .i64 6, .int .i32 val, .string ⟨#[]⟩, .int .i64 0, .int .i64 0]] w fun e w' => e = .returned (.bool (ndV z 6 val)) ∧ Below w.heap.size w w' := by
  have hb : Below w.heap.size w ((w.alloc (.cells #[.int .i64 (z.g : Int), .int .i64 (z.d : Int), .int .i64 (z.t : Int), .int .i64 (z.c : Int), .int .i64 (z.v : Int)] 104)).alloc (.cells #[.int .i64 6, .int .i32 val, .string ⟨#[]⟩, .int .i64 0, .int .i64 0] 88)) := ((Below.refl _ _).alloc (Nat.le_refl _) _).alloc (by simp) _
  have wv : IntKind.i64.wrap val = val := wr64 val (by unfold vOk at hv; omega)
  have kP := fun X => place_any val (z.g : Int) X
  go_enter Tryz.func74, Tryz.ntmps74
  go_wp2_with (go_at_call 35; (with_reducible refine Calls.mono (kP _) ?_); rintro e wx ⟨rfl, hwx⟩; have hwy := hwx.symm; clear hwx; subst hwy)
  go_ret
  exact ⟨by simp [ndV, plB], hb⟩
set_option maxRecDepth 100000 in
set_option maxHeartbeats 8000000 in
theorem sNode7 (z : Sz) (w : World) (val : Int) (hv : vOk val) : Calls Tryz.prog 74 #[(.agg #[.int .i64 (z.g : Int), .int .i64 (z.d : Int), .int .i64 (z.t : Int), .int .i64 (z.c : Int), .int .i64 (z.v : Int)]), .agg #[.int .i64 7, .int .i32 val, .string ⟨#[]⟩, .int .i64 0, .int .i64 0]] w fun e w' => e = .returned (.bool (ndV z 7 val)) ∧ Below w.heap.size w w' := by
  have hb : Below w.heap.size w ((w.alloc (.cells #[.int .i64 (z.g : Int), .int .i64 (z.d : Int), .int .i64 (z.t : Int), .int .i64 (z.c : Int), .int .i64 (z.v : Int)] 104)).alloc (.cells #[.int .i64 7, .int .i32 val, .string ⟨#[]⟩, .int .i64 0, .int .i64 0] 88)) := ((Below.refl _ _).alloc (Nat.le_refl _) _).alloc (by simp) _
  have wv : IntKind.i64.wrap val = val := wr64 val (by unfold vOk at hv; omega)
  have kP := fun X => place_any val (z.v : Int) X
  go_enter Tryz.func74, Tryz.ntmps74
  go_wp2_with (go_at_call 35; (with_reducible refine Calls.mono (kP _) ?_); rintro e wx ⟨rfl, hwx⟩; have hwy := hwx.symm; clear hwx; subst hwy)
  go_ret
  exact ⟨by simp [ndV, plB], hb⟩
set_option maxRecDepth 100000 in
set_option maxHeartbeats 8000000 in
theorem sNode8 (z : Sz) (w : World) (val : Int) (hv : vOk val) : Calls Tryz.prog 74 #[(.agg #[.int .i64 (z.g : Int), .int .i64 (z.d : Int), .int .i64 (z.t : Int), .int .i64 (z.c : Int), .int .i64 (z.v : Int)]), .agg #[.int .i64 8, .int .i32 val, .string ⟨#[]⟩, .int .i64 0, .int .i64 0]] w fun e w' => e = .returned (.bool (ndV z 8 val)) ∧ Below w.heap.size w w' := by
  have hb : Below w.heap.size w ((w.alloc (.cells #[.int .i64 (z.g : Int), .int .i64 (z.d : Int), .int .i64 (z.t : Int), .int .i64 (z.c : Int), .int .i64 (z.v : Int)] 104)).alloc (.cells #[.int .i64 8, .int .i32 val, .string ⟨#[]⟩, .int .i64 0, .int .i64 0] 88)) := ((Below.refl _ _).alloc (Nat.le_refl _) _).alloc (by simp) _
  have wv : IntKind.i64.wrap val = val := wr64 val (by unfold vOk at hv; omega)
  have kP := fun X => place_any val (z.t : Int) X
  go_enter Tryz.func74, Tryz.ntmps74
  go_wp2_with (go_at_call 35; (with_reducible refine Calls.mono (kP _) ?_); rintro e wx ⟨rfl, hwx⟩; have hwy := hwx.symm; clear hwx; subst hwy)
  go_ret
  exact ⟨by simp [ndV, plB], hb⟩
set_option maxRecDepth 100000 in
set_option maxHeartbeats 8000000 in
theorem sNode9 (z : Sz) (w : World) (val : Int) (hv : vOk val) : Calls Tryz.prog 74 #[(.agg #[.int .i64 (z.g : Int), .int .i64 (z.d : Int), .int .i64 (z.t : Int), .int .i64 (z.c : Int), .int .i64 (z.v : Int)]), .agg #[.int .i64 9, .int .i32 val, .string ⟨#[]⟩, .int .i64 0, .int .i64 0]] w fun e w' => e = .returned (.bool (ndV z 9 val)) ∧ Below w.heap.size w w' := by
  have hb : Below w.heap.size w ((w.alloc (.cells #[.int .i64 (z.g : Int), .int .i64 (z.d : Int), .int .i64 (z.t : Int), .int .i64 (z.c : Int), .int .i64 (z.v : Int)] 104)).alloc (.cells #[.int .i64 9, .int .i32 val, .string ⟨#[]⟩, .int .i64 0, .int .i64 0] 88)) := ((Below.refl _ _).alloc (Nat.le_refl _) _).alloc (by simp) _
  have wv : IntKind.i64.wrap val = val := wr64 val (by unfold vOk at hv; omega)
  have kP := fun X => place_any val (z.c : Int) X
  go_enter Tryz.func74, Tryz.ntmps74
  go_wp2_with (go_at_call 35; (with_reducible refine Calls.mono (kP _) ?_); rintro e wx ⟨rfl, hwx⟩; have hwy := hwx.symm; clear hwx; subst hwy)
  go_ret
  exact ⟨by simp [ndV, plB], hb⟩
set_option maxRecDepth 100000 in
set_option maxHeartbeats 8000000 in
theorem sNode10 (z : Sz) (w : World) (val : Int) (hv : vOk val) : Calls Tryz.prog 74 #[(.agg #[.int .i64 (z.g : Int), .int .i64 (z.d : Int), .int .i64 (z.t : Int), .int .i64 (z.c : Int), .int .i64 (z.v : Int)]), .agg #[.int .i64 10, .int .i32 val, .string ⟨#[]⟩, .int .i64 0, .int .i64 0]] w fun e w' => e = .returned (.bool (ndV z 10 val)) ∧ Below w.heap.size w w' := by
  have hb : Below w.heap.size w ((w.alloc (.cells #[.int .i64 (z.g : Int), .int .i64 (z.d : Int), .int .i64 (z.t : Int), .int .i64 (z.c : Int), .int .i64 (z.v : Int)] 104)).alloc (.cells #[.int .i64 10, .int .i32 val, .string ⟨#[]⟩, .int .i64 0, .int .i64 0] 88)) := ((Below.refl _ _).alloc (Nat.le_refl _) _).alloc (by simp) _
  have wv : IntKind.i64.wrap val = val := wr64 val (by unfold vOk at hv; omega)
  have kP := fun X => place_any val (z.d : Int) X
  go_enter Tryz.func74, Tryz.ntmps74
  go_wp2_with (go_at_call 35; (with_reducible refine Calls.mono (kP _) ?_); rintro e wx ⟨rfl, hwx⟩; have hwy := hwx.symm; clear hwx; subst hwy)
  go_ret
  exact ⟨by simp [ndV, plB], hb⟩
set_option maxRecDepth 100000 in
set_option maxHeartbeats 8000000 in
theorem sNodeO (z : Sz) (w : World) (val : Int) (op : Int) (o1 : ¬ op = 1) (o2 : ¬ op = 2) (o3 : ¬ op = 3) (o5 : ¬ op = 5) (o6 : ¬ op = 6) (o7 : ¬ op = 7) (o8 : ¬ op = 8) (o9 : ¬ op = 9) (o10 : ¬ op = 10) : Calls Tryz.prog 74 #[(.agg #[.int .i64 (z.g : Int), .int .i64 (z.d : Int), .int .i64 (z.t : Int), .int .i64 (z.c : Int), .int .i64 (z.v : Int)]), .agg #[.int .i64 op, .int .i32 val, .string ⟨#[]⟩, .int .i64 0, .int .i64 0]] w fun e w' => e = .returned (.bool (ndV z op val)) ∧ Below w.heap.size w w' := by
  have hb : Below w.heap.size w ((w.alloc (.cells #[.int .i64 (z.g : Int), .int .i64 (z.d : Int), .int .i64 (z.t : Int), .int .i64 (z.c : Int), .int .i64 (z.v : Int)] 104)).alloc (.cells #[.int .i64 op, .int .i32 val, .string ⟨#[]⟩, .int .i64 0, .int .i64 0] 88)) := ((Below.refl _ _).alloc (Nat.le_refl _) _).alloc (by simp) _
  have n1 : (op == 1) = false := by simpa using o1
  have n2 : (op == 2) = false := by simpa using o2
  have n3 : (op == 3) = false := by simpa using o3
  have n5 : (op == 5) = false := by simpa using o5
  have n6 : (op == 6) = false := by simpa using o6
  have n7 : (op == 7) = false := by simpa using o7
  have n8 : (op == 8) = false := by simpa using o8
  have n9 : (op == 9) = false := by simpa using o9
  have n10 : (op == 10) = false := by simpa using o10
  by_cases v0 : val = 0
  · subst v0
    go_enter Tryz.func74, Tryz.ntmps74
    go_wp2_with fail
    go_ret
    exact ⟨by simp [ndV, o1, o2, o3, o5, o6, o7, o8, o9, o10], hb⟩
  · have n0 : (val == 0) = false := by simpa using v0
    go_enter Tryz.func74, Tryz.ntmps74
    go_wp2_with fail
    go_ret
    exact ⟨by simp [ndV, v0, o1, o2, o3, o5, o6, o7, o8, o9, o10], hb⟩
set_option maxRecDepth 100000 in
set_option maxHeartbeats 8000000 in
theorem sNodeB (z : Sz) (w : World) (op val : Int) (nm : ByteArray) (ln cl : Int) (hbl : blB nm ln cl = false) : Calls Tryz.prog 74 #[(.agg #[.int .i64 (z.g : Int), .int .i64 (z.d : Int), .int .i64 (z.t : Int), .int .i64 (z.c : Int), .int .i64 (z.v : Int)]), .agg #[.int .i64 op, .int .i32 val, .string nm, .int .i64 ln, .int .i64 cl]] w fun e w' => e = .returned (.bool false) ∧ Below w.heap.size w w' := by
  have hb : Below w.heap.size w ((w.alloc (.cells #[.int .i64 (z.g : Int), .int .i64 (z.d : Int), .int .i64 (z.t : Int), .int .i64 (z.c : Int), .int .i64 (z.v : Int)] 104)).alloc (.cells #[.int .i64 op, .int .i32 val, .string nm, .int .i64 ln, .int .i64 cl] 88)) := ((Below.refl _ _).alloc (Nat.le_refl _) _).alloc (by simp) _
  by_cases e0 : emB nm = true
  · have e1 := em_eq e0
    subst e1
    have e2 : ¬ (ln = 0 ∧ cl = 0) := by intro q; obtain ⟨rfl, rfl⟩ := q; simp [blB, emB] at hbl
    by_cases l0 : ln = 0
    · subst l0
      have c0 : ¬ cl = 0 := fun q => e2 ⟨rfl, q⟩
      have n0 : (cl == 0) = false := by simpa using c0
      go_enter Tryz.func74, Tryz.ntmps74
      go_wp2_with fail
      go_ret
      exact ⟨rfl, hb⟩
    · have n0 : (ln == 0) = false := by simpa using l0
      go_enter Tryz.func74, Tryz.ntmps74
      go_wp2_with fail
      go_ret
      exact ⟨rfl, hb⟩
  · have e1 : ¬ nm.toList = [] := by intro q; exact e0 (by unfold emB; rw [q]; rfl)
    go_enter Tryz.func74, Tryz.ntmps74
    go_wp2_with fail
    all_goals go_ret
    all_goals exact ⟨rfl, hb⟩
theorem sNode_any (z : Sz) (x : Nd) (w : World) (hv : vOk x.val) : Calls Tryz.prog 74 #[(.agg #[.int .i64 (z.g : Int), .int .i64 (z.d : Int), .int .i64 (z.t : Int), .int .i64 (z.c : Int), .int .i64 (z.v : Int)]), .agg #[.int .i64 x.op, .int .i32 x.val, .string x.name, .int .i64 x.line, .int .i64 x.col]] w fun e w' => e = .returned (.bool (ndB z x)) ∧ Below w.heap.size w w' := by
  obtain ⟨op, val, nm, ln, cl⟩ := x
  simp only at hv ⊢
  unfold ndB
  cases hbl : blB nm ln cl with
  | false => exact sNodeB z w op val nm ln cl hbl
  | true =>
    simp only [Bool.true_and]
    unfold blB at hbl
    simp only [Bool.and_eq_true, decide_eq_true_eq] at hbl
    obtain ⟨h1, rfl, rfl⟩ := hbl
    have h1 := em_eq h1
    subst h1
    by_cases q : op = 1 ∨ op = 2 ∨ op = 3 ∨ op = 5 ∨ op = 6 ∨ op = 7 ∨ op = 8 ∨ op = 9 ∨ op = 10
    · rcases q with rfl | rfl | rfl | rfl | rfl | rfl | rfl | rfl | rfl
      · exact sNode1 z w val
      · exact sNode2 z w val
      · exact sNode3 z w val
      · exact sNode5 z w val hv
      · exact sNode6 z w val hv
      · exact sNode7 z w val hv
      · exact sNode8 z w val hv
      · exact sNode9 z w val hv
      · exact sNode10 z w val hv
    · exact sNodeO z w val op (by omega) (by omega) (by omega) (by omega) (by omega) (by omega) (by omega) (by omega) (by omega)
end Go.Proofs.YtnicolaphmffkaaGreatDoor
namespace Go.Proofs.YtnicolaphmffkaaGreatDoor
open Go.RowKit
set_option linter.unusedVariables false
set_option linter.unusedSimpArgs false

/-- What a node asks: how many operands, of which type, and what it is. -/
def ruO (op : Int) : Int := if op < 20 then 0 else if op < 30 then 1 else 2
def ruT (op : Int) : Int := if op < 20 then 0 else if op = 21 ∨ op = 50 ∨ op = 51 then 2 else if op = 40 ∨ op = 41 then 0 else 1
def ruI (op : Int) : Int := if op = 3 then 0 else if op = 1 ∨ op = 4 ∨ op = 20 ∨ op = 22 ∨ (30 ≤ op ∧ op ≤ 36) then 1 else 2
def ruV (op : Int) : Value := .agg #[.int .i64 (ruO op), .int .i64 (ruT op), .int .i64 (ruI op)]
def Rule (op : Int) : Prop := ∀ w : World, Calls Tryz.prog 104 #[.int .i64 op] w fun e w' => e = .returned (ruV op) ∧ Below w.heap.size w w'
set_option maxRecDepth 100000 in
set_option maxHeartbeats 8000000 in
theorem rule1 : Rule 1 := by
  intro w
  rw [show ruV 1 = .agg #[.int .i64 0, .int .i64 0, .int .i64 1] from rfl]
  go_enter Tryz.func104, Tryz.ntmps104
  go_wp2_with fail
  exact bodyPost_ret (v := .agg #[.int .i64 0, .int .i64 0, .int .i64 1]) (by simp [results, Tryz.results104, go_sem]) rfl ⟨rfl, (Below.refl _ _).alloc (Nat.le_refl _) _⟩
set_option maxRecDepth 100000 in
set_option maxHeartbeats 8000000 in
theorem rule2 : Rule 2 := by
  intro w
  rw [show ruV 2 = .agg #[.int .i64 0, .int .i64 0, .int .i64 2] from rfl]
  go_enter Tryz.func104, Tryz.ntmps104
  go_wp2_with fail
  exact bodyPost_ret (v := .agg #[.int .i64 0, .int .i64 0, .int .i64 2]) (by simp [results, Tryz.results104, go_sem]) rfl ⟨rfl, (Below.refl _ _).alloc (Nat.le_refl _) _⟩
set_option maxRecDepth 100000 in
set_option maxHeartbeats 8000000 in
theorem rule3 : Rule 3 := by
  intro w
  rw [show ruV 3 = .agg #[.int .i64 0, .int .i64 0, .int .i64 0] from rfl]
  go_enter Tryz.func104, Tryz.ntmps104
  go_wp2_with fail
  exact bodyPost_ret (v := .agg #[.int .i64 0, .int .i64 0, .int .i64 0]) (by simp [results, Tryz.results104, go_sem]) rfl ⟨rfl, (Below.refl _ _).alloc (Nat.le_refl _) _⟩
set_option maxRecDepth 100000 in
set_option maxHeartbeats 8000000 in
theorem rule4 : Rule 4 := by
  intro w
  rw [show ruV 4 = .agg #[.int .i64 0, .int .i64 0, .int .i64 1] from rfl]
  go_enter Tryz.func104, Tryz.ntmps104
  go_wp2_with fail
  exact bodyPost_ret (v := .agg #[.int .i64 0, .int .i64 0, .int .i64 1]) (by simp [results, Tryz.results104, go_sem]) rfl ⟨rfl, (Below.refl _ _).alloc (Nat.le_refl _) _⟩
set_option maxRecDepth 100000 in
set_option maxHeartbeats 8000000 in
theorem rule5 : Rule 5 := by
  intro w
  rw [show ruV 5 = .agg #[.int .i64 0, .int .i64 0, .int .i64 2] from rfl]
  go_enter Tryz.func104, Tryz.ntmps104
  go_wp2_with fail
  exact bodyPost_ret (v := .agg #[.int .i64 0, .int .i64 0, .int .i64 2]) (by simp [results, Tryz.results104, go_sem]) rfl ⟨rfl, (Below.refl _ _).alloc (Nat.le_refl _) _⟩
set_option maxRecDepth 100000 in
set_option maxHeartbeats 8000000 in
theorem rule6 : Rule 6 := by
  intro w
  rw [show ruV 6 = .agg #[.int .i64 0, .int .i64 0, .int .i64 2] from rfl]
  go_enter Tryz.func104, Tryz.ntmps104
  go_wp2_with fail
  exact bodyPost_ret (v := .agg #[.int .i64 0, .int .i64 0, .int .i64 2]) (by simp [results, Tryz.results104, go_sem]) rfl ⟨rfl, (Below.refl _ _).alloc (Nat.le_refl _) _⟩
set_option maxRecDepth 100000 in
set_option maxHeartbeats 8000000 in
theorem rule20 : Rule 20 := by
  intro w
  rw [show ruV 20 = .agg #[.int .i64 1, .int .i64 1, .int .i64 1] from rfl]
  go_enter Tryz.func104, Tryz.ntmps104
  go_wp2_with fail
  exact bodyPost_ret (v := .agg #[.int .i64 1, .int .i64 1, .int .i64 1]) (by simp [results, Tryz.results104, go_sem]) rfl ⟨rfl, (Below.refl _ _).alloc (Nat.le_refl _) _⟩
set_option maxRecDepth 100000 in
set_option maxHeartbeats 8000000 in
theorem rule21 : Rule 21 := by
  intro w
  rw [show ruV 21 = .agg #[.int .i64 1, .int .i64 2, .int .i64 2] from rfl]
  go_enter Tryz.func104, Tryz.ntmps104
  go_wp2_with fail
  exact bodyPost_ret (v := .agg #[.int .i64 1, .int .i64 2, .int .i64 2]) (by simp [results, Tryz.results104, go_sem]) rfl ⟨rfl, (Below.refl _ _).alloc (Nat.le_refl _) _⟩
set_option maxRecDepth 100000 in
set_option maxHeartbeats 8000000 in
theorem rule22 : Rule 22 := by
  intro w
  rw [show ruV 22 = .agg #[.int .i64 1, .int .i64 1, .int .i64 1] from rfl]
  go_enter Tryz.func104, Tryz.ntmps104
  go_wp2_with fail
  exact bodyPost_ret (v := .agg #[.int .i64 1, .int .i64 1, .int .i64 1]) (by simp [results, Tryz.results104, go_sem]) rfl ⟨rfl, (Below.refl _ _).alloc (Nat.le_refl _) _⟩
set_option maxRecDepth 100000 in
set_option maxHeartbeats 8000000 in
theorem rule30 : Rule 30 := by
  intro w
  rw [show ruV 30 = .agg #[.int .i64 2, .int .i64 1, .int .i64 1] from rfl]
  go_enter Tryz.func104, Tryz.ntmps104
  go_wp2_with fail
  exact bodyPost_ret (v := .agg #[.int .i64 2, .int .i64 1, .int .i64 1]) (by simp [results, Tryz.results104, go_sem]) rfl ⟨rfl, (Below.refl _ _).alloc (Nat.le_refl _) _⟩
set_option maxRecDepth 100000 in
set_option maxHeartbeats 8000000 in
theorem rule31 : Rule 31 := by
  intro w
  rw [show ruV 31 = .agg #[.int .i64 2, .int .i64 1, .int .i64 1] from rfl]
  go_enter Tryz.func104, Tryz.ntmps104
  go_wp2_with fail
  exact bodyPost_ret (v := .agg #[.int .i64 2, .int .i64 1, .int .i64 1]) (by simp [results, Tryz.results104, go_sem]) rfl ⟨rfl, (Below.refl _ _).alloc (Nat.le_refl _) _⟩
set_option maxRecDepth 100000 in
set_option maxHeartbeats 8000000 in
theorem rule32 : Rule 32 := by
  intro w
  rw [show ruV 32 = .agg #[.int .i64 2, .int .i64 1, .int .i64 1] from rfl]
  go_enter Tryz.func104, Tryz.ntmps104
  go_wp2_with fail
  exact bodyPost_ret (v := .agg #[.int .i64 2, .int .i64 1, .int .i64 1]) (by simp [results, Tryz.results104, go_sem]) rfl ⟨rfl, (Below.refl _ _).alloc (Nat.le_refl _) _⟩
set_option maxRecDepth 100000 in
set_option maxHeartbeats 8000000 in
theorem rule33 : Rule 33 := by
  intro w
  rw [show ruV 33 = .agg #[.int .i64 2, .int .i64 1, .int .i64 1] from rfl]
  go_enter Tryz.func104, Tryz.ntmps104
  go_wp2_with fail
  exact bodyPost_ret (v := .agg #[.int .i64 2, .int .i64 1, .int .i64 1]) (by simp [results, Tryz.results104, go_sem]) rfl ⟨rfl, (Below.refl _ _).alloc (Nat.le_refl _) _⟩
set_option maxRecDepth 100000 in
set_option maxHeartbeats 8000000 in
theorem rule34 : Rule 34 := by
  intro w
  rw [show ruV 34 = .agg #[.int .i64 2, .int .i64 1, .int .i64 1] from rfl]
  go_enter Tryz.func104, Tryz.ntmps104
  go_wp2_with fail
  exact bodyPost_ret (v := .agg #[.int .i64 2, .int .i64 1, .int .i64 1]) (by simp [results, Tryz.results104, go_sem]) rfl ⟨rfl, (Below.refl _ _).alloc (Nat.le_refl _) _⟩
set_option maxRecDepth 100000 in
set_option maxHeartbeats 8000000 in
theorem rule35 : Rule 35 := by
  intro w
  rw [show ruV 35 = .agg #[.int .i64 2, .int .i64 1, .int .i64 1] from rfl]
  go_enter Tryz.func104, Tryz.ntmps104
  go_wp2_with fail
  exact bodyPost_ret (v := .agg #[.int .i64 2, .int .i64 1, .int .i64 1]) (by simp [results, Tryz.results104, go_sem]) rfl ⟨rfl, (Below.refl _ _).alloc (Nat.le_refl _) _⟩
set_option maxRecDepth 100000 in
set_option maxHeartbeats 8000000 in
theorem rule36 : Rule 36 := by
  intro w
  rw [show ruV 36 = .agg #[.int .i64 2, .int .i64 1, .int .i64 1] from rfl]
  go_enter Tryz.func104, Tryz.ntmps104
  go_wp2_with fail
  exact bodyPost_ret (v := .agg #[.int .i64 2, .int .i64 1, .int .i64 1]) (by simp [results, Tryz.results104, go_sem]) rfl ⟨rfl, (Below.refl _ _).alloc (Nat.le_refl _) _⟩
set_option maxRecDepth 100000 in
set_option maxHeartbeats 8000000 in
theorem rule40 : Rule 40 := by
  intro w
  rw [show ruV 40 = .agg #[.int .i64 2, .int .i64 0, .int .i64 2] from rfl]
  go_enter Tryz.func104, Tryz.ntmps104
  go_wp2_with fail
  exact bodyPost_ret (v := .agg #[.int .i64 2, .int .i64 0, .int .i64 2]) (by simp [results, Tryz.results104, go_sem]) rfl ⟨rfl, (Below.refl _ _).alloc (Nat.le_refl _) _⟩
set_option maxRecDepth 100000 in
set_option maxHeartbeats 8000000 in
theorem rule41 : Rule 41 := by
  intro w
  rw [show ruV 41 = .agg #[.int .i64 2, .int .i64 0, .int .i64 2] from rfl]
  go_enter Tryz.func104, Tryz.ntmps104
  go_wp2_with fail
  exact bodyPost_ret (v := .agg #[.int .i64 2, .int .i64 0, .int .i64 2]) (by simp [results, Tryz.results104, go_sem]) rfl ⟨rfl, (Below.refl _ _).alloc (Nat.le_refl _) _⟩
set_option maxRecDepth 100000 in
set_option maxHeartbeats 8000000 in
theorem rule42 : Rule 42 := by
  intro w
  rw [show ruV 42 = .agg #[.int .i64 2, .int .i64 1, .int .i64 2] from rfl]
  go_enter Tryz.func104, Tryz.ntmps104
  go_wp2_with fail
  exact bodyPost_ret (v := .agg #[.int .i64 2, .int .i64 1, .int .i64 2]) (by simp [results, Tryz.results104, go_sem]) rfl ⟨rfl, (Below.refl _ _).alloc (Nat.le_refl _) _⟩
set_option maxRecDepth 100000 in
set_option maxHeartbeats 8000000 in
theorem rule43 : Rule 43 := by
  intro w
  rw [show ruV 43 = .agg #[.int .i64 2, .int .i64 1, .int .i64 2] from rfl]
  go_enter Tryz.func104, Tryz.ntmps104
  go_wp2_with fail
  exact bodyPost_ret (v := .agg #[.int .i64 2, .int .i64 1, .int .i64 2]) (by simp [results, Tryz.results104, go_sem]) rfl ⟨rfl, (Below.refl _ _).alloc (Nat.le_refl _) _⟩
set_option maxRecDepth 100000 in
set_option maxHeartbeats 8000000 in
theorem rule44 : Rule 44 := by
  intro w
  rw [show ruV 44 = .agg #[.int .i64 2, .int .i64 1, .int .i64 2] from rfl]
  go_enter Tryz.func104, Tryz.ntmps104
  go_wp2_with fail
  exact bodyPost_ret (v := .agg #[.int .i64 2, .int .i64 1, .int .i64 2]) (by simp [results, Tryz.results104, go_sem]) rfl ⟨rfl, (Below.refl _ _).alloc (Nat.le_refl _) _⟩
set_option maxRecDepth 100000 in
set_option maxHeartbeats 8000000 in
theorem rule45 : Rule 45 := by
  intro w
  rw [show ruV 45 = .agg #[.int .i64 2, .int .i64 1, .int .i64 2] from rfl]
  go_enter Tryz.func104, Tryz.ntmps104
  go_wp2_with fail
  exact bodyPost_ret (v := .agg #[.int .i64 2, .int .i64 1, .int .i64 2]) (by simp [results, Tryz.results104, go_sem]) rfl ⟨rfl, (Below.refl _ _).alloc (Nat.le_refl _) _⟩
set_option maxRecDepth 100000 in
set_option maxHeartbeats 8000000 in
theorem rule50 : Rule 50 := by
  intro w
  rw [show ruV 50 = .agg #[.int .i64 2, .int .i64 2, .int .i64 2] from rfl]
  go_enter Tryz.func104, Tryz.ntmps104
  go_wp2_with fail
  exact bodyPost_ret (v := .agg #[.int .i64 2, .int .i64 2, .int .i64 2]) (by simp [results, Tryz.results104, go_sem]) rfl ⟨rfl, (Below.refl _ _).alloc (Nat.le_refl _) _⟩
set_option maxRecDepth 100000 in
set_option maxHeartbeats 8000000 in
theorem rule51 : Rule 51 := by
  intro w
  rw [show ruV 51 = .agg #[.int .i64 2, .int .i64 2, .int .i64 2] from rfl]
  go_enter Tryz.func104, Tryz.ntmps104
  go_wp2_with fail
  exact bodyPost_ret (v := .agg #[.int .i64 2, .int .i64 2, .int .i64 2]) (by simp [results, Tryz.results104, go_sem]) rfl ⟨rfl, (Below.refl _ _).alloc (Nat.le_refl _) _⟩
theorem rule_any (op : Int) (w : World) (h : (op = 1 ∨ op = 2 ∨ op = 3 ∨ op = 4 ∨ op = 5 ∨ op = 6) ∨ opB op) : Calls Tryz.prog 104 #[.int .i64 op] w fun e w' => e = .returned (ruV op) ∧ Below w.heap.size w w' := by
  have h' : op = 1 ∨ op = 2 ∨ op = 3 ∨ op = 4 ∨ op = 5 ∨ op = 6 ∨ op = 20 ∨ op = 21 ∨ op = 22 ∨ op = 30 ∨ op = 31 ∨ op = 32 ∨ op = 33 ∨ op = 34 ∨ op = 35 ∨ op = 36 ∨ op = 40 ∨ op = 41 ∨ op = 42 ∨ op = 43 ∨ op = 44 ∨ op = 45 ∨ op = 50 ∨ op = 51 := by unfold opB at h; omega
  rcases h' with rfl | rfl | rfl | rfl | rfl | rfl | rfl | rfl | rfl | rfl | rfl | rfl | rfl | rfl | rfl | rfl | rfl | rfl | rfl | rfl | rfl | rfl | rfl | rfl
  · exact rule1 w
  · exact rule2 w
  · exact rule3 w
  · exact rule4 w
  · exact rule5 w
  · exact rule6 w
  · exact rule20 w
  · exact rule21 w
  · exact rule22 w
  · exact rule30 w
  · exact rule31 w
  · exact rule32 w
  · exact rule33 w
  · exact rule34 w
  · exact rule35 w
  · exact rule36 w
  · exact rule40 w
  · exact rule41 w
  · exact rule42 w
  · exact rule43 w
  · exact rule44 w
  · exact rule45 w
  · exact rule50 w
  · exact rule51 w
end Go.Proofs.YtnicolaphmffkaaGreatDoor
namespace Go.Proofs.YtnicolaphmffkaaGreatDoor
open Go.RowKit
set_option linter.unusedVariables false
set_option linter.unusedSimpArgs false

theorem fld137 (a b c : Int) (X : World) : (Instr.field 206 (.agg #[.int .i64 a, .int .i64 b, .int .i64 c]) 2).run Tryz.prog X = .ok (.int .i64 c) X := by kernel_rfl
set_option maxRecDepth 100000 in
set_option maxHeartbeats 8000000 in
theorem rul1 (w : World) : Calls Tryz.prog 104 #[.int .i64 1] w fun e w' => e = .returned (.agg #[.int .i64 0, .int .i64 0, .int .i64 1]) ∧ Below w.heap.size w w' := by
  exact rule1 w
set_option maxRecDepth 100000 in
set_option maxHeartbeats 8000000 in
theorem rul2 (w : World) : Calls Tryz.prog 104 #[.int .i64 2] w fun e w' => e = .returned (.agg #[.int .i64 0, .int .i64 0, .int .i64 2]) ∧ Below w.heap.size w w' := by
  exact rule2 w
set_option maxRecDepth 100000 in
set_option maxHeartbeats 8000000 in
theorem rul3 (w : World) : Calls Tryz.prog 104 #[.int .i64 3] w fun e w' => e = .returned (.agg #[.int .i64 0, .int .i64 0, .int .i64 0]) ∧ Below w.heap.size w w' := by
  exact rule3 w
set_option maxRecDepth 100000 in
set_option maxHeartbeats 8000000 in
theorem rul4 (w : World) : Calls Tryz.prog 104 #[.int .i64 4] w fun e w' => e = .returned (.agg #[.int .i64 0, .int .i64 0, .int .i64 1]) ∧ Below w.heap.size w w' := by
  exact rule4 w
set_option maxRecDepth 100000 in
set_option maxHeartbeats 8000000 in
theorem rul5 (w : World) : Calls Tryz.prog 104 #[.int .i64 5] w fun e w' => e = .returned (.agg #[.int .i64 0, .int .i64 0, .int .i64 2]) ∧ Below w.heap.size w w' := by
  exact rule5 w
set_option maxRecDepth 100000 in
set_option maxHeartbeats 8000000 in
theorem rul6 (w : World) : Calls Tryz.prog 104 #[.int .i64 6] w fun e w' => e = .returned (.agg #[.int .i64 0, .int .i64 0, .int .i64 2]) ∧ Below w.heap.size w w' := by
  exact rule6 w
set_option maxRecDepth 100000 in
set_option maxHeartbeats 8000000 in
theorem rul7 (w : World) : Calls Tryz.prog 104 #[.int .i64 7] w fun e w' => e = .returned (.agg #[.int .i64 0, .int .i64 0, .int .i64 1]) ∧ Below w.heap.size w w' := by
  go_enter Tryz.func104, Tryz.ntmps104
  go_wp2_with fail
  exact bodyPost_ret (v := .agg #[.int .i64 0, .int .i64 0, .int .i64 1]) (by simp [results, Tryz.results104, go_sem]) rfl ⟨rfl, (Below.refl _ _).alloc (Nat.le_refl _) _⟩
set_option maxRecDepth 100000 in
set_option maxHeartbeats 8000000 in
theorem rul8 (w : World) : Calls Tryz.prog 104 #[.int .i64 8] w fun e w' => e = .returned (.agg #[.int .i64 0, .int .i64 0, .int .i64 1]) ∧ Below w.heap.size w w' := by
  go_enter Tryz.func104, Tryz.ntmps104
  go_wp2_with fail
  exact bodyPost_ret (v := .agg #[.int .i64 0, .int .i64 0, .int .i64 1]) (by simp [results, Tryz.results104, go_sem]) rfl ⟨rfl, (Below.refl _ _).alloc (Nat.le_refl _) _⟩
set_option maxRecDepth 100000 in
set_option maxHeartbeats 8000000 in
theorem rul9 (w : World) : Calls Tryz.prog 104 #[.int .i64 9] w fun e w' => e = .returned (.agg #[.int .i64 0, .int .i64 0, .int .i64 1]) ∧ Below w.heap.size w w' := by
  go_enter Tryz.func104, Tryz.ntmps104
  go_wp2_with fail
  exact bodyPost_ret (v := .agg #[.int .i64 0, .int .i64 0, .int .i64 1]) (by simp [results, Tryz.results104, go_sem]) rfl ⟨rfl, (Below.refl _ _).alloc (Nat.le_refl _) _⟩
set_option maxRecDepth 100000 in
set_option maxHeartbeats 8000000 in
theorem rul10 (w : World) : Calls Tryz.prog 104 #[.int .i64 10] w fun e w' => e = .returned (.agg #[.int .i64 0, .int .i64 0, .int .i64 2]) ∧ Below w.heap.size w w' := by
  go_enter Tryz.func104, Tryz.ntmps104
  go_wp2_with fail
  exact bodyPost_ret (v := .agg #[.int .i64 0, .int .i64 0, .int .i64 2]) (by simp [results, Tryz.results104, go_sem]) rfl ⟨rfl, (Below.refl _ _).alloc (Nat.le_refl _) _⟩
set_option maxRecDepth 100000 in
set_option maxHeartbeats 8000000 in
theorem plain1 (val : Int) (nm : ByteArray) (ln cl : Int) (w : World) : Calls Tryz.prog 76 #[.agg #[.int .i64 1, .int .i32 val, .string nm, .int .i64 ln, .int .i64 cl]] w fun e w' => e = .returned (.tuple #[.int .i64 1, .int .i64 0]) ∧ Below w.heap.size w w' := by
  have hb1 : Below w.heap.size w (w.alloc (.cells #[.int .i64 1, .int .i32 val, .string nm, .int .i64 ln, .int .i64 cl] 88)) := bel1 _
  have kR := rul1 (w.alloc (.cells #[.int .i64 1, .int .i32 val, .string nm, .int .i64 ln, .int .i64 cl] 88))
  have fl := fun X => fld137 0 0 1 X
  go_enter Tryz.func76, Tryz.ntmps76
  go_wp2_with fail
  go_at_call 104
  refine Calls.mono kR ?_
  rintro e w2 ⟨rfl, h2⟩
  have hb2 := bel_after hb1 hb1.size h2
  go_wp2_with fail
  exact bodyPost_ret (v := .tuple #[.int .i64 1, .int .i64 0]) (by simp [results, Tryz.results76, go_sem]) rfl ⟨rfl, hb2⟩
set_option maxRecDepth 100000 in
set_option maxHeartbeats 8000000 in
theorem plain2 (val : Int) (nm : ByteArray) (ln cl : Int) (w : World) : Calls Tryz.prog 76 #[.agg #[.int .i64 2, .int .i32 val, .string nm, .int .i64 ln, .int .i64 cl]] w fun e w' => e = .returned (.tuple #[.int .i64 2, .int .i64 0]) ∧ Below w.heap.size w w' := by
  have hb1 : Below w.heap.size w (w.alloc (.cells #[.int .i64 2, .int .i32 val, .string nm, .int .i64 ln, .int .i64 cl] 88)) := bel1 _
  have kR := rul2 (w.alloc (.cells #[.int .i64 2, .int .i32 val, .string nm, .int .i64 ln, .int .i64 cl] 88))
  have fl := fun X => fld137 0 0 2 X
  go_enter Tryz.func76, Tryz.ntmps76
  go_wp2_with fail
  go_at_call 104
  refine Calls.mono kR ?_
  rintro e w2 ⟨rfl, h2⟩
  have hb2 := bel_after hb1 hb1.size h2
  go_wp2_with fail
  exact bodyPost_ret (v := .tuple #[.int .i64 2, .int .i64 0]) (by simp [results, Tryz.results76, go_sem]) rfl ⟨rfl, hb2⟩
set_option maxRecDepth 100000 in
set_option maxHeartbeats 8000000 in
theorem plain3 (val : Int) (nm : ByteArray) (ln cl : Int) (w : World) : Calls Tryz.prog 76 #[.agg #[.int .i64 3, .int .i32 val, .string nm, .int .i64 ln, .int .i64 cl]] w fun e w' => e = .returned (.tuple #[.int .i64 0, .int .i64 0]) ∧ Below w.heap.size w w' := by
  have hb1 : Below w.heap.size w (w.alloc (.cells #[.int .i64 3, .int .i32 val, .string nm, .int .i64 ln, .int .i64 cl] 88)) := bel1 _
  have kR := rul3 (w.alloc (.cells #[.int .i64 3, .int .i32 val, .string nm, .int .i64 ln, .int .i64 cl] 88))
  have fl := fun X => fld137 0 0 0 X
  go_enter Tryz.func76, Tryz.ntmps76
  go_wp2_with fail
  go_at_call 104
  refine Calls.mono kR ?_
  rintro e w2 ⟨rfl, h2⟩
  have hb2 := bel_after hb1 hb1.size h2
  go_wp2_with fail
  exact bodyPost_ret (v := .tuple #[.int .i64 0, .int .i64 0]) (by simp [results, Tryz.results76, go_sem]) rfl ⟨rfl, hb2⟩
set_option maxRecDepth 100000 in
set_option maxHeartbeats 8000000 in
theorem plain4 (val : Int) (nm : ByteArray) (ln cl : Int) (w : World) : Calls Tryz.prog 76 #[.agg #[.int .i64 4, .int .i32 val, .string nm, .int .i64 ln, .int .i64 cl]] w fun e w' => e = .returned (.tuple #[.int .i64 1, .int .i64 0]) ∧ Below w.heap.size w w' := by
  have hb1 : Below w.heap.size w (w.alloc (.cells #[.int .i64 4, .int .i32 val, .string nm, .int .i64 ln, .int .i64 cl] 88)) := bel1 _
  have kR := rul4 (w.alloc (.cells #[.int .i64 4, .int .i32 val, .string nm, .int .i64 ln, .int .i64 cl] 88))
  have fl := fun X => fld137 0 0 1 X
  go_enter Tryz.func76, Tryz.ntmps76
  go_wp2_with fail
  go_at_call 104
  refine Calls.mono kR ?_
  rintro e w2 ⟨rfl, h2⟩
  have hb2 := bel_after hb1 hb1.size h2
  go_wp2_with fail
  exact bodyPost_ret (v := .tuple #[.int .i64 1, .int .i64 0]) (by simp [results, Tryz.results76, go_sem]) rfl ⟨rfl, hb2⟩
set_option maxRecDepth 100000 in
set_option maxHeartbeats 8000000 in
theorem plain5 (val : Int) (nm : ByteArray) (ln cl : Int) (w : World) : Calls Tryz.prog 76 #[.agg #[.int .i64 5, .int .i32 val, .string nm, .int .i64 ln, .int .i64 cl]] w fun e w' => e = .returned (.tuple #[.int .i64 2, .int .i64 0]) ∧ Below w.heap.size w w' := by
  have hb1 : Below w.heap.size w (w.alloc (.cells #[.int .i64 5, .int .i32 val, .string nm, .int .i64 ln, .int .i64 cl] 88)) := bel1 _
  have kR := rul5 (w.alloc (.cells #[.int .i64 5, .int .i32 val, .string nm, .int .i64 ln, .int .i64 cl] 88))
  have fl := fun X => fld137 0 0 2 X
  go_enter Tryz.func76, Tryz.ntmps76
  go_wp2_with fail
  go_at_call 104
  refine Calls.mono kR ?_
  rintro e w2 ⟨rfl, h2⟩
  have hb2 := bel_after hb1 hb1.size h2
  go_wp2_with fail
  exact bodyPost_ret (v := .tuple #[.int .i64 2, .int .i64 0]) (by simp [results, Tryz.results76, go_sem]) rfl ⟨rfl, hb2⟩
set_option maxRecDepth 100000 in
set_option maxHeartbeats 8000000 in
theorem plain6 (val : Int) (nm : ByteArray) (ln cl : Int) (w : World) : Calls Tryz.prog 76 #[.agg #[.int .i64 6, .int .i32 val, .string nm, .int .i64 ln, .int .i64 cl]] w fun e w' => e = .returned (.tuple #[.int .i64 2, .int .i64 0]) ∧ Below w.heap.size w w' := by
  have hb1 : Below w.heap.size w (w.alloc (.cells #[.int .i64 6, .int .i32 val, .string nm, .int .i64 ln, .int .i64 cl] 88)) := bel1 _
  have kR := rul6 (w.alloc (.cells #[.int .i64 6, .int .i32 val, .string nm, .int .i64 ln, .int .i64 cl] 88))
  have fl := fun X => fld137 0 0 2 X
  go_enter Tryz.func76, Tryz.ntmps76
  go_wp2_with fail
  go_at_call 104
  refine Calls.mono kR ?_
  rintro e w2 ⟨rfl, h2⟩
  have hb2 := bel_after hb1 hb1.size h2
  go_wp2_with fail
  exact bodyPost_ret (v := .tuple #[.int .i64 2, .int .i64 0]) (by simp [results, Tryz.results76, go_sem]) rfl ⟨rfl, hb2⟩
set_option maxRecDepth 100000 in
set_option maxHeartbeats 8000000 in
theorem plain7 (val : Int) (nm : ByteArray) (ln cl : Int) (w : World) : Calls Tryz.prog 76 #[.agg #[.int .i64 7, .int .i32 val, .string nm, .int .i64 ln, .int .i64 cl]] w fun e w' => e = .returned (.tuple #[.int .i64 1, .int .i64 0]) ∧ Below w.heap.size w w' := by
  have hb1 : Below w.heap.size w (w.alloc (.cells #[.int .i64 7, .int .i32 val, .string nm, .int .i64 ln, .int .i64 cl] 88)) := bel1 _
  have kR := rul7 (w.alloc (.cells #[.int .i64 7, .int .i32 val, .string nm, .int .i64 ln, .int .i64 cl] 88))
  have fl := fun X => fld137 0 0 1 X
  go_enter Tryz.func76, Tryz.ntmps76
  go_wp2_with fail
  go_at_call 104
  refine Calls.mono kR ?_
  rintro e w2 ⟨rfl, h2⟩
  have hb2 := bel_after hb1 hb1.size h2
  go_wp2_with fail
  exact bodyPost_ret (v := .tuple #[.int .i64 1, .int .i64 0]) (by simp [results, Tryz.results76, go_sem]) rfl ⟨rfl, hb2⟩
set_option maxRecDepth 100000 in
set_option maxHeartbeats 8000000 in
theorem plain8 (val : Int) (nm : ByteArray) (ln cl : Int) (w : World) : Calls Tryz.prog 76 #[.agg #[.int .i64 8, .int .i32 val, .string nm, .int .i64 ln, .int .i64 cl]] w fun e w' => e = .returned (.tuple #[.int .i64 1, .int .i64 0]) ∧ Below w.heap.size w w' := by
  have hb1 : Below w.heap.size w (w.alloc (.cells #[.int .i64 8, .int .i32 val, .string nm, .int .i64 ln, .int .i64 cl] 88)) := bel1 _
  have kR := rul8 (w.alloc (.cells #[.int .i64 8, .int .i32 val, .string nm, .int .i64 ln, .int .i64 cl] 88))
  have fl := fun X => fld137 0 0 1 X
  go_enter Tryz.func76, Tryz.ntmps76
  go_wp2_with fail
  go_at_call 104
  refine Calls.mono kR ?_
  rintro e w2 ⟨rfl, h2⟩
  have hb2 := bel_after hb1 hb1.size h2
  go_wp2_with fail
  exact bodyPost_ret (v := .tuple #[.int .i64 1, .int .i64 0]) (by simp [results, Tryz.results76, go_sem]) rfl ⟨rfl, hb2⟩
set_option maxRecDepth 100000 in
set_option maxHeartbeats 8000000 in
theorem plain9 (val : Int) (nm : ByteArray) (ln cl : Int) (w : World) : Calls Tryz.prog 76 #[.agg #[.int .i64 9, .int .i32 val, .string nm, .int .i64 ln, .int .i64 cl]] w fun e w' => e = .returned (.tuple #[.int .i64 1, .int .i64 0]) ∧ Below w.heap.size w w' := by
  have hb1 : Below w.heap.size w (w.alloc (.cells #[.int .i64 9, .int .i32 val, .string nm, .int .i64 ln, .int .i64 cl] 88)) := bel1 _
  have kR := rul9 (w.alloc (.cells #[.int .i64 9, .int .i32 val, .string nm, .int .i64 ln, .int .i64 cl] 88))
  have fl := fun X => fld137 0 0 1 X
  go_enter Tryz.func76, Tryz.ntmps76
  go_wp2_with fail
  go_at_call 104
  refine Calls.mono kR ?_
  rintro e w2 ⟨rfl, h2⟩
  have hb2 := bel_after hb1 hb1.size h2
  go_wp2_with fail
  exact bodyPost_ret (v := .tuple #[.int .i64 1, .int .i64 0]) (by simp [results, Tryz.results76, go_sem]) rfl ⟨rfl, hb2⟩
set_option maxRecDepth 100000 in
set_option maxHeartbeats 8000000 in
theorem plain10 (val : Int) (nm : ByteArray) (ln cl : Int) (w : World) : Calls Tryz.prog 76 #[.agg #[.int .i64 10, .int .i32 val, .string nm, .int .i64 ln, .int .i64 cl]] w fun e w' => e = .returned (.tuple #[.int .i64 2, .int .i64 0]) ∧ Below w.heap.size w w' := by
  have hb1 : Below w.heap.size w (w.alloc (.cells #[.int .i64 10, .int .i32 val, .string nm, .int .i64 ln, .int .i64 cl] 88)) := bel1 _
  have kR := rul10 (w.alloc (.cells #[.int .i64 10, .int .i32 val, .string nm, .int .i64 ln, .int .i64 cl] 88))
  have fl := fun X => fld137 0 0 2 X
  go_enter Tryz.func76, Tryz.ntmps76
  go_wp2_with fail
  go_at_call 104
  refine Calls.mono kR ?_
  rintro e w2 ⟨rfl, h2⟩
  have hb2 := bel_after hb1 hb1.size h2
  go_wp2_with fail
  exact bodyPost_ret (v := .tuple #[.int .i64 2, .int .i64 0]) (by simp [results, Tryz.results76, go_sem]) rfl ⟨rfl, hb2⟩
theorem plain_any (x : Nd) (w : World) (ho : lfO x.op) : Calls Tryz.prog 76 #[.agg #[.int .i64 x.op, .int .i32 x.val, .string x.name, .int .i64 x.line, .int .i64 x.col]] w fun e w' => e = .returned (.tuple #[.int .i64 (lfT x.op), .int .i64 0]) ∧ Below w.heap.size w w' := by
  obtain ⟨op, val, nm, ln, cl⟩ := x
  unfold lfO at ho
  simp only at ho ⊢
  rcases ho with rfl | rfl | rfl | rfl | rfl | rfl | rfl | rfl | rfl | rfl
  · exact plain1 val nm ln cl w
  · exact plain2 val nm ln cl w
  · exact plain3 val nm ln cl w
  · exact plain4 val nm ln cl w
  · exact plain5 val nm ln cl w
  · exact plain6 val nm ln cl w
  · exact plain7 val nm ln cl w
  · exact plain8 val nm ln cl w
  · exact plain9 val nm ln cl w
  · exact plain10 val nm ln cl w
/-- The type that a rule tells. -/
def ruJ (op : Int) : Int := if op < 20 then lfT op else ruI op
def ruW (op : Int) : Value := .agg #[.int .i64 (ruO op), .int .i64 (ruT op), .int .i64 (ruJ op)]
theorem ruleA (op : Int) (w : World) (h : lfO op ∨ opB op) : Calls Tryz.prog 104 #[.int .i64 op] w fun e w' => e = .returned (ruW op) ∧ Below w.heap.size w w' := by
  rcases h with h | h
  · unfold lfO at h
    rcases h with rfl | rfl | rfl | rfl | rfl | rfl | rfl | rfl | rfl | rfl
    · exact rul1 w
    · exact rul2 w
    · exact rul3 w
    · exact rul4 w
    · exact rul5 w
    · exact rul6 w
    · exact rul7 w
    · exact rul8 w
    · exact rul9 w
    · exact rul10 w
  · have := rule_any op w (.inr h)
    unfold ruV at this
    unfold ruW ruJ
    rw [if_neg (by unfold opB at h; omega)]
    exact this
end Go.Proofs.YtnicolaphmffkaaGreatDoor
