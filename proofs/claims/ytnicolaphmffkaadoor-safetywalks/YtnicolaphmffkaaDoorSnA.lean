import Derived.Test.YtnicolaphmffkaaDoorSnM
import Derived.Test.YtnicolaphmffkaaDoorTyC
namespace Go.Proofs.YtnicolaphmffkaaDoor
open Go.RowKit
set_option linter.unusedVariables false
set_option linter.unusedSimpArgs false

/-- The sizes as they are handed over. -/
def Sz.v_ (z : Sz) : Value := (.agg #[.int .i64 (z.g : Int), .int .i64 (z.d : Int), .int .i64 (z.t : Int), .int .i64 (z.c : Int), .int .i64 (z.v : Int)])
theorem wr64 (z : Int) (h : -9223372036854775808 ≤ z ∧ z ≤ 9223372036854775807) : IntKind.i64.wrap z = z := by
  simp [IntKind.wrap, IntKind.bits, IntKind.signed]
  omega
def vOk (v : Int) : Prop := -2147483648 ≤ v ∧ v ≤ 2147483647
theorem em_eq {s : ByteArray} (h : emB s = true) : s = ⟨#[]⟩ := by
  unfold emB at h
  have h2 : s.toList = (⟨#[]⟩ : ByteArray).toList := by rw [List.isEmpty_iff.1 h, Lib.toList_data]
  exact tl_inj h2
set_option maxRecDepth 100000 in
set_option maxHeartbeats 8000000 in
theorem place_any (i n : Int) (w : World) : Calls Tryd.prog 18 #[.int .i64 i, .int .i64 n] w fun e w' => e = .returned (.bool (decide (0 ≤ i) && decide (i < n))) ∧ w' = w := by
  by_cases h0 : 0 ≤ i
  · by_cases h1 : i < n
    · go_enter Tryd.func18, Tryd.ntmps18
      go_wp2_with fail
      go_ret
      exact ⟨by simp [h0, h1], rfl⟩
    · go_enter Tryd.func18, Tryd.ntmps18
      go_wp2_with fail
      go_ret
      exact ⟨by simp [h0, h1], rfl⟩
  · go_enter Tryd.func18, Tryd.ntmps18
    go_wp2_with fail
    go_ret
    exact ⟨by simp; omega, rfl⟩
set_option maxRecDepth 100000 in
set_option maxHeartbeats 8000000 in
theorem sNode3 (z : Sz) (w : World) (val : Int) : Calls Tryd.prog 49 #[(.agg #[.int .i64 (z.g : Int), .int .i64 (z.d : Int), .int .i64 (z.t : Int), .int .i64 (z.c : Int), .int .i64 (z.v : Int)]), .agg #[.int .i64 3, .int .i32 val, .string ⟨#[]⟩, .int .i64 0, .int .i64 0]] w fun e w' => e = .returned (.bool (ndV z 3 val)) ∧ Below w.heap.size w w' := by
  have hb : Below w.heap.size w ((w.alloc (.cells #[.int .i64 (z.g : Int), .int .i64 (z.d : Int), .int .i64 (z.t : Int), .int .i64 (z.c : Int), .int .i64 (z.v : Int)] 83)).alloc (.cells #[.int .i64 3, .int .i32 val, .string ⟨#[]⟩, .int .i64 0, .int .i64 0] 107)) := ((Below.refl _ _).alloc (Nat.le_refl _) _).alloc (by simp) _
  go_enter Tryd.func49, Tryd.ntmps49
  go_wp2_with fail
  go_ret
  exact ⟨by simp [ndV], hb⟩
set_option maxRecDepth 100000 in
set_option maxHeartbeats 8000000 in
theorem sNode1 (z : Sz) (w : World) (val : Int) : Calls Tryd.prog 49 #[(.agg #[.int .i64 (z.g : Int), .int .i64 (z.d : Int), .int .i64 (z.t : Int), .int .i64 (z.c : Int), .int .i64 (z.v : Int)]), .agg #[.int .i64 1, .int .i32 val, .string ⟨#[]⟩, .int .i64 0, .int .i64 0]] w fun e w' => e = .returned (.bool (ndV z 1 val)) ∧ Below w.heap.size w w' := by
  have hb : Below w.heap.size w ((w.alloc (.cells #[.int .i64 (z.g : Int), .int .i64 (z.d : Int), .int .i64 (z.t : Int), .int .i64 (z.c : Int), .int .i64 (z.v : Int)] 83)).alloc (.cells #[.int .i64 1, .int .i32 val, .string ⟨#[]⟩, .int .i64 0, .int .i64 0] 107)) := ((Below.refl _ _).alloc (Nat.le_refl _) _).alloc (by simp) _
  go_enter Tryd.func49, Tryd.ntmps49
  go_wp2_with fail
  go_ret
  exact ⟨by simp [ndV], hb⟩
set_option maxRecDepth 100000 in
set_option maxHeartbeats 8000000 in
theorem sNode2 (z : Sz) (w : World) (val : Int) : Calls Tryd.prog 49 #[(.agg #[.int .i64 (z.g : Int), .int .i64 (z.d : Int), .int .i64 (z.t : Int), .int .i64 (z.c : Int), .int .i64 (z.v : Int)]), .agg #[.int .i64 2, .int .i32 val, .string ⟨#[]⟩, .int .i64 0, .int .i64 0]] w fun e w' => e = .returned (.bool (ndV z 2 val)) ∧ Below w.heap.size w w' := by
  have hb : Below w.heap.size w ((w.alloc (.cells #[.int .i64 (z.g : Int), .int .i64 (z.d : Int), .int .i64 (z.t : Int), .int .i64 (z.c : Int), .int .i64 (z.v : Int)] 83)).alloc (.cells #[.int .i64 2, .int .i32 val, .string ⟨#[]⟩, .int .i64 0, .int .i64 0] 107)) := ((Below.refl _ _).alloc (Nat.le_refl _) _).alloc (by simp) _
  by_cases v0 : val = 0
  · subst v0
    go_enter Tryd.func49, Tryd.ntmps49
    go_wp2_with fail
    go_ret
    exact ⟨by simp [ndV], hb⟩
  · by_cases v1 : val = 1
    · subst v1
      go_enter Tryd.func49, Tryd.ntmps49
      go_wp2_with fail
      go_ret
      exact ⟨by simp [ndV], hb⟩
    · have n0 : (val == 0) = false := by simpa using v0
      have n1 : (val == 1) = false := by simpa using v1
      go_enter Tryd.func49, Tryd.ntmps49
      go_wp2_with fail
      go_ret
      exact ⟨by simp [ndV, v0, v1], hb⟩
set_option maxRecDepth 100000 in
set_option maxHeartbeats 8000000 in
theorem sNode5 (z : Sz) (w : World) (val : Int) (hv : vOk val) : Calls Tryd.prog 49 #[(.agg #[.int .i64 (z.g : Int), .int .i64 (z.d : Int), .int .i64 (z.t : Int), .int .i64 (z.c : Int), .int .i64 (z.v : Int)]), .agg #[.int .i64 5, .int .i32 val, .string ⟨#[]⟩, .int .i64 0, .int .i64 0]] w fun e w' => e = .returned (.bool (ndV z 5 val)) ∧ Below w.heap.size w w' := by
  have hb : Below w.heap.size w ((w.alloc (.cells #[.int .i64 (z.g : Int), .int .i64 (z.d : Int), .int .i64 (z.t : Int), .int .i64 (z.c : Int), .int .i64 (z.v : Int)] 83)).alloc (.cells #[.int .i64 5, .int .i32 val, .string ⟨#[]⟩, .int .i64 0, .int .i64 0] 107)) := ((Below.refl _ _).alloc (Nat.le_refl _) _).alloc (by simp) _
  have wv : IntKind.i64.wrap val = val := wr64 val (by unfold vOk at hv; omega)
  have kP := fun X => place_any val (z.g : Int) X
  go_enter Tryd.func49, Tryd.ntmps49
  go_wp2_with (go_at_call 18; (with_reducible refine Calls.mono (kP _) ?_); rintro e wx ⟨rfl, hwx⟩; have hwy := hwx.symm; clear hwx; subst hwy)
  go_ret
  exact ⟨by simp [ndV, plB], hb⟩
set_option maxRecDepth 100000 in
set_option maxHeartbeats 8000000 in
theorem sNode6 (z : Sz) (w : World) (val : Int) (hv : vOk val) : Calls Tryd.prog 49 #[(.agg #[.int .i64 (z.g : Int), .int .i64 (z.d : Int), .int .i64 (z.t : Int), .int .i64 (z.c : Int), .int .i64 (z.v : Int)]), .agg #[.int .i64 6, .int .i32 val, .string ⟨#[]⟩, .int .i64 0, .int .i64 0]] w fun e w' => e = .returned (.bool (ndV z 6 val)) ∧ Below w.heap.size w w' := by
  have hb : Below w.heap.size w ((w.alloc (.cells #[.int .i64 (z.g : Int), .int .i64 (z.d : Int), .int .i64 (z.t : Int), .int .i64 (z.c : Int), .int .i64 (z.v : Int)] 83)).alloc (.cells #[.int .i64 6, .int .i32 val, .string ⟨#[]⟩, .int .i64 0, .int .i64 0] 107)) := ((Below.refl _ _).alloc (Nat.le_refl _) _).alloc (by simp) _
  have wv : IntKind.i64.wrap val = val := wr64 val (by unfold vOk at hv; omega)
  have kP := fun X => place_any val (z.g : Int) X
  go_enter Tryd.func49, Tryd.ntmps49
  go_wp2_with (go_at_call 18; (with_reducible refine Calls.mono (kP _) ?_); rintro e wx ⟨rfl, hwx⟩; have hwy := hwx.symm; clear hwx; subst hwy)
  go_ret
  exact ⟨by simp [ndV, plB], hb⟩
set_option maxRecDepth 100000 in
set_option maxHeartbeats 8000000 in
theorem sNode7 (z : Sz) (w : World) (val : Int) (hv : vOk val) : Calls Tryd.prog 49 #[(.agg #[.int .i64 (z.g : Int), .int .i64 (z.d : Int), .int .i64 (z.t : Int), .int .i64 (z.c : Int), .int .i64 (z.v : Int)]), .agg #[.int .i64 7, .int .i32 val, .string ⟨#[]⟩, .int .i64 0, .int .i64 0]] w fun e w' => e = .returned (.bool (ndV z 7 val)) ∧ Below w.heap.size w w' := by
  have hb : Below w.heap.size w ((w.alloc (.cells #[.int .i64 (z.g : Int), .int .i64 (z.d : Int), .int .i64 (z.t : Int), .int .i64 (z.c : Int), .int .i64 (z.v : Int)] 83)).alloc (.cells #[.int .i64 7, .int .i32 val, .string ⟨#[]⟩, .int .i64 0, .int .i64 0] 107)) := ((Below.refl _ _).alloc (Nat.le_refl _) _).alloc (by simp) _
  have wv : IntKind.i64.wrap val = val := wr64 val (by unfold vOk at hv; omega)
  have kP := fun X => place_any val (z.v : Int) X
  go_enter Tryd.func49, Tryd.ntmps49
  go_wp2_with (go_at_call 18; (with_reducible refine Calls.mono (kP _) ?_); rintro e wx ⟨rfl, hwx⟩; have hwy := hwx.symm; clear hwx; subst hwy)
  go_ret
  exact ⟨by simp [ndV, plB], hb⟩
set_option maxRecDepth 100000 in
set_option maxHeartbeats 8000000 in
theorem sNode8 (z : Sz) (w : World) (val : Int) (hv : vOk val) : Calls Tryd.prog 49 #[(.agg #[.int .i64 (z.g : Int), .int .i64 (z.d : Int), .int .i64 (z.t : Int), .int .i64 (z.c : Int), .int .i64 (z.v : Int)]), .agg #[.int .i64 8, .int .i32 val, .string ⟨#[]⟩, .int .i64 0, .int .i64 0]] w fun e w' => e = .returned (.bool (ndV z 8 val)) ∧ Below w.heap.size w w' := by
  have hb : Below w.heap.size w ((w.alloc (.cells #[.int .i64 (z.g : Int), .int .i64 (z.d : Int), .int .i64 (z.t : Int), .int .i64 (z.c : Int), .int .i64 (z.v : Int)] 83)).alloc (.cells #[.int .i64 8, .int .i32 val, .string ⟨#[]⟩, .int .i64 0, .int .i64 0] 107)) := ((Below.refl _ _).alloc (Nat.le_refl _) _).alloc (by simp) _
  have wv : IntKind.i64.wrap val = val := wr64 val (by unfold vOk at hv; omega)
  have kP := fun X => place_any val (z.t : Int) X
  go_enter Tryd.func49, Tryd.ntmps49
  go_wp2_with (go_at_call 18; (with_reducible refine Calls.mono (kP _) ?_); rintro e wx ⟨rfl, hwx⟩; have hwy := hwx.symm; clear hwx; subst hwy)
  go_ret
  exact ⟨by simp [ndV, plB], hb⟩
set_option maxRecDepth 100000 in
set_option maxHeartbeats 8000000 in
theorem sNode9 (z : Sz) (w : World) (val : Int) (hv : vOk val) : Calls Tryd.prog 49 #[(.agg #[.int .i64 (z.g : Int), .int .i64 (z.d : Int), .int .i64 (z.t : Int), .int .i64 (z.c : Int), .int .i64 (z.v : Int)]), .agg #[.int .i64 9, .int .i32 val, .string ⟨#[]⟩, .int .i64 0, .int .i64 0]] w fun e w' => e = .returned (.bool (ndV z 9 val)) ∧ Below w.heap.size w w' := by
  have hb : Below w.heap.size w ((w.alloc (.cells #[.int .i64 (z.g : Int), .int .i64 (z.d : Int), .int .i64 (z.t : Int), .int .i64 (z.c : Int), .int .i64 (z.v : Int)] 83)).alloc (.cells #[.int .i64 9, .int .i32 val, .string ⟨#[]⟩, .int .i64 0, .int .i64 0] 107)) := ((Below.refl _ _).alloc (Nat.le_refl _) _).alloc (by simp) _
  have wv : IntKind.i64.wrap val = val := wr64 val (by unfold vOk at hv; omega)
  have kP := fun X => place_any val (z.c : Int) X
  go_enter Tryd.func49, Tryd.ntmps49
  go_wp2_with (go_at_call 18; (with_reducible refine Calls.mono (kP _) ?_); rintro e wx ⟨rfl, hwx⟩; have hwy := hwx.symm; clear hwx; subst hwy)
  go_ret
  exact ⟨by simp [ndV, plB], hb⟩
set_option maxRecDepth 100000 in
set_option maxHeartbeats 8000000 in
theorem sNode10 (z : Sz) (w : World) (val : Int) (hv : vOk val) : Calls Tryd.prog 49 #[(.agg #[.int .i64 (z.g : Int), .int .i64 (z.d : Int), .int .i64 (z.t : Int), .int .i64 (z.c : Int), .int .i64 (z.v : Int)]), .agg #[.int .i64 10, .int .i32 val, .string ⟨#[]⟩, .int .i64 0, .int .i64 0]] w fun e w' => e = .returned (.bool (ndV z 10 val)) ∧ Below w.heap.size w w' := by
  have hb : Below w.heap.size w ((w.alloc (.cells #[.int .i64 (z.g : Int), .int .i64 (z.d : Int), .int .i64 (z.t : Int), .int .i64 (z.c : Int), .int .i64 (z.v : Int)] 83)).alloc (.cells #[.int .i64 10, .int .i32 val, .string ⟨#[]⟩, .int .i64 0, .int .i64 0] 107)) := ((Below.refl _ _).alloc (Nat.le_refl _) _).alloc (by simp) _
  have wv : IntKind.i64.wrap val = val := wr64 val (by unfold vOk at hv; omega)
  have kP := fun X => place_any val (z.d : Int) X
  go_enter Tryd.func49, Tryd.ntmps49
  go_wp2_with (go_at_call 18; (with_reducible refine Calls.mono (kP _) ?_); rintro e wx ⟨rfl, hwx⟩; have hwy := hwx.symm; clear hwx; subst hwy)
  go_ret
  exact ⟨by simp [ndV, plB], hb⟩
set_option maxRecDepth 100000 in
set_option maxHeartbeats 8000000 in
theorem sNodeO (z : Sz) (w : World) (val : Int) (op : Int) (o1 : ¬ op = 1) (o2 : ¬ op = 2) (o3 : ¬ op = 3) (o5 : ¬ op = 5) (o6 : ¬ op = 6) (o7 : ¬ op = 7) (o8 : ¬ op = 8) (o9 : ¬ op = 9) (o10 : ¬ op = 10) : Calls Tryd.prog 49 #[(.agg #[.int .i64 (z.g : Int), .int .i64 (z.d : Int), .int .i64 (z.t : Int), .int .i64 (z.c : Int), .int .i64 (z.v : Int)]), .agg #[.int .i64 op, .int .i32 val, .string ⟨#[]⟩, .int .i64 0, .int .i64 0]] w fun e w' => e = .returned (.bool (ndV z op val)) ∧ Below w.heap.size w w' := by
  have hb : Below w.heap.size w ((w.alloc (.cells #[.int .i64 (z.g : Int), .int .i64 (z.d : Int), .int .i64 (z.t : Int), .int .i64 (z.c : Int), .int .i64 (z.v : Int)] 83)).alloc (.cells #[.int .i64 op, .int .i32 val, .string ⟨#[]⟩, .int .i64 0, .int .i64 0] 107)) := ((Below.refl _ _).alloc (Nat.le_refl _) _).alloc (by simp) _
  have n1 : (op == 1) = false := by simpa using o1
  have n2 : (op == 2) = false := by simpa using o2
  have n3 : (op == 3) = false := by simpa using o3
  have n5 : (op == 5) = false := by simpa using o5
  have n6 : (op == 6) = false := by simpa using o6
  have n7 : (op == 7) = false := by simpa using o7
  have n8 : (op == 8) = false := by simpa using o8
  have n9 : (op == 9) = false := by simpa using o9
  have n10 : (op == 10) = false := by simpa using o10
  by_cases v0 : val = 0
  · subst v0
    go_enter Tryd.func49, Tryd.ntmps49
    go_wp2_with fail
    go_ret
    exact ⟨by simp [ndV, o1, o2, o3, o5, o6, o7, o8, o9, o10], hb⟩
  · have n0 : (val == 0) = false := by simpa using v0
    go_enter Tryd.func49, Tryd.ntmps49
    go_wp2_with fail
    go_ret
    exact ⟨by simp [ndV, v0, o1, o2, o3, o5, o6, o7, o8, o9, o10], hb⟩
set_option maxRecDepth 100000 in
set_option maxHeartbeats 8000000 in
theorem sNodeB (z : Sz) (w : World) (op val : Int) (nm : ByteArray) (ln cl : Int) (hbl : blB nm ln cl = false) : Calls Tryd.prog 49 #[(.agg #[.int .i64 (z.g : Int), .int .i64 (z.d : Int), .int .i64 (z.t : Int), .int .i64 (z.c : Int), .int .i64 (z.v : Int)]), .agg #[.int .i64 op, .int .i32 val, .string nm, .int .i64 ln, .int .i64 cl]] w fun e w' => e = .returned (.bool false) ∧ Below w.heap.size w w' := by
  have hb : Below w.heap.size w ((w.alloc (.cells #[.int .i64 (z.g : Int), .int .i64 (z.d : Int), .int .i64 (z.t : Int), .int .i64 (z.c : Int), .int .i64 (z.v : Int)] 83)).alloc (.cells #[.int .i64 op, .int .i32 val, .string nm, .int .i64 ln, .int .i64 cl] 107)) := ((Below.refl _ _).alloc (Nat.le_refl _) _).alloc (by simp) _
  by_cases e0 : emB nm = true
  · have e1 := em_eq e0
    subst e1
    have e2 : ¬ (ln = 0 ∧ cl = 0) := by intro q; obtain ⟨rfl, rfl⟩ := q; simp [blB, emB] at hbl
    by_cases l0 : ln = 0
    · subst l0
      have c0 : ¬ cl = 0 := fun q => e2 ⟨rfl, q⟩
      have n0 : (cl == 0) = false := by simpa using c0
      go_enter Tryd.func49, Tryd.ntmps49
      go_wp2_with fail
      go_ret
      exact ⟨rfl, hb⟩
    · have n0 : (ln == 0) = false := by simpa using l0
      go_enter Tryd.func49, Tryd.ntmps49
      go_wp2_with fail
      go_ret
      exact ⟨rfl, hb⟩
  · have e1 : ¬ nm.toList = [] := by intro q; exact e0 (by unfold emB; rw [q]; rfl)
    go_enter Tryd.func49, Tryd.ntmps49
    go_wp2_with fail
    all_goals go_ret
    all_goals exact ⟨rfl, hb⟩
theorem sNode_any (z : Sz) (x : Nd) (w : World) (hv : vOk x.val) : Calls Tryd.prog 49 #[(.agg #[.int .i64 (z.g : Int), .int .i64 (z.d : Int), .int .i64 (z.t : Int), .int .i64 (z.c : Int), .int .i64 (z.v : Int)]), .agg #[.int .i64 x.op, .int .i32 x.val, .string x.name, .int .i64 x.line, .int .i64 x.col]] w fun e w' => e = .returned (.bool (ndB z x)) ∧ Below w.heap.size w w' := by
  obtain ⟨op, val, nm, ln, cl⟩ := x
  simp only at hv ⊢
  unfold ndB
  cases hbl : blB nm ln cl with
  | false => exact sNodeB z w op val nm ln cl hbl
  | true =>
    simp only [Bool.true_and]
    unfold blB at hbl
    simp only [Bool.and_eq_true, decide_eq_true_eq] at hbl
    obtain ⟨h1, rfl, rfl⟩ := hbl
    have h1 := em_eq h1
    subst h1
    by_cases q : op = 1 ∨ op = 2 ∨ op = 3 ∨ op = 5 ∨ op = 6 ∨ op = 7 ∨ op = 8 ∨ op = 9 ∨ op = 10
    · rcases q with rfl | rfl | rfl | rfl | rfl | rfl | rfl | rfl | rfl
      · exact sNode1 z w val
      · exact sNode2 z w val
      · exact sNode3 z w val
      · exact sNode5 z w val hv
      · exact sNode6 z w val hv
      · exact sNode7 z w val hv
      · exact sNode8 z w val hv
      · exact sNode9 z w val hv
      · exact sNode10 z w val hv
    · exact sNodeO z w val op (by omega) (by omega) (by omega) (by omega) (by omega) (by omega) (by omega) (by omega) (by omega)
end Go.Proofs.YtnicolaphmffkaaDoor
