import Derived.Test.YtnicolaphmffkaaDoorSnA
import Derived.Test.YtnicolaphmffkaaDoorTyF
namespace Go.Proofs.YtnicolaphmffkaaDoor
open Go.RowKit
set_option linter.unusedVariables false
set_option linter.unusedSimpArgs false

theorem fld137 (a b c : Int) (X : World) : (Instr.field 137 (.agg #[.int .i64 a, .int .i64 b, .int .i64 c]) 2).run Tryd.prog X = .ok (.int .i64 c) X := by kernel_rfl
set_option maxRecDepth 100000 in
set_option maxHeartbeats 8000000 in
theorem rul1 (w : World) : Calls Tryd.prog 69 #[.int .i64 1] w fun e w' => e = .returned (.agg #[.int .i64 0, .int .i64 0, .int .i64 1]) ∧ Below w.heap.size w w' := by
  exact rule1 w
set_option maxRecDepth 100000 in
set_option maxHeartbeats 8000000 in
theorem rul2 (w : World) : Calls Tryd.prog 69 #[.int .i64 2] w fun e w' => e = .returned (.agg #[.int .i64 0, .int .i64 0, .int .i64 2]) ∧ Below w.heap.size w w' := by
  exact rule2 w
set_option maxRecDepth 100000 in
set_option maxHeartbeats 8000000 in
theorem rul3 (w : World) : Calls Tryd.prog 69 #[.int .i64 3] w fun e w' => e = .returned (.agg #[.int .i64 0, .int .i64 0, .int .i64 0]) ∧ Below w.heap.size w w' := by
  exact rule3 w
set_option maxRecDepth 100000 in
set_option maxHeartbeats 8000000 in
theorem rul4 (w : World) : Calls Tryd.prog 69 #[.int .i64 4] w fun e w' => e = .returned (.agg #[.int .i64 0, .int .i64 0, .int .i64 1]) ∧ Below w.heap.size w w' := by
  exact rule4 w
set_option maxRecDepth 100000 in
set_option maxHeartbeats 8000000 in
theorem rul5 (w : World) : Calls Tryd.prog 69 #[.int .i64 5] w fun e w' => e = .returned (.agg #[.int .i64 0, .int .i64 0, .int .i64 2]) ∧ Below w.heap.size w w' := by
  exact rule5 w
set_option maxRecDepth 100000 in
set_option maxHeartbeats 8000000 in
theorem rul6 (w : World) : Calls Tryd.prog 69 #[.int .i64 6] w fun e w' => e = .returned (.agg #[.int .i64 0, .int .i64 0, .int .i64 2]) ∧ Below w.heap.size w w' := by
  exact rule6 w
set_option maxRecDepth 100000 in
set_option maxHeartbeats 8000000 in
theorem rul7 (w : World) : Calls Tryd.prog 69 #[.int .i64 7] w fun e w' => e = .returned (.agg #[.int .i64 0, .int .i64 0, .int .i64 1]) ∧ Below w.heap.size w w' := by
  go_enter Tryd.func69, Tryd.ntmps69
  go_wp2_with fail
  exact bodyPost_ret (v := .agg #[.int .i64 0, .int .i64 0, .int .i64 1]) (by simp [results, Tryd.results69, go_sem]) rfl ⟨rfl, (Below.refl _ _).alloc (Nat.le_refl _) _⟩
set_option maxRecDepth 100000 in
set_option maxHeartbeats 8000000 in
theorem rul8 (w : World) : Calls Tryd.prog 69 #[.int .i64 8] w fun e w' => e = .returned (.agg #[.int .i64 0, .int .i64 0, .int .i64 1]) ∧ Below w.heap.size w w' := by
  go_enter Tryd.func69, Tryd.ntmps69
  go_wp2_with fail
  exact bodyPost_ret (v := .agg #[.int .i64 0, .int .i64 0, .int .i64 1]) (by simp [results, Tryd.results69, go_sem]) rfl ⟨rfl, (Below.refl _ _).alloc (Nat.le_refl _) _⟩
set_option maxRecDepth 100000 in
set_option maxHeartbeats 8000000 in
theorem rul9 (w : World) : Calls Tryd.prog 69 #[.int .i64 9] w fun e w' => e = .returned (.agg #[.int .i64 0, .int .i64 0, .int .i64 1]) ∧ Below w.heap.size w w' := by
  go_enter Tryd.func69, Tryd.ntmps69
  go_wp2_with fail
  exact bodyPost_ret (v := .agg #[.int .i64 0, .int .i64 0, .int .i64 1]) (by simp [results, Tryd.results69, go_sem]) rfl ⟨rfl, (Below.refl _ _).alloc (Nat.le_refl _) _⟩
set_option maxRecDepth 100000 in
set_option maxHeartbeats 8000000 in
theorem rul10 (w : World) : Calls Tryd.prog 69 #[.int .i64 10] w fun e w' => e = .returned (.agg #[.int .i64 0, .int .i64 0, .int .i64 2]) ∧ Below w.heap.size w w' := by
  go_enter Tryd.func69, Tryd.ntmps69
  go_wp2_with fail
  exact bodyPost_ret (v := .agg #[.int .i64 0, .int .i64 0, .int .i64 2]) (by simp [results, Tryd.results69, go_sem]) rfl ⟨rfl, (Below.refl _ _).alloc (Nat.le_refl _) _⟩
set_option maxRecDepth 100000 in
set_option maxHeartbeats 8000000 in
theorem plain1 (val : Int) (nm : ByteArray) (ln cl : Int) (w : World) : Calls Tryd.prog 51 #[.agg #[.int .i64 1, .int .i32 val, .string nm, .int .i64 ln, .int .i64 cl]] w fun e w' => e = .returned (.tuple #[.int .i64 1, .int .i64 0]) ∧ Below w.heap.size w w' := by
  have hb1 : Below w.heap.size w (w.alloc (.cells #[.int .i64 1, .int .i32 val, .string nm, .int .i64 ln, .int .i64 cl] 107)) := bel1 _
  have kR := rul1 (w.alloc (.cells #[.int .i64 1, .int .i32 val, .string nm, .int .i64 ln, .int .i64 cl] 107))
  have fl := fun X => fld137 0 0 1 X
  go_enter Tryd.func51, Tryd.ntmps51
  go_wp2_with fail
  go_at_call 69
  refine Calls.mono kR ?_
  rintro e w2 ⟨rfl, h2⟩
  have hb2 := bel_after hb1 hb1.size h2
  go_wp2_with fail
  exact bodyPost_ret (v := .tuple #[.int .i64 1, .int .i64 0]) (by simp [results, Tryd.results51, go_sem]) rfl ⟨rfl, hb2⟩
set_option maxRecDepth 100000 in
set_option maxHeartbeats 8000000 in
theorem plain2 (val : Int) (nm : ByteArray) (ln cl : Int) (w : World) : Calls Tryd.prog 51 #[.agg #[.int .i64 2, .int .i32 val, .string nm, .int .i64 ln, .int .i64 cl]] w fun e w' => e = .returned (.tuple #[.int .i64 2, .int .i64 0]) ∧ Below w.heap.size w w' := by
  have hb1 : Below w.heap.size w (w.alloc (.cells #[.int .i64 2, .int .i32 val, .string nm, .int .i64 ln, .int .i64 cl] 107)) := bel1 _
  have kR := rul2 (w.alloc (.cells #[.int .i64 2, .int .i32 val, .string nm, .int .i64 ln, .int .i64 cl] 107))
  have fl := fun X => fld137 0 0 2 X
  go_enter Tryd.func51, Tryd.ntmps51
  go_wp2_with fail
  go_at_call 69
  refine Calls.mono kR ?_
  rintro e w2 ⟨rfl, h2⟩
  have hb2 := bel_after hb1 hb1.size h2
  go_wp2_with fail
  exact bodyPost_ret (v := .tuple #[.int .i64 2, .int .i64 0]) (by simp [results, Tryd.results51, go_sem]) rfl ⟨rfl, hb2⟩
set_option maxRecDepth 100000 in
set_option maxHeartbeats 8000000 in
theorem plain3 (val : Int) (nm : ByteArray) (ln cl : Int) (w : World) : Calls Tryd.prog 51 #[.agg #[.int .i64 3, .int .i32 val, .string nm, .int .i64 ln, .int .i64 cl]] w fun e w' => e = .returned (.tuple #[.int .i64 0, .int .i64 0]) ∧ Below w.heap.size w w' := by
  have hb1 : Below w.heap.size w (w.alloc (.cells #[.int .i64 3, .int .i32 val, .string nm, .int .i64 ln, .int .i64 cl] 107)) := bel1 _
  have kR := rul3 (w.alloc (.cells #[.int .i64 3, .int .i32 val, .string nm, .int .i64 ln, .int .i64 cl] 107))
  have fl := fun X => fld137 0 0 0 X
  go_enter Tryd.func51, Tryd.ntmps51
  go_wp2_with fail
  go_at_call 69
  refine Calls.mono kR ?_
  rintro e w2 ⟨rfl, h2⟩
  have hb2 := bel_after hb1 hb1.size h2
  go_wp2_with fail
  exact bodyPost_ret (v := .tuple #[.int .i64 0, .int .i64 0]) (by simp [results, Tryd.results51, go_sem]) rfl ⟨rfl, hb2⟩
set_option maxRecDepth 100000 in
set_option maxHeartbeats 8000000 in
theorem plain4 (val : Int) (nm : ByteArray) (ln cl : Int) (w : World) : Calls Tryd.prog 51 #[.agg #[.int .i64 4, .int .i32 val, .string nm, .int .i64 ln, .int .i64 cl]] w fun e w' => e = .returned (.tuple #[.int .i64 1, .int .i64 0]) ∧ Below w.heap.size w w' := by
  have hb1 : Below w.heap.size w (w.alloc (.cells #[.int .i64 4, .int .i32 val, .string nm, .int .i64 ln, .int .i64 cl] 107)) := bel1 _
  have kR := rul4 (w.alloc (.cells #[.int .i64 4, .int .i32 val, .string nm, .int .i64 ln, .int .i64 cl] 107))
  have fl := fun X => fld137 0 0 1 X
  go_enter Tryd.func51, Tryd.ntmps51
  go_wp2_with fail
  go_at_call 69
  refine Calls.mono kR ?_
  rintro e w2 ⟨rfl, h2⟩
  have hb2 := bel_after hb1 hb1.size h2
  go_wp2_with fail
  exact bodyPost_ret (v := .tuple #[.int .i64 1, .int .i64 0]) (by simp [results, Tryd.results51, go_sem]) rfl ⟨rfl, hb2⟩
set_option maxRecDepth 100000 in
set_option maxHeartbeats 8000000 in
theorem plain5 (val : Int) (nm : ByteArray) (ln cl : Int) (w : World) : Calls Tryd.prog 51 #[.agg #[.int .i64 5, .int .i32 val, .string nm, .int .i64 ln, .int .i64 cl]] w fun e w' => e = .returned (.tuple #[.int .i64 2, .int .i64 0]) ∧ Below w.heap.size w w' := by
  have hb1 : Below w.heap.size w (w.alloc (.cells #[.int .i64 5, .int .i32 val, .string nm, .int .i64 ln, .int .i64 cl] 107)) := bel1 _
  have kR := rul5 (w.alloc (.cells #[.int .i64 5, .int .i32 val, .string nm, .int .i64 ln, .int .i64 cl] 107))
  have fl := fun X => fld137 0 0 2 X
  go_enter Tryd.func51, Tryd.ntmps51
  go_wp2_with fail
  go_at_call 69
  refine Calls.mono kR ?_
  rintro e w2 ⟨rfl, h2⟩
  have hb2 := bel_after hb1 hb1.size h2
  go_wp2_with fail
  exact bodyPost_ret (v := .tuple #[.int .i64 2, .int .i64 0]) (by simp [results, Tryd.results51, go_sem]) rfl ⟨rfl, hb2⟩
set_option maxRecDepth 100000 in
set_option maxHeartbeats 8000000 in
theorem plain6 (val : Int) (nm : ByteArray) (ln cl : Int) (w : World) : Calls Tryd.prog 51 #[.agg #[.int .i64 6, .int .i32 val, .string nm, .int .i64 ln, .int .i64 cl]] w fun e w' => e = .returned (.tuple #[.int .i64 2, .int .i64 0]) ∧ Below w.heap.size w w' := by
  have hb1 : Below w.heap.size w (w.alloc (.cells #[.int .i64 6, .int .i32 val, .string nm, .int .i64 ln, .int .i64 cl] 107)) := bel1 _
  have kR := rul6 (w.alloc (.cells #[.int .i64 6, .int .i32 val, .string nm, .int .i64 ln, .int .i64 cl] 107))
  have fl := fun X => fld137 0 0 2 X
  go_enter Tryd.func51, Tryd.ntmps51
  go_wp2_with fail
  go_at_call 69
  refine Calls.mono kR ?_
  rintro e w2 ⟨rfl, h2⟩
  have hb2 := bel_after hb1 hb1.size h2
  go_wp2_with fail
  exact bodyPost_ret (v := .tuple #[.int .i64 2, .int .i64 0]) (by simp [results, Tryd.results51, go_sem]) rfl ⟨rfl, hb2⟩
set_option maxRecDepth 100000 in
set_option maxHeartbeats 8000000 in
theorem plain7 (val : Int) (nm : ByteArray) (ln cl : Int) (w : World) : Calls Tryd.prog 51 #[.agg #[.int .i64 7, .int .i32 val, .string nm, .int .i64 ln, .int .i64 cl]] w fun e w' => e = .returned (.tuple #[.int .i64 1, .int .i64 0]) ∧ Below w.heap.size w w' := by
  have hb1 : Below w.heap.size w (w.alloc (.cells #[.int .i64 7, .int .i32 val, .string nm, .int .i64 ln, .int .i64 cl] 107)) := bel1 _
  have kR := rul7 (w.alloc (.cells #[.int .i64 7, .int .i32 val, .string nm, .int .i64 ln, .int .i64 cl] 107))
  have fl := fun X => fld137 0 0 1 X
  go_enter Tryd.func51, Tryd.ntmps51
  go_wp2_with fail
  go_at_call 69
  refine Calls.mono kR ?_
  rintro e w2 ⟨rfl, h2⟩
  have hb2 := bel_after hb1 hb1.size h2
  go_wp2_with fail
  exact bodyPost_ret (v := .tuple #[.int .i64 1, .int .i64 0]) (by simp [results, Tryd.results51, go_sem]) rfl ⟨rfl, hb2⟩
set_option maxRecDepth 100000 in
set_option maxHeartbeats 8000000 in
theorem plain8 (val : Int) (nm : ByteArray) (ln cl : Int) (w : World) : Calls Tryd.prog 51 #[.agg #[.int .i64 8, .int .i32 val, .string nm, .int .i64 ln, .int .i64 cl]] w fun e w' => e = .returned (.tuple #[.int .i64 1, .int .i64 0]) ∧ Below w.heap.size w w' := by
  have hb1 : Below w.heap.size w (w.alloc (.cells #[.int .i64 8, .int .i32 val, .string nm, .int .i64 ln, .int .i64 cl] 107)) := bel1 _
  have kR := rul8 (w.alloc (.cells #[.int .i64 8, .int .i32 val, .string nm, .int .i64 ln, .int .i64 cl] 107))
  have fl := fun X => fld137 0 0 1 X
  go_enter Tryd.func51, Tryd.ntmps51
  go_wp2_with fail
  go_at_call 69
  refine Calls.mono kR ?_
  rintro e w2 ⟨rfl, h2⟩
  have hb2 := bel_after hb1 hb1.size h2
  go_wp2_with fail
  exact bodyPost_ret (v := .tuple #[.int .i64 1, .int .i64 0]) (by simp [results, Tryd.results51, go_sem]) rfl ⟨rfl, hb2⟩
set_option maxRecDepth 100000 in
set_option maxHeartbeats 8000000 in
theorem plain9 (val : Int) (nm : ByteArray) (ln cl : Int) (w : World) : Calls Tryd.prog 51 #[.agg #[.int .i64 9, .int .i32 val, .string nm, .int .i64 ln, .int .i64 cl]] w fun e w' => e = .returned (.tuple #[.int .i64 1, .int .i64 0]) ∧ Below w.heap.size w w' := by
  have hb1 : Below w.heap.size w (w.alloc (.cells #[.int .i64 9, .int .i32 val, .string nm, .int .i64 ln, .int .i64 cl] 107)) := bel1 _
  have kR := rul9 (w.alloc (.cells #[.int .i64 9, .int .i32 val, .string nm, .int .i64 ln, .int .i64 cl] 107))
  have fl := fun X => fld137 0 0 1 X
  go_enter Tryd.func51, Tryd.ntmps51
  go_wp2_with fail
  go_at_call 69
  refine Calls.mono kR ?_
  rintro e w2 ⟨rfl, h2⟩
  have hb2 := bel_after hb1 hb1.size h2
  go_wp2_with fail
  exact bodyPost_ret (v := .tuple #[.int .i64 1, .int .i64 0]) (by simp [results, Tryd.results51, go_sem]) rfl ⟨rfl, hb2⟩
set_option maxRecDepth 100000 in
set_option maxHeartbeats 8000000 in
theorem plain10 (val : Int) (nm : ByteArray) (ln cl : Int) (w : World) : Calls Tryd.prog 51 #[.agg #[.int .i64 10, .int .i32 val, .string nm, .int .i64 ln, .int .i64 cl]] w fun e w' => e = .returned (.tuple #[.int .i64 2, .int .i64 0]) ∧ Below w.heap.size w w' := by
  have hb1 : Below w.heap.size w (w.alloc (.cells #[.int .i64 10, .int .i32 val, .string nm, .int .i64 ln, .int .i64 cl] 107)) := bel1 _
  have kR := rul10 (w.alloc (.cells #[.int .i64 10, .int .i32 val, .string nm, .int .i64 ln, .int .i64 cl] 107))
  have fl := fun X => fld137 0 0 2 X
  go_enter Tryd.func51, Tryd.ntmps51
  go_wp2_with fail
  go_at_call 69
  refine Calls.mono kR ?_
  rintro e w2 ⟨rfl, h2⟩
  have hb2 := bel_after hb1 hb1.size h2
  go_wp2_with fail
  exact bodyPost_ret (v := .tuple #[.int .i64 2, .int .i64 0]) (by simp [results, Tryd.results51, go_sem]) rfl ⟨rfl, hb2⟩
theorem plain_any (x : Nd) (w : World) (ho : lfO x.op) : Calls Tryd.prog 51 #[.agg #[.int .i64 x.op, .int .i32 x.val, .string x.name, .int .i64 x.line, .int .i64 x.col]] w fun e w' => e = .returned (.tuple #[.int .i64 (lfT x.op), .int .i64 0]) ∧ Below w.heap.size w w' := by
  obtain ⟨op, val, nm, ln, cl⟩ := x
  unfold lfO at ho
  simp only at ho ⊢
  rcases ho with rfl | rfl | rfl | rfl | rfl | rfl | rfl | rfl | rfl | rfl
  · exact plain1 val nm ln cl w
  · exact plain2 val nm ln cl w
  · exact plain3 val nm ln cl w
  · exact plain4 val nm ln cl w
  · exact plain5 val nm ln cl w
  · exact plain6 val nm ln cl w
  · exact plain7 val nm ln cl w
  · exact plain8 val nm ln cl w
  · exact plain9 val nm ln cl w
  · exact plain10 val nm ln cl w
/-- The type that a rule tells. -/
def ruJ (op : Int) : Int := if op < 20 then lfT op else ruI op
def ruW (op : Int) : Value := .agg #[.int .i64 (ruO op), .int .i64 (ruT op), .int .i64 (ruJ op)]
theorem ruleA (op : Int) (w : World) (h : lfO op ∨ opB op) : Calls Tryd.prog 69 #[.int .i64 op] w fun e w' => e = .returned (ruW op) ∧ Below w.heap.size w w' := by
  rcases h with h | h
  · unfold lfO at h
    rcases h with rfl | rfl | rfl | rfl | rfl | rfl | rfl | rfl | rfl | rfl
    · exact rul1 w
    · exact rul2 w
    · exact rul3 w
    · exact rul4 w
    · exact rul5 w
    · exact rul6 w
    · exact rul7 w
    · exact rul8 w
    · exact rul9 w
    · exact rul10 w
  · have := rule_any op w (.inr h)
    unfold ruV at this
    unfold ruW ruJ
    rw [if_neg (by unfold opB at h; omega)]
    exact this
end Go.Proofs.YtnicolaphmffkaaDoor
