import Derived.Test.YtjohnhaahpggkaaDoorPcsF
namespace Go.Proofs.YtjohnhaahpggkaaDoor
open Go.RowKit
set_option linter.unusedVariables false
set_option linter.unusedSimpArgs false

def blanks : List UInt8 := [32, 9, 13, 10, 32, 32, 10, 10]
theorem bl_all : ∀ k : Nat, k < 8 → (blanks.take (1 + k)).all isB = true ∧ blanks.take (1 + k) ≠ [] ∧ (blanks.take (1 + k)).length ≤ 8 := by decide
theorem bl_size : (⟨#[32, 9, 13, 10, 32, 32, 10, 10]⟩ : ByteArray).size = 8 := rfl
theorem bl_ext (k : Nat) : (⟨#[32, 9, 13, 10, 32, 32, 10, 10]⟩ : ByteArray).extract 0 (1 + k) = bs (blanks.take (1 + k)) := ext_take blanks (1 + k)
theorem bl_slice (w : World) (k : Nat) (h : k < 8) : (Instr.slice 9 (.string ⟨#[32, 9, 13, 10, 32, 32, 10, 10]⟩) none (some (.int .i64 (1 + (k : Int)))) none).run Tryd.prog w = .ok (.string (bs (blanks.take (1 + k)))) w := by
  have h8 : k = 0 ∨ k = 1 ∨ k = 2 ∨ k = 3 ∨ k = 4 ∨ k = 5 ∨ k = 6 ∨ k = 7 := by omega
  rcases h8 with rfl | rfl | rfl | rfl | rfl | rfl | rfl | rfl
  all_goals rfl
attribute [local go_sem] bl_slice

set_option maxRecDepth 100000 in
set_option maxHeartbeats 4000000 in
theorem token_blank (wh N : Int) (tx : ByteArray) (w : World) (hw1 : -9223372036854775808 ≤ wh) (hw2 : wh < 9223372036854775808) (hn1 : -9223372036854775808 ≤ N) (hn2 : N < 9223372036854775808) (h0 : wh % 8 = 6) :
    Calls Tryd.prog 31 #[.agg #[.int .i64 wh, .int .i64 N, .string tx]] w fun e w' => (∃ tk l is, e = .returned (.tuple #[tokV tk 0 0, .string (bs l), .bool is]) ∧ Pce tk l is) ∧ Below w.heap.size w w' := by
  have B0 := fun W => below_any wh 8 W (by omega) (by omega) hw1 hw2
  have B1 := fun W => below_any N 8 W (by omega) (by omega) hn1 hn2
  rw [h0] at B0
  obtain ⟨n, en, hn⟩ := emod_nat N 8 (by omega)
  rw [en] at B1
  have hBb : Below w.heap.size w ((w.alloc (.cells #[.int .i64 wh, .int .i64 N, .string tx] 69)).alloc (.cells #[.int .i64 0, .int .i32 0, .string ⟨#[]⟩, .int .i64 0, .int .i64 0] 36)) := ((Below.refl _ _).alloc (Nat.le_refl _) _).alloc (by simp) _
  have hP0 : Has ((w.alloc (.cells #[.int .i64 wh, .int .i64 N, .string tx] 69)).alloc (.cells #[.int .i64 0, .int .i32 0, .string ⟨#[]⟩, .int .i64 0, .int .i64 0] 36)) w.heap.size #[.int .i64 wh, .int .i64 N, .string tx] := (Has.new _ _ _ rfl).alloc _
  have hQ0 : Has ((w.alloc (.cells #[.int .i64 wh, .int .i64 N, .string tx] 69)).alloc (.cells #[.int .i64 0, .int .i32 0, .string ⟨#[]⟩, .int .i64 0, .int .i64 0] 36)) (w.heap.size + 1) #[.int .i64 0, .int .i32 0, .string ⟨#[]⟩, .int .i64 0, .int .i64 0] := Has.new _ _ _ (by simp)
  have hn8 : n < 8 := by omega
  obtain ⟨f1, f2, f3⟩ := bl_all n hn8
  have hsz := bl_size
  have hwr : IntKind.i64.wrap (1 + (n : Int)) = 1 + (n : Int) := by rw [IntKind.wrap_i64]; omega
  clear h0 en hn hw1 hw2 hn1 hn2
  go_enter Tryd.func31, Tryd.ntmps31
  go_wp2_with (first
    | (go_at_call 34; (with_reducible refine (B0 _).mono ?_); rintro e w9 ⟨rfl, hw9⟩; have hw9' := hw9.symm; subst hw9')
    | (go_at_call 34; (with_reducible refine (B1 _).mono ?_); rintro e w9 ⟨rfl, hw9⟩; have hw9' := hw9.symm; subst hw9'))
  generalize ((w.alloc (.cells #[.int .i64 wh, .int .i64 N, .string tx] 69)).alloc (.cells #[.int .i64 0, .int .i32 0, .string ⟨#[]⟩, .int .i64 0, .int .i64 0] 36)) = U at hBb hP0 hQ0 ⊢
  obtain ⟨qp1, QQ1, qq1⟩ := id hQ0
  obtain ⟨pp1, PP1, pq1⟩ := id hP0
  rename_i K hKK
  have hP : Pce ⟨0, 0, []⟩ (blanks.take (1 + n)) false := ⟨f2, fun h => (by cases h), fun _ => skp_blank f1, by omega⟩
  have hF := (hQ0.set5 (.int .i64 0) (.int .i32 0) (.string ⟨#[]⟩) (.int .i64 0) (.int .i64 0)).drew
  have hBF := (((((hBb.setCell (p := ⟨w.heap.size + 1, 0, none⟩) (by simp) (.int .i64 0)).setCell (p := ⟨w.heap.size + 1, 1, none⟩) (by simp) (.int .i32 0)).setCell (p := ⟨w.heap.size + 1, 2, none⟩) (by simp) (.string ⟨#[]⟩)).setCell (p := ⟨w.heap.size + 1, 3, none⟩) (by simp) (.int .i64 0)).setCell (p := ⟨w.heap.size + 1, 4, none⟩) (by simp) (.int .i64 0)).drew
  obtain ⟨x0, X1, x2⟩ := hF
  go_region_with (go_at_call 34; (with_reducible refine (B1 _).mono ?_); rintro e w9 ⟨rfl, hw9⟩; have hw9' := hw9.symm; subst hw9')
  all_goals
    go_wp2
    exact bodyPost_ret (v := .tuple #[.agg #[.int .i64 0, .int .i32 0, .string ⟨#[]⟩, .int .i64 0, .int .i64 0], .string (bs (blanks.take (1 + n))), .bool false]) (by simp [results, Tryd.results31, go_sem, X1, bl_ext]) rfl ⟨⟨⟨0, 0, []⟩, _, false, rfl, hP⟩, hBF⟩
end Go.Proofs.YtjohnhaahpggkaaDoor
