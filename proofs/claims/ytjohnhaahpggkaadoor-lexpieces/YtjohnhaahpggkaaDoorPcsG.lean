import Derived.Test.YtjohnhaahpggkaaDoorPcsF
import Derived.Deep.RegionHeld3
namespace Go.Proofs.YtjohnhaahpggkaaDoor
open Go.RowKit
set_option linter.unusedVariables false
set_option linter.unusedSimpArgs false

set_option maxRecDepth 100000 in
set_option maxHeartbeats 40000000 in
theorem token_kw (wh N : Int) (tx : ByteArray) (w : World) (hw1 : -9223372036854775808 ≤ wh) (hw2 : wh < 9223372036854775808) (hn1 : -9223372036854775808 ≤ N) (hn2 : N < 9223372036854775808) (hT : Kw w) (h0 : wh % 8 = 4) :
    Calls Tryd.prog 31 #[.agg #[.int .i64 wh, .int .i64 N, .string tx]] w fun e w' => (∃ tk l is, e = .returned (.tuple #[tokV tk 0 0, .string (bs l), .bool is]) ∧ Pce tk l is) ∧ Below w.heap.size w w' := by
  have B0 := fun W => below_any wh 8 W (by omega) (by omega) hw1 hw2
  have B1 := fun W => below_any N 41 W (by omega) (by omega) hn1 hn2
  rw [h0] at B0
  obtain ⟨n, en, hn⟩ := emod_nat N 41 (by omega)
  rw [en] at B1
  have hBb : Below w.heap.size w ((w.alloc (.cells #[.int .i64 wh, .int .i64 N, .string tx] 69)).alloc (.cells #[.int .i64 0, .int .i32 0, .string ⟨#[]⟩, .int .i64 0, .int .i64 0] 36)) := ((Below.refl _ _).alloc (Nat.le_refl _) _).alloc (by simp) _
  have hP0 : Has ((w.alloc (.cells #[.int .i64 wh, .int .i64 N, .string tx] 69)).alloc (.cells #[.int .i64 0, .int .i32 0, .string ⟨#[]⟩, .int .i64 0, .int .i64 0] 36)) w.heap.size #[.int .i64 wh, .int .i64 N, .string tx] := (Has.new _ _ _ rfl).alloc _
  have hQ0 : Has ((w.alloc (.cells #[.int .i64 wh, .int .i64 N, .string tx] 69)).alloc (.cells #[.int .i64 0, .int .i32 0, .string ⟨#[]⟩, .int .i64 0, .int .i64 0] 36)) (w.heap.size + 1) #[.int .i64 0, .int .i32 0, .string ⟨#[]⟩, .int .i64 0, .int .i64 0] := Has.new _ _ _ (by simp)
  have hT2 := hT.below hBb hT.1
  have hc := hT2.2 n (by omega)
  obtain ⟨f1, f2⟩ := kw_at n (by omega)
  have k0 : (0 : Int) ≤ (n : Int) := by omega
  have k1 : (n : Int) < 41 := by omega
  have kN : n < 41 := by omega
  have hwr : IntKind.i64.wrap (n : Int) = n := by rw [IntKind.wrap_i64]; omega
  have e1 : (10 : Int) + (n : Int) - 10 = (n : Int) := by omega
  have hne1 : ¬ w.heap.size = 2 := by have := hT.1; omega
  have hne2 : ¬ 3 = w.heap.size + 1 := by have := hT.1; omega
  have hne3 : ¬ w.heap.size + 1 = 3 := by have := hT.1; omega
  clear h0 en hn hw1 hw2 hn1 hn2 hT hT2
  generalize kwL.getD n [] = l at *
  go_enter Tryd.func31, Tryd.ntmps31
  go_wp2_with (first
    | (go_at_call 34; (with_reducible refine (B0 _).mono ?_); rintro e w9 ⟨rfl, hw9⟩; have hw9' := hw9.symm; subst hw9')
    | (go_at_call 34; (with_reducible refine (B1 _).mono ?_); rintro e w9 ⟨rfl, hw9⟩; have hw9' := hw9.symm; subst hw9'))
  generalize ((w.alloc (.cells #[.int .i64 wh, .int .i64 N, .string tx] 69)).alloc (.cells #[.int .i64 0, .int .i32 0, .string ⟨#[]⟩, .int .i64 0, .int .i64 0] 36)) = U at hBb hP0 hQ0 hc ⊢
  obtain ⟨qp1, QQ1, qq1⟩ := id hQ0
  have f3 : Whl ⟨10 + (n : Int), 0, []⟩ l := by
    have := kw_whl f1
    rw [f2] at this
    exact this
  have hll : l.length ≤ 4611686018427387906 := by have := (kw_facts l f1).2.2.2; omega
  have hPce : Pce ⟨10 + (n : Int), 0, []⟩ l true := ⟨f3.1, fun _ => ⟨f3, kw_hd f1, by unfold Ends; simp; omega⟩, fun h => (by cases h), hll⟩
  have hF := (hQ0.set5 (.int .i64 (10 + (n : Int))) (.int .i32 0) (.string ⟨#[]⟩) (.int .i64 0) (.int .i64 0)).drew
  have hBF := (((((hBb.setCell (p := ⟨w.heap.size + 1, 0, none⟩) (by simp) (.int .i64 (10 + (n : Int)))).setCell (p := ⟨w.heap.size + 1, 1, none⟩) (by simp) (.int .i32 0)).setCell (p := ⟨w.heap.size + 1, 2, none⟩) (by simp) (.string ⟨#[]⟩)).setCell (p := ⟨w.heap.size + 1, 3, none⟩) (by simp) (.int .i64 0)).setCell (p := ⟨w.heap.size + 1, 4, none⟩) (by simp) (.int .i64 0)).drew
  obtain ⟨x0, X1, x2⟩ := hF
  clear f1 f2 hll f3
  go_region_held3 (fun w' => w'.cell? ⟨3, n, none⟩ = some (.string (bs l))) (first | go_keep | (simp [World.cell?_setCell_far, *])) (fail)
  all_goals
    go_wp2
    exact bodyPost_ret (v := .tuple #[.agg #[.int .i64 (10 + (n : Int)), .int .i32 0, .string ⟨#[]⟩, .int .i64 0, .int .i64 0], .string (bs l), .bool true]) (by simp [results, Tryd.results31, go_sem, X1]) rfl ⟨⟨⟨10 + (n : Int), 0, []⟩, l, true, rfl, hPce⟩, hBF⟩
end Go.Proofs.YtjohnhaahpggkaaDoor
