import Derived.Test.YtjohnhaahpggkaaDoorPcsJ
namespace Go.Proofs.YtjohnhaahpggkaaDoor
open Go.RowKit
set_option linter.unusedVariables false
set_option linter.unusedSimpArgs false

theorem conv_str (w : World) (s : ByteArray) : (convert 9 65 (.string s)).run Tryd.prog w = .ok (.slice (some ⟨w.heap.size, 0, none⟩) s.size (grownCap w s.size 0 5)) (w.drew.alloc (.cells (bytesRow s (grownCap w s.size 0 5)) 5 ((bytesRow s (grownCap w s.size 0 5)).size, (bytesRow s (grownCap w s.size 0 5)).size + 1))) :=
  run_bytes_of_string w 9 65 5 s und9 und65 und5
theorem row_size (w : World) (s : ByteArray) : s.size ≤ (bytesRow s (grownCap w s.size 0 5)).size := by
  unfold bytesRow
  rw [Array.size_append, Array.size_map]
  exact Nat.le_add_right s.data.size _
theorem cat_rem (m : List UInt8) : (⟨#[35]⟩ : ByteArray) ++ bs m ++ ⟨#[10]⟩ = bs (35 :: (m ++ [10])) := by
  rw [show (⟨#[35]⟩ : ByteArray) = bs [35] from rfl, show (⟨#[10]⟩ : ByteArray) = bs [10] from rfl, bs_app, bs_app]; rfl
attribute [local go_sem] conv_str

set_option maxRecDepth 100000 in
set_option maxHeartbeats 4000000 in
theorem token_rem (wh N : Int) (tx : ByteArray) (w : World) (hw1 : -9223372036854775808 ≤ wh) (hw2 : wh < 9223372036854775808) (hn1 : -9223372036854775808 ≤ N) (hn2 : N < 9223372036854775808) (htx : tx.size ≤ 4611686018427387904) (h0 : wh % 8 = 7) :
    Calls Tryd.prog 31 #[.agg #[.int .i64 wh, .int .i64 N, .string tx]] w fun e w' => (∃ tk l is, e = .returned (.tuple #[tokV tk 0 0, .string (bs l), .bool is]) ∧ Pce tk l is) ∧ Below w.heap.size w w' := by
  have B0 := fun W => below_any wh 8 W (by omega) (by omega) hw1 hw2
  rw [h0] at B0
  have hBb : Below w.heap.size w ((w.alloc (.cells #[.int .i64 wh, .int .i64 N, .string tx] 69)).alloc (.cells #[.int .i64 0, .int .i32 0, .string ⟨#[]⟩, .int .i64 0, .int .i64 0] 36)) := ((Below.refl _ _).alloc (Nat.le_refl _) _).alloc (by simp) _
  have hP0 : Has ((w.alloc (.cells #[.int .i64 wh, .int .i64 N, .string tx] 69)).alloc (.cells #[.int .i64 0, .int .i32 0, .string ⟨#[]⟩, .int .i64 0, .int .i64 0] 36)) w.heap.size #[.int .i64 wh, .int .i64 N, .string tx] := (Has.new _ _ _ rfl).alloc _
  have hQ0 : Has ((w.alloc (.cells #[.int .i64 wh, .int .i64 N, .string tx] 69)).alloc (.cells #[.int .i64 0, .int .i32 0, .string ⟨#[]⟩, .int .i64 0, .int .i64 0] 36)) (w.heap.size + 1) #[.int .i64 0, .int .i32 0, .string ⟨#[]⟩, .int .i64 0, .int .i64 0] := Has.new _ _ _ (by simp)
  have hUs : ((w.alloc (.cells #[.int .i64 wh, .int .i64 N, .string tx] 69)).alloc (.cells #[.int .i64 0, .int .i32 0, .string ⟨#[]⟩, .int .i64 0, .int .i64 0] 36)).heap.size = w.heap.size + 2 := by simp
  clear h0 hw1 hw2 hn1 hn2
  go_enter Tryd.func31, Tryd.ntmps31
  go_wp2_with (go_at_call 34; (with_reducible refine (B0 _).mono ?_); rintro e w9 ⟨rfl, hw9⟩; have hw9' := hw9.symm; subst hw9')
  have hrs := row_size ((w.alloc (.cells #[.int .i64 wh, .int .i64 N, .string tx] 69)).alloc (.cells #[.int .i64 0, .int .i32 0, .string ⟨#[]⟩, .int .i64 0, .int .i64 0] 36)) tx
  generalize grownCap ((w.alloc (.cells #[.int .i64 wh, .int .i64 N, .string tx] 69)).alloc (.cells #[.int .i64 0, .int .i32 0, .string ⟨#[]⟩, .int .i64 0, .int .i64 0] 36)) tx.size 0 5 = cap at hrs ⊢
  generalize hfr : (bytesRow tx cap).size = fr at hrs ⊢
  have hY := byt_new ((w.alloc (.cells #[.int .i64 wh, .int .i64 N, .string tx] 69)).alloc (.cells #[.int .i64 0, .int .i32 0, .string ⟨#[]⟩, .int .i64 0, .int .i64 0] 36)) tx cap fr hrs
  have hBb2 := hBb.alloc (by rw [hUs]; omega) (.cells (bytesRow tx cap) 5 (fr, fr + 1))
  have hQ2 := hQ0.alloc (.cells (bytesRow tx cap) 5 (fr, fr + 1))
  rw [hUs] at hY
  generalize ((w.alloc (.cells #[.int .i64 wh, .int .i64 N, .string tx] 69)).alloc (.cells #[.int .i64 0, .int .i32 0, .string ⟨#[]⟩, .int .i64 0, .int .i64 0] 36)).alloc (.cells (bytesRow tx cap) 5 (fr, fr + 1)) = U at hY hBb2 hQ2 ⊢
  clear hBb hP0 hQ0 hUs hfr hrs B0
  go_loopw [12] (fun ti wr => ∃ (k : Nat) (m : List UInt8), ti = .int .i64 (k : Int) ∧ k ≤ m.length ∧ m.length = tx.size ∧ Byt wr (w.heap.size + 2) m ∧ Hid (∀ j (h : j < m.length), j < k → ¬ m[j] = 10) ∧ Has wr (w.heap.size + 1) #[.int .i64 0, .int .i32 0, .string ⟨#[]⟩, .int .i64 0, .int .i64 0] ∧ Below w.heap.size w wr) (fun ti _ => tx.size - (intOf ti).toNat)
  case atStart => exact ⟨0, tx.data.toList, rfl, by omega, rfl, hY.drew, fun j h1 h2 => by omega, hQ2.drew, hBb2.drew⟩
  case round =>
    obtain ⟨k, m, rfl, hk, hm, hB, hA, hQ, hb⟩ := hrel
    by_cases hlt : k < tx.size
    · have hk' : k < m.length := by omega
      have hc := hB.cell k hk'
      have hf := hB.fz k hk'
      have k0 : (0 : Int) ≤ (k : Int) := by omega
      have k1 : (k : Int) < (tx.size : Int) := by omega
      by_cases h10 : m[k] = 10
      · have hx : (m[k].toNat : Int) = 10 := by rw [h10]; rfl
        rw [hx] at hc
        go_wp2
        go_roundw
        case rel =>
          refine ⟨k + 1, m.set k 35, by go_num, by simp; omega, by simp; omega, hB.set k hk' 35 35 rfl, fun j h1 h2 => ?_, hQ.far (by omega) _, hb.setCell (by show w.heap.size ≤ w.heap.size + 2; omega) _⟩
          have h1' : j < m.length := by simpa using h1
          by_cases e : j = k
          · subst e; rw [List.getElem_set_self]; decide
          · rw [List.getElem_set_ne (by omega)]; exact hA j h1' (by omega)
        case measure => simp [intOf]; omega
      · have hx : ¬ (m[k].toNat : Int) = 10 := fun h => h10 ((ten_iff _).1 h)
        generalize hu : (m[k].toNat : Int) = u at hc hx
        go_wp2
        go_roundw
        case rel =>
          refine ⟨k + 1, m, by go_num, by omega, hm, hB, fun j h1 h2 => ?_, hQ, hb⟩
          by_cases e : j = k
          · subst e; exact h10
          · exact hA j h1 (by omega)
        case measure => simp [intOf]; omega
    · have k1 : ¬ (k : Int) < (tx.size : Int) := by omega
      have hP : Pce ⟨0, 0, []⟩ (35 :: m ++ [10]) false := ⟨by simp, fun h => (by cases h), fun _ => skp_comment (fun c hc => by
        obtain ⟨j, hj, rfl⟩ := List.getElem_of_mem hc
        exact hA j hj (by omega)), by simp; omega⟩
      have hF := (hQ.set5 (.int .i64 0) (.int .i32 0) (.string ⟨#[]⟩) (.int .i64 0) (.int .i64 0)).drew
      have hBF := (((((hb.setCell (p := ⟨w.heap.size + 1, 0, none⟩) (by simp) (.int .i64 0)).setCell (p := ⟨w.heap.size + 1, 1, none⟩) (by simp) (.int .i32 0)).setCell (p := ⟨w.heap.size + 1, 2, none⟩) (by simp) (.string ⟨#[]⟩)).setCell (p := ⟨w.heap.size + 1, 3, none⟩) (by simp) (.int .i64 0)).setCell (p := ⟨w.heap.size + 1, 4, none⟩) (by simp) (.int .i64 0)).drew
      have hcv0 := hB.drew.conv (n := tx.size) (cap := cap) hm.symm
      have hcv1 := (((((hB.far (c := w.heap.size + 1) (i := 0) (by omega) (.int .i64 0)).far (c := w.heap.size + 1) (i := 1) (by omega) (.int .i32 0)).far (c := w.heap.size + 1) (i := 2) (by omega) (.string ⟨#[]⟩)).far (c := w.heap.size + 1) (i := 3) (by omega) (.int .i64 0)).far (c := w.heap.size + 1) (i := 4) (by omega) (.int .i64 0)).drew.conv (n := tx.size) (cap := cap) hm.symm
      have hsm := bs_sz m
      have hn1 : ¬ 9223372036854775807 < 1 + tx.size := by omega
      have hn2 : ¬ 9223372036854775807 < 1 + tx.size + 1 := by omega
      obtain ⟨qp1, QQ1, qq1⟩ := id hQ
      obtain ⟨x0, X1, x2⟩ := hF
      go_wp2
      go_region_with (fail)
      all_goals
        go_wp2
        exact bodyPost_ret (v := .tuple #[.agg #[.int .i64 0, .int .i32 0, .string ⟨#[]⟩, .int .i64 0, .int .i64 0], .string (bs (35 :: m ++ [10])), .bool false]) (by simp [results, Tryd.results31, go_sem, X1, cat_rem]) rfl ⟨⟨⟨0, 0, []⟩, _, false, rfl, hP⟩, hBF⟩
end Go.Proofs.YtjohnhaahpggkaaDoor
