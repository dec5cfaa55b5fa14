import Derived.Test.YtbonmajnkbggcabLsC
import Derived.Deep.RegionHeld3
namespace Go.Proofs.Ytbonmajnkbggcab
open Go.RowKit
set_option linter.unusedVariables false


theorem valR_put {n k : Nat} {f : Nat → Int} {v : Int} : (valR n f).set k (.int .i64 v) = valR n (fun j => if j = k then v else f j) := by
  apply List.ext_getElem
  · simp [valR]
  · intro j h1 h2
    simp only [valR, List.getElem_set, List.getElem_map, List.getElem_range]
    by_cases e : k = j
    · subst e; simp
    · rw [if_neg e, if_neg (fun h => e h.symm)]
theorem v32_put {n k : Nat} {f : Nat → Int} {v : Int} : (v32 n f).set k (.int .i32 v) = v32 n (fun j => if j = k then v else f j) := by
  apply List.ext_getElem
  · simp [v32]
  · intro j h1 h2
    simp only [v32, List.getElem_set, List.getElem_map, List.getElem_range]
    by_cases e : k = j
    · subst e; simp
    · rw [if_neg e, if_neg (fun h => e h.symm)]
theorem valR_same {n : Nat} {f g : Nat → Int} (h : ∀ j, j < n → f j = g j) : valR n f = valR n g := by
  unfold valR; apply List.map_congr_left; intro j hj; rw [h j (by simpa using hj)]
theorem v32_same {n : Nat} {f g : Nat → Int} (h : ∀ j, j < n → f j = g j) : v32 n f = v32 n g := by
  unfold v32; apply List.map_congr_left; intro j hj; rw [h j (by simpa using hj)]
theorem part_next {k : Nat} {m f : Nat → Int} : (fun j => if j = k then m k else if j < k then m j else f j) = fun j => if j < k + 1 then m j else f j := by
  funext j
  by_cases h : j = k
  · subst h; simp
  · by_cases h2 : j < k
    · rw [if_neg h, if_pos h2, if_pos (by omega)]
    · rw [if_neg h, if_neg h2, if_neg (by omega)]
theorem part_end {n : Nat} {m f : Nat → Int} : ∀ j, j < n → (if j < n then m j else f j) = m j := fun j h => if_pos h
set_option maxRecDepth 100000 in
set_option maxHeartbeats 4000000 in
theorem spoil_marks (B n : Nat) (f g h : Nat → Int) (u1 u2 u3 : Value) (mk : Int) (w : World) (T : T3 B w u1 u2 u3 n n n (valR n f) (v32 n g) (v32 n h)) (hn : n ≤ 64) (hmk : 0 ≤ mk ∧ mk ≤ 2000000000) :
    Calls Try.prog 28 #[.agg #[u1, u2, u3], .int .i64 mk] w fun e w' => e = .returned (.tuple #[]) ∧ Only (blk3 u1 u2 u3) w w' ∧ T3 B w' u1 u2 u3 n n n (valR n (fun j => mk + (j : Int))) (v32 n (fun j => -mk - (j : Int))) (v32 n (fun j => -mk - 100 - (j : Int))) := by
  obtain ⟨a1, c1, rfl⟩ := own_form T.o1
  obtain ⟨a2, c2, rfl⟩ := own_form T.o2
  obtain ⟨a3, c3, rfl⟩ := own_form T.o3
  have lt1 := fun q hq => (own_lt T.o1 q hq).2
  have lt2 := fun q hq => (own_lt T.o2 q hq).2
  have lt3 := fun q hq => (own_lt T.o3 q hq).2
  have B0 : Has (w.alloc (.cells #[.slice a1 n c1, .slice a2 n c2, .slice a3 n c3] 29)) w.heap.size #[.slice a1 n c1, .slice a2 n c2, .slice a3 n c3] := Has.new _ _ _ rfl
  have hb0 : Below w.heap.size w (w.alloc (.cells #[.slice a1 n c1, .slice a2 n c2, .slice a3 n c3] 29)) := belN1
  have O0 : Only (blk3 (.slice a1 n c1) (.slice a2 n c2) (.slice a3 n c3)) w (w.alloc (.cells #[.slice a1 n c1, .slice a2 n c2, .slice a3 n c3] 29)) := Only.of_below hb0
  have T0 := T.below hb0
  clear hb0 T
  go_enter Try.func28, Try.ntmps28
  go_wp2
  generalize (w.alloc (.cells #[.slice a1 n c1, .slice a2 n c2, .slice a3 n c3] 29)) = W0 at *
  go_loopw [4] (fun t wr => ∃ k : Nat, k ≤ n ∧ t = .int .i64 (k : Int) ∧ Hid (T3 B wr (.slice a1 n c1) (.slice a2 n c2) (.slice a3 n c3) n n n (valR n (fun j => if j < k then mk + (j : Int) else f j)) (v32 n (g)) (v32 n (h))) ∧ Hid (Has wr w.heap.size #[.slice a1 n c1, .slice a2 n c2, .slice a3 n c3]) ∧ Hid (Only (blk3 (.slice a1 n c1) (.slice a2 n c2) (.slice a3 n c3)) w wr)) (fun t _ => n - (intOf t).toNat)
  case atStart => exact ⟨0, by omega, rfl, (by have e : (fun j : Nat => if j < 0 then mk + (j : Int) else f j) = f := (by funext j; simp); rw [e]; exact T0), B0, O0⟩
  case round =>
    clear T0 B0 O0
    obtain ⟨k, hkl, rfl, T', Bx', O'⟩ := hrel
    have T := T'.out
    have Bx := Bx'.out
    have O := O'.out
    clear T' Bx' O'
    obtain ⟨_, b1, _⟩ := id Bx
    by_cases hlt : k < n
    · obtain ⟨r, cap, ev, _, _, hr⟩ := own_block T.o1 (by omega)
      obtain ⟨rfl, rfl⟩ : a1 = some ⟨r, 0, none⟩ ∧ c1 = cap := by injection ev with q1 _ q2; exact ⟨q1, q2⟩
      have hc := T.o1
      have hx := own_cell hc hlt
      have hf := T.o1.frozenAt k
      have hrw := lt1 r rfl
      have x1 : IntKind.i64.wrap (mk + (k : Int)) = mk + (k : Int) := wrap64 _ (by omega)
      have t1 : (k : Int) < (n : Int) := by omega
      have t0 : (0 : Int) ≤ (k : Int) := by omega
      have t2 : k + 1 ≤ n := hlt
      have Os := only_of_set wr r k (.int .i64 (mk + (k : Int)))
      have oN := (T.o1.stored k (.int .i64 (mk + (k : Int)))).1
      rw [valR_put, part_next (m := fun j => mk + (j : Int)) (k := k)] at oN
      have TN : T3 B (wr.setCell ⟨r, k, none⟩ (.int .i64 (mk + (k : Int)))) (.slice (some ⟨r, 0, none⟩) n c1) (.slice a2 n c2) (.slice a3 n c3) n n n _ _ _ := ⟨oN, own_only2 T.o2 Os (fun q hq e => by subst e; exact T.d12 _ rfl hq), own_only2 T.o3 Os (fun q hq e => by subst e; exact T.d13 _ rfl hq), T.d12, T.d13, T.d23⟩
      have BN := Bx.far (c := r) (i := k) (by omega) (.int .i64 (mk + (k : Int)))
      have ON := O.set (b := r) (i := k) (.inl rfl) (.int .i64 (mk + (k : Int)))
      clear oN Os hc
      go_wp2
      go_roundw
      case rel => exact ⟨k + 1, by omega, by go_num, TN, BN, ON⟩
      case measure => simp [intOf]; omega
    · have t1 : ¬ (k : Int) < (n : Int) := by omega
      obtain rfl : n = k := by omega
      have TE : T3 B wr (.slice a1 n c1) (.slice a2 n c2) (.slice a3 n c3) n n n (valR n (fun j => mk + (j : Int))) (v32 n g) (v32 n h) := by
        have e := valR_same (part_end (n := n) (m := fun j => mk + (j : Int)) (f := f))
        rw [e] at T
        exact T
      clear T
      go_wp2
      clear t1 hlt b1 hkl
      go_loopw [5] (fun t wr => ∃ k : Nat, k ≤ n ∧ t = .int .i64 (k : Int) ∧ Hid (T3 B wr (.slice a1 n c1) (.slice a2 n c2) (.slice a3 n c3) n n n (valR n (fun j => mk + (j : Int))) (v32 n (fun j => if j < k then -mk - (j : Int) else g j)) (v32 n (h))) ∧ Hid (Has wr w.heap.size #[.slice a1 n c1, .slice a2 n c2, .slice a3 n c3]) ∧ Hid (Only (blk3 (.slice a1 n c1) (.slice a2 n c2) (.slice a3 n c3)) w wr)) (fun t _ => n - (intOf t).toNat)
      case atStart => exact ⟨0, by omega, rfl, (by have e : (fun j : Nat => if j < 0 then -mk - (j : Int) else g j) = g := (by funext j; simp); rw [e]; exact TE), Bx, O⟩
      case round =>
        clear TE Bx O
        obtain ⟨k, hkl, rfl, T', Bx', O'⟩ := hrel
        have T := T'.out
        have Bx := Bx'.out
        have O := O'.out
        clear T' Bx' O'
        obtain ⟨_, b1, _⟩ := id Bx
        by_cases hlt : k < n
        · obtain ⟨r, cap, ev, _, _, hr⟩ := own_block T.o2 (by omega)
          obtain ⟨rfl, rfl⟩ : a2 = some ⟨r, 0, none⟩ ∧ c2 = cap := by injection ev with q1 _ q2; exact ⟨q1, q2⟩
          have hc := T.o2
          have hx := (hc.cellAt k (by omega)).trans (v32_get hlt)
          have hf := T.o2.frozenAt k
          have hrw := lt2 r rfl
          have x0 : IntKind.i64.wrap (-mk) = -mk := wrap64 _ (by omega)
          have x1 : IntKind.i64.wrap (-mk - (k : Int)) = -mk - (k : Int) := wrap64 _ (by omega)
          have x2 : IntKind.i32.wrap (-mk - (k : Int)) = -mk - (k : Int) := by rw [IntKind.wrap_i32]; omega
          have t1 : (k : Int) < (n : Int) := by omega
          have t0 : (0 : Int) ≤ (k : Int) := by omega
          have t2 : k + 1 ≤ n := hlt
          have Os := only_of_set wr r k (.int .i32 (-mk - (k : Int)))
          have oN := (T.o2.stored k (.int .i32 (-mk - (k : Int)))).1
          rw [v32_put, part_next (m := fun j => -mk - (j : Int)) (k := k)] at oN
          have TN : T3 B (wr.setCell ⟨r, k, none⟩ (.int .i32 (-mk - (k : Int)))) (.slice a1 n c1) (.slice (some ⟨r, 0, none⟩) n c2) (.slice a3 n c3) n n n _ _ _ := ⟨own_only2 T.o1 Os (fun q hq e => by subst e; exact T.d12 _ hq rfl), oN, own_only2 T.o3 Os (fun q hq e => by subst e; exact T.d23 _ rfl hq), T.d12, T.d13, T.d23⟩
          have BN := Bx.far (c := r) (i := k) (by omega) (.int .i32 (-mk - (k : Int)))
          have ON := O.set (b := r) (i := k) (.inr (.inl rfl)) (.int .i32 (-mk - (k : Int)))
          clear oN Os hc
          go_wp2
          go_roundw
          case rel => exact ⟨k + 1, by omega, by go_num, TN, BN, ON⟩
          case measure => simp [intOf]; omega
        · have t1 : ¬ (k : Int) < (n : Int) := by omega
          obtain rfl : n = k := by omega
          have TE : T3 B wr (.slice a1 n c1) (.slice a2 n c2) (.slice a3 n c3) n n n (valR n (fun j => mk + (j : Int))) (v32 n (fun j => -mk - (j : Int))) (v32 n h) := by
            have e := v32_same (part_end (n := n) (m := fun j => -mk - (j : Int)) (f := g))
            rw [e] at T
            exact T
          clear T
          go_wp2
          clear t1 hlt b1 hkl
          go_loopw [6] (fun t wr => ∃ k : Nat, k ≤ n ∧ t = .int .i64 (k : Int) ∧ Hid (T3 B wr (.slice a1 n c1) (.slice a2 n c2) (.slice a3 n c3) n n n (valR n (fun j => mk + (j : Int))) (v32 n (fun j => -mk - (j : Int))) (v32 n (fun j => if j < k then -mk - 100 - (j : Int) else h j))) ∧ Hid (Has wr w.heap.size #[.slice a1 n c1, .slice a2 n c2, .slice a3 n c3]) ∧ Hid (Only (blk3 (.slice a1 n c1) (.slice a2 n c2) (.slice a3 n c3)) w wr)) (fun t _ => n - (intOf t).toNat)
          case atStart => exact ⟨0, by omega, rfl, (by have e : (fun j : Nat => if j < 0 then -mk - 100 - (j : Int) else h j) = h := (by funext j; simp); rw [e]; exact TE), Bx, O⟩
          case round =>
            clear TE Bx O
            obtain ⟨k, hkl, rfl, T', Bx', O'⟩ := hrel
            have T := T'.out
            have Bx := Bx'.out
            have O := O'.out
            clear T' Bx' O'
            obtain ⟨_, b1, _⟩ := id Bx
            by_cases hlt : k < n
            · obtain ⟨r, cap, ev, _, _, hr⟩ := own_block T.o3 (by omega)
              obtain ⟨rfl, rfl⟩ : a3 = some ⟨r, 0, none⟩ ∧ c3 = cap := by injection ev with q1 _ q2; exact ⟨q1, q2⟩
              have hc := T.o3
              have hx := (hc.cellAt k (by omega)).trans (v32_get hlt)
              have hf := T.o3.frozenAt k
              have hrw := lt3 r rfl
              have x0 : IntKind.i64.wrap (-mk) = -mk := wrap64 _ (by omega)
              have x01 : IntKind.i64.wrap (-mk - 100) = -mk - 100 := wrap64 _ (by omega)
              have x1 : IntKind.i64.wrap (-mk - 100 - (k : Int)) = -mk - 100 - (k : Int) := wrap64 _ (by omega)
              have x2 : IntKind.i32.wrap (-mk - 100 - (k : Int)) = -mk - 100 - (k : Int) := by rw [IntKind.wrap_i32]; omega
              have t1 : (k : Int) < (n : Int) := by omega
              have t0 : (0 : Int) ≤ (k : Int) := by omega
              have t2 : k + 1 ≤ n := hlt
              have Os := only_of_set wr r k (.int .i32 (-mk - 100 - (k : Int)))
              have oN := (T.o3.stored k (.int .i32 (-mk - 100 - (k : Int)))).1
              rw [v32_put, part_next (m := fun j => -mk - 100 - (j : Int)) (k := k)] at oN
              have TN : T3 B (wr.setCell ⟨r, k, none⟩ (.int .i32 (-mk - 100 - (k : Int)))) (.slice a1 n c1) (.slice a2 n c2) (.slice (some ⟨r, 0, none⟩) n c3) n n n _ _ _ := ⟨own_only2 T.o1 Os (fun q hq e => by subst e; exact T.d13 _ hq rfl), own_only2 T.o2 Os (fun q hq e => by subst e; exact T.d23 _ hq rfl), oN, T.d12, T.d13, T.d23⟩
              have BN := Bx.far (c := r) (i := k) (by omega) (.int .i32 (-mk - 100 - (k : Int)))
              have ON := O.set (b := r) (i := k) (.inr (.inr rfl)) (.int .i32 (-mk - 100 - (k : Int)))
              clear oN Os hc
              go_wp2
              go_roundw
              case rel => exact ⟨k + 1, by omega, by go_num, TN, BN, ON⟩
              case measure => simp [intOf]; omega
            · have t1 : ¬ (k : Int) < (n : Int) := by omega
              obtain rfl : n = k := by omega
              have TE : T3 B wr (.slice a1 n c1) (.slice a2 n c2) (.slice a3 n c3) n n n (valR n (fun j => mk + (j : Int))) (v32 n (fun j => -mk - (j : Int))) (v32 n (fun j => -mk - 100 - (j : Int))) := by
                have e := v32_same (part_end (n := n) (m := fun j => -mk - 100 - (j : Int)) (f := h))
                rw [e] at T
                exact T
              clear T
              go_wp2
              refine ⟨rfl, .tuple #[], ?_, rfl, O, TE⟩
              simp [results, Try.results28, go_sem]
end Go.Proofs.Ytbonmajnkbggcab
