import Derived.Test.YtkeoebllblbkgaaGreatDoorTbB
import Derived.Test.YtkeoebllblbkgaaGreatDoorTbE
namespace Go.Proofs.YtkeoebllblbkgaaGreatDoor
open Go.RowKit
set_option linter.unusedVariables false
set_option linter.unusedSimpArgs false

set_option maxRecDepth 100000 in
set_option maxHeartbeats 4000000 in
theorem week_any (x0 x1 x2 x3 x4 x5 x6 : Int) (n : Nat) (w : World) : Calls Tryz.prog 76 #[.agg #[.int .i64 x0, .int .i64 x1, .int .i64 x2, .int .i64 x3, .int .i64 x4, .int .i64 x5, .int .i64 x6], .int .i64 (n : Int)] w fun e w' => e = .returned (.bool ([x0, x1, x2, x3, x4, x5, x6].all (kdB n))) ∧ Below w.heap.size w w' := by
  obtain ⟨L, hL⟩ : ∃ L : List Int, L = [x0, x1, x2, x3, x4, x5, x6] := ⟨_, rfl⟩
  have hlen : L.length = 7 := by rw [hL]; rfl
  have hcell : Hid (∀ (i : Nat) (h : i < L.length), (w.alloc (.cells #[.int .i64 x0, .int .i64 x1, .int .i64 x2, .int .i64 x3, .int .i64 x4, .int .i64 x5, .int .i64 x6] 23)).cell? ⟨w.heap.size, i, none⟩ = some (.int .i64 L[i])) := by
    intro i hi
    rw [(Has.new w _ 23 rfl).2.1]
    subst hL
    have hi' : i < 7 := hi
    rcases (show i = 0 ∨ i = 1 ∨ i = 2 ∨ i = 3 ∨ i = 4 ∨ i = 5 ∨ i = 6 by omega) with rfl | rfl | rfl | rfl | rfl | rfl | rfl <;> rfl
  rw [← hL]
  have hlen' : Hid (L.length = 7) := hlen
  clear hL hlen
  go_enter Tryz.func76, Tryz.ntmps76
  go_wp2
  have HB : Below w.heap.size w (w.alloc (.cells #[.int .i64 x0, .int .i64 x1, .int .i64 x2, .int .i64 x3, .int .i64 x4, .int .i64 x5, .int .i64 x6] 23)) := bel1
  generalize (w.alloc (.cells #[.int .i64 x0, .int .i64 x1, .int .i64 x2, .int .i64 x3, .int .i64 x4, .int .i64 x5, .int .i64 x6] 23)) = Y at *
  go_loopg [5] 7 (fun gk s5 wr => ∃ k : Nat, k + gk = 7 ∧ s5 = .int .i64 (k : Int) ∧ Hid ((L.drop k).all (kdB n) = L.all (kdB n)) ∧ Y = wr)
  case atStart => exact ⟨0, by omega, rfl, rfl, rfl⟩
  case round =>
    obtain ⟨k, hk, rfl, hA, rfl⟩ := hrel
    by_cases hlt : k < 7
    · have hlt2 : k < L.length := by rw [hlen'.out]; exact hlt
      have hE : Hid (L.all (kdB n) = (kdB n L[k] && (L.drop (k + 1)).all (kdB n))) := by show _ = _; rw [← hA.out, all_drop _ _ k hlt2]
      have c := hcell.out k hlt2
      have t1 : (k : Int) < 7 := by omega
      have t0 : (0 : Int) ≤ (k : Int) := by omega
      clear hA
      generalize L[k] = x at *
      by_cases h0 : 0 ≤ x
      · by_cases h1 : x < (n : Int)
        · have hE2 : Hid ((L.drop (k + 1)).all (kdB n) = L.all (kdB n)) := by show _ = _; rw [hE.out]; simp [kdB, h0, h1]
          go_wp2
          go_roundg (gk - 1)
          case measure => go_light; omega
          case rel => exact ⟨k + 1, by omega, by go_num, hE2, rfl⟩
        · have h1' : (n : Int) ≤ x := by omega
          have hE2 : Hid (L.all (kdB n) = false) := by show _ = _; rw [hE.out]; simp [kdB, h1]
          clear h1
          go_wp2
          go_ret
          exact ⟨ret_bool hE2.out.symm, HB⟩
      · have h0' : x < 0 := by omega
        have hE2 : Hid (L.all (kdB n) = false) := by show _ = _; rw [hE.out]; simp [kdB, h0]
        clear h0
        go_wp2
        go_ret
        exact ⟨ret_bool hE2.out.symm, HB⟩
    · obtain rfl : k = 7 := by omega
      have hT : Hid (L.all (kdB n) = true) := by show _ = _; rw [← hA.out, List.drop_eq_nil_of_le (by rw [hlen'.out]; exact Nat.le_refl _)]; rfl
      go_wp2
      go_ret
      exact ⟨ret_bool hT.out.symm, HB⟩
end Go.Proofs.YtkeoebllblbkgaaGreatDoor
