import Derived.Test.YtbonmajnkbggcabShA
namespace Go.Proofs.Ytbonmajnkbggcab
open Go.RowKit
set_option linter.unusedVariables false

set_option maxRecDepth 100000 in
set_option maxHeartbeats 4000000 in
theorem refShow_any (A : List Int) (v1 : Value) (a2 a3 : Option Addr) (n2 c2 n3 c3 : Nat) (w : World) (h1 : Fl 1 n64 w v1 A) (lA : A.length ≤ 17592186044000) :
    Calls Try.prog 19 #[.agg #[v1, .slice a2 n2 c2, .slice a3 n3 c3]] w fun e w' => e = .returned (.string (showS A)) ∧ Below w.heap.size w w' := by
  obtain ⟨a1, c1, rfl, k1⟩ := h1.nums
  clear h1
  have B0 : Has (w.alloc (.cells #[.slice a1 A.length c1, .slice a2 n2 c2, .slice a3 n3 c3] 29)) w.heap.size #[.slice a1 A.length c1, .slice a2 n2 c2, .slice a3 n3 c3] := Has.new _ _ _ rfl
  have hb0 : Below w.heap.size w (w.alloc (.cells #[.slice a1 A.length c1, .slice a2 n2 c2, .slice a3 n3 c3] 29)) := belN1
  go_enter Try.func19, Try.ntmps19
  go_wp2
  generalize (w.alloc (.cells #[.slice a1 A.length c1, .slice a2 n2 c2, .slice a3 n3 c3] 29)) = W0 at *
  go_loopw [3, 4] (fun s t wr => ∃ k : Nat, k ≤ A.length ∧ t = .int .i64 (k : Int) ∧ s = .string (showS (A.take k)) ∧ wr = W0) (fun _ t _ => A.length - (intOf t).toNat)
  case atStart => exact ⟨0, by omega, rfl, by simp [showS, strOfNums], rfl⟩
  case round =>
    obtain ⟨k, hkl, rfl, rfl, rfl⟩ := hrel
    obtain ⟨_, b1, _⟩ := id B0
    by_cases hlt : k < A.length
    · obtain ⟨g, o, rfl, hg, P⟩ := k1.resolve_left (by intro e; rw [e] at hlt; simp at hlt)
      have p0 := (hb0.cell (p := ⟨g, _, none⟩) hg).trans (P k hlt _ rfl)
      have hst : Hid (_ = _) := showS_step A k hlt
      have hz : ¬ 9223372036854775807 < (showS (A.take k)).size + 1 := by unfold showS; rw [strOfNums_size]; simp; omega
      have t1 : (k : Int) < (A.length : Int) := by omega
      have t0 : (0 : Int) ≤ (k : Int) := by omega
      have t2 : k + 1 ≤ A.length := hlt
      clear P k1
      generalize A[k] = x at *
      generalize showS (A.take k) = s at *
      by_cases d1 : x < 0
      · have e1 : Hid (letN x = 63) := letN_out (.inl d1)
        go_wp2
        go_roundw
        case rel => exact ⟨k + 1, by omega, by go_num, by rw [hst.out, e1.out]; rfl, by first | rfl | trivial⟩
        case measure => simp [intOf]; omega
      · by_cases d2 : x > 3
        · have e1 : Hid (letN x = 63) := letN_out (.inr (by omega))
          go_wp2
          go_roundw
          case rel => exact ⟨k + 1, by omega, by go_num, by rw [hst.out, e1.out]; rfl, by first | rfl | trivial⟩
          case measure => simp [intOf]; omega
        · have c : x = 0 ∨ x = 1 ∨ x = 2 ∨ x = 3 := by omega
          rcases c with rfl | rfl | rfl | rfl
          all_goals
            go_wp2
            go_roundw
            case rel => exact ⟨k + 1, by omega, by go_num, by rw [hst.out]; rfl, by first | rfl | trivial⟩
            case measure => simp [intOf]; omega
    · have t1 : ¬ (k : Int) < (A.length : Int) := by omega
      obtain rfl : k = A.length := by omega
      have hf : A.take A.length = A := List.take_length
      clear k1
      go_wp2
      go_ret
      exact ⟨by first | rfl | rw [hf], hb0⟩
end Go.Proofs.Ytbonmajnkbggcab
