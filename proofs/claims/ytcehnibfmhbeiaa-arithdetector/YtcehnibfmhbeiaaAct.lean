import Derived.Test.YtcehnibfmhbeiaaWalksA
import Derived.Test.YtcehnibfmhbeiaaMath
namespace Go.Proofs.Ytcehnibfmhbeiaa
open Go.RowKit
set_option linter.unusedVariables false

theorem ret_bool {a b : Bool} (h : a = b) : Ending.returned (.bool a) = .returned (.bool b) := by rw [h]

set_option maxHeartbeats 1000000 in
theorem active_any (B : Nat → Bool) (b off n cap j D : Nat) (w : World) (hn : n < 2147483647) (hj : j < n) (hDb : D ≤ 9223372036854775807)
    (hc : ∀ i, i < n → w.cell? ⟨b, off + i, none⟩ = some (.bool (B i))) :
    Calls Try.prog 5 #[.slice (some ⟨b, off, none⟩) n cap, .int .i64 j, .int .i64 D] w fun e w' => e = .returned (.bool (act B D j)) ∧ w' = w := by
  have hact := act_iff B D j
  by_cases hD : D ≤ j
  · have hact' : Hid (act B D j = true ↔ ∀ i, j - D ≤ i → i ≤ j → B i = true) := by
      show _ ↔ _
      rw [hact]; exact ⟨fun h => h.2, fun h => ⟨hD, h⟩⟩
    clear hact
    go_enter Try.func5, Try.ntmps5
    go_wp2
    go_loop [7] (fun i => ∃ q : Nat, j - D ≤ q ∧ q ≤ j + 1 ∧ i = .int .i64 q ∧ ∀ p, j - D ≤ p → p < q → B p = true) (fun i => j + 1 - (intOf i).toNat)
    case atStart => exact ⟨j - D, by omega, by omega, by congr 1; omega, fun p h1 h2 => by omega⟩
    case round =>
      obtain ⟨q, hq1, hq2, rfl, hall⟩ := hrel
      have hall' : Hid (∀ p, j - D ≤ p → p < q → B p = true) := hall
      clear hall
      by_cases hlt : q ≤ j
      · have hcell := hc q (by omega)
        have hqn : q < n := by omega
        cases hB : B q
        · rw [hB] at hcell
          go_wp2
          go_ret
          exact ⟨ret_bool (by
            rw [eq_comm, ← Bool.not_eq_true, hact'.out]
            intro h; have := h q hq1 hlt; rw [hB] at this; cases this), rfl⟩
        · rw [hB] at hcell
          go_wp2
          go_round
          case rel => exact ⟨q + 1, by omega, by omega, by go_num, fun p h1 h2 => by
            by_cases e : p = q
            · rw [e]; exact hB
            · exact hall'.out p h1 (by omega)⟩
          case measure => simp [intOf]; omega
      · go_wp2
        go_ret
        exact ⟨ret_bool (by rw [eq_comm, hact'.out]; exact fun i h1 h2 => hall'.out i h1 (by omega)), rfl⟩
  · have h2 : act B D j = false := by rw [← Bool.not_eq_true, hact]; omega
    rw [h2]
    clear hact h2
    go_enter Try.func5, Try.ntmps5
    go_wp2
    go_ret
    exact ⟨rfl, rfl⟩
end Go.Proofs.Ytcehnibfmhbeiaa
