import Derived.Test.YtifmlibdnnaoiaaDoorCaA
namespace Go.Proofs.YtifmlibdnnaoiaaDoor
open Go.RowKit
set_option linter.unusedVariables false

set_option maxRecDepth 100000 in
theorem refMonth_any (y m : Int) (w : World) (h0 : 0 ≤ y) (h1 : y ≤ 10000) : Calls Tryd.prog 17 #[.int .i64 y, .int .i64 m] w fun e w' => e = .returned (.int .i64 (md y m)) ∧ w = w' := by
  have hl := leap_any y w h0 h1
  by_cases h2 : m = 2
  · have h2' : (m == 2) = true := by simp [h2]
    cases hb : lp y with
    | true =>
      rw [hb] at hl
      have e : md y m = 29 := by simp [md, h2, hb]
      rw [e]
      clear hb e h2
      go_enter Tryd.func17, Tryd.ntmps17
      go_wp2_with (go_at_call 18; with_reducible refine hl.mono ?_; rintro e w' ⟨rfl, rfl⟩)
      go_ret
      exact ⟨rfl, rfl⟩
    | false =>
      rw [hb] at hl
      have e : md y m = 28 := by simp [md, h2, hb]
      rw [e]
      clear hb e h2
      go_enter Tryd.func17, Tryd.ntmps17
      go_wp2_with (go_at_call 18; with_reducible refine hl.mono ?_; rintro e w' ⟨rfl, rfl⟩)
      go_ret
      exact ⟨rfl, rfl⟩
  · have h2' : (m == 2) = false := by simp [h2]
    by_cases h3 : m = 4 ∨ m = 6 ∨ m = 9 ∨ m = 11
    · have e : md y m = 30 := by simp [md, h2, h3]
      rw [e]
      have q : (m == 4) = true ∨ (m == 4) = false ∧ (m == 6) = true ∨ (m == 4) = false ∧ (m == 6) = false ∧ (m == 9) = true ∨ (m == 4) = false ∧ (m == 6) = false ∧ (m == 9) = false ∧ (m == 11) = true := by
        simp only [beq_iff_eq, beq_eq_false_iff_ne]; omega
      clear e h3 h2
      rcases q with q | ⟨q1, q⟩ | ⟨q1, q2, q⟩ | ⟨q1, q2, q3, q⟩ <;>
      ( go_enter Tryd.func17, Tryd.ntmps17
        go_wp2
        go_ret
        exact ⟨rfl, rfl⟩)
    · have e : md y m = 31 := by simp only [md, if_neg h2, if_neg h3]
      rw [e]
      have q : (m == 4) = false ∧ (m == 6) = false ∧ (m == 9) = false ∧ (m == 11) = false := by
        simp only [beq_eq_false_iff_ne]; omega
      obtain ⟨q1, q2, q3, q4⟩ := q
      clear e h3 h2
      go_enter Tryd.func17, Tryd.ntmps17
      go_wp2
      go_ret
      exact ⟨rfl, rfl⟩
set_option maxRecDepth 100000 in
theorem below_any (n m : Int) (w : World) (h0 : -9223372036854775808 ≤ n) (h1 : n ≤ 9223372036854775807) (h2 : 0 < m) (h3 : m ≤ 1000000000) : Calls Tryd.prog 5 #[.int .i64 n, .int .i64 m] w fun e w' => e = .returned (.int .i64 (n % m)) ∧ w = w' := by
  by_cases hn : 0 ≤ n
  · have q : ¬ n % m < 0 := by have := Int.emod_nonneg n (show m ≠ 0 by omega); omega
    have q2 : ¬ m = 0 := by omega
    go_enter Tryd.func5, Tryd.ntmps5
    go_wp2
    go_ret
    exact ⟨rfl, rfl⟩
  · have a1 := Int.emod_nonneg n (show m ≠ 0 by omega)
    have a2 := Int.emod_lt_of_pos n h2
    have a3 : n.tmod m = if n % m = 0 then 0 else n % m - m := by
      rw [Int.tmod_eq_emod]
      have : ¬ (0 ≤ n) := hn
      by_cases hz : n % m = 0
      · have hd : m ∣ n := Int.dvd_of_emod_eq_zero hz
        simp [hz, hd]
      · have hd : ¬ m ∣ n := fun h => hz (Int.emod_eq_zero_of_dvd h)
        have : (m.natAbs : Int) = m := by omega
        simp [hz, hd, hn, this]
    have q2 : ¬ m = 0 := by omega
    by_cases hz : n % m = 0
    · rw [if_pos hz] at a3
      rw [hz]
      clear a1 a2 hz
      go_enter Tryd.func5, Tryd.ntmps5
      go_wp2
      go_ret
      exact ⟨rfl, rfl⟩
    · rw [if_neg hz] at a3
      have q : n % m - m < 0 := by omega
      have q3 : Hid (n % m - m + m = n % m) := by show _ = _; omega
      generalize n % m = R at *
      have b1 : -1000000000 ≤ R - m := by omega
      generalize R - m = S at *
      go_enter Tryd.func5, Tryd.ntmps5
      go_wp2
      go_ret
      exact ⟨ret_int q3.out, rfl⟩
end Go.Proofs.YtifmlibdnnaoiaaDoor
