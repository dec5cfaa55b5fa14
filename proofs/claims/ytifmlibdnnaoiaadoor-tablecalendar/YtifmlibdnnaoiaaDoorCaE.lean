import Derived.Test.YtifmlibdnnaoiaaDoorCaD
namespace Go.Proofs.YtifmlibdnnaoiaaDoor
open Go.RowKit
set_option linter.unusedVariables false

theorem dt_first : Dt 0 2000 0 1 := ⟨by omega, by omega, by omega, by omega, by decide, by decide⟩
theorem dt_all : ∀ n : Nat, n ≤ 146096 → ∃ (y : Int) (k : Nat) (d : Int), Dt (n : Int) y k d
  | 0, _ => ⟨2000, 0, 1, dt_first⟩
  | n + 1, h => by
    obtain ⟨y, k, d, hD⟩ := dt_all n (by omega)
    obtain ⟨a, b, c⟩ := hD.next (by omega)
    have e : ((n + 1 : Nat) : Int) = (n : Int) + 1 := by omega
    rw [e]
    rcases Int.lt_or_le (md y ((k : Int) + 1)) (d + 1) with h1 | h1
    · have := hD.k1
      rcases Nat.lt_or_ge (k + 1) 12 with h2 | h2
      · exact ⟨_, _, _, b h1 h2⟩
      · exact ⟨_, _, _, c h1 (by omega)⟩
    · exact ⟨_, _, _, a h1⟩
theorem dt_of (n : Int) (h0 : 0 ≤ n) (h1 : n ≤ 146096) : ∃ (y : Int) (k : Nat) (d : Int), Dt n y k d := by
  have := dt_all n.toNat (by omega)
  rwa [show ((n.toNat : Nat) : Int) = n by omega] at this
theorem date_at (n y d : Int) (k : Nat) (w : World) (hT : Mt w) (hD : Dt n y k d) : Calls Tryd.prog 6 #[.int .i64 n] w fun e w' => e = .returned (.tuple #[.int .i64 y, .int .i64 ((k : Int) + 1), .int .i64 d, .int .i64 0]) ∧ w = w' := by
  refine (date_ok n w hD.range.1 hD.range.2 hT).mono ?_
  rintro e w' ⟨⟨y', k', m', d', rfl, rfl, hD'⟩, rfl⟩
  obtain ⟨rfl, rfl, rfl⟩ := hD.uniq hD'
  exact ⟨rfl, rfl⟩
theorem refDate_at (n y d : Int) (k : Nat) (w : World) (hD : Dt n y k d) : Calls Tryd.prog 11 #[.int .i64 n] w fun e w' => e = .returned (.tuple #[.int .i64 y, .int .i64 ((k : Int) + 1), .int .i64 d, .int .i64 0]) ∧ w = w' := by
  refine (refDate_ok n w hD.range.1 hD.range.2).mono ?_
  rintro e w' ⟨⟨y', k', m', d', rfl, rfl, hD'⟩, rfl⟩
  obtain ⟨rfl, rfl, rfl⟩ := hD.uniq hD'
  exact ⟨rfl, rfl⟩
/-- Both Dates answer alike. -/
theorem date_pair (n : Int) (w : World) (hT : Mt w) : ∃ y m d e : Int, (Calls Tryd.prog 6 #[.int .i64 n] w fun x w' => x = .returned (.tuple #[.int .i64 y, .int .i64 m, .int .i64 d, .int .i64 e]) ∧ w = w') ∧ (Calls Tryd.prog 11 #[.int .i64 n] w fun x w' => x = .returned (.tuple #[.int .i64 y, .int .i64 m, .int .i64 d, .int .i64 e]) ∧ w = w') := by
  by_cases h : 0 ≤ n ∧ n ≤ 146096
  · obtain ⟨y, k, d, hD⟩ := dt_of n h.1 h.2
    exact ⟨_, _, _, _, date_at n y d k w hT hD, refDate_at n y d k w hD⟩
  · exact ⟨_, _, _, _, date_bad n w h, refDate_bad n w h⟩
theorem dayN_pair (y m d : Int) (w : World) (hT : Mt w) : ∃ a e : Int, (Calls Tryd.prog 7 #[.int .i64 y, .int .i64 m, .int .i64 d] w fun x w' => x = .returned (.tuple #[.int .i64 a, .int .i64 e]) ∧ w = w') ∧ (Calls Tryd.prog 10 #[.int .i64 y, .int .i64 m, .int .i64 d] w fun x w' => x = .returned (.tuple #[.int .i64 a, .int .i64 e]) ∧ w = w') := by
  by_cases h : 2000 ≤ y ∧ y ≤ 2399 ∧ 1 ≤ m ∧ m ≤ 12 ∧ 1 ≤ d ∧ d ≤ md y m
  · obtain ⟨h1, h2, h3, h4, h5, h6⟩ := h
    have hm : m = (((m - 1).toNat : Nat) : Int) + 1 := by omega
    exact ⟨_, _, dayN_ok y m d (m - 1).toNat w hT hm (by omega) h1 h2 h5 h6, refDayN_ok y m d (m - 1).toNat w hm (by omega) h1 h2 h5 h6⟩
  · exact ⟨_, _, dayN_bad y m d w hT h, refDayN_bad y m d w h⟩
set_option maxRecDepth 100000 in
set_option maxHeartbeats 2000000 in
theorem dates_law (y m d n : Int) (w : World) (hT : Mt w) : Calls Tryd.prog 4 #[.int .i64 y, .int .i64 m, .int .i64 d, .int .i64 n] w fun e w' => e = .returned (.bool true) ∧ w = w' := by
  obtain ⟨a, e, c7, c10⟩ := dayN_pair y m d w hT
  obtain ⟨y', m', d', e', c6, c11⟩ := date_pair n w hT
  have c8 := weekD_any n w
  have c12 := refWeekD_any n w
  clear hT
  generalize wkF n = wk at *
  generalize wkE n = we at *
  go_enter Tryd.func4, Tryd.ntmps4
  go_wp2_with (first | (go_at_call 7; with_reducible refine c7.mono ?_; rintro e w' ⟨rfl, rfl⟩) | (go_at_call 10; with_reducible refine c10.mono ?_; rintro e w' ⟨rfl, rfl⟩) | (go_at_call 6; with_reducible refine c6.mono ?_; rintro e w' ⟨rfl, rfl⟩) | (go_at_call 11; with_reducible refine c11.mono ?_; rintro e w' ⟨rfl, rfl⟩) | (go_at_call 8; with_reducible refine c8.mono ?_; rintro e w' ⟨rfl, rfl⟩) | (go_at_call 12; with_reducible refine c12.mono ?_; rintro e w' ⟨rfl, rfl⟩))
  go_ret
  exact ⟨rfl, rfl⟩
end Go.Proofs.YtifmlibdnnaoiaaDoor
