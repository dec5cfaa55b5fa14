import Derived.Test.YtifmlibdnnaoiaaDoorCaF
namespace Go.Proofs.YtifmlibdnnaoiaaDoor
open Go.RowKit
set_option linter.unusedVariables false

theorem dt_last : Dt 146096 2399 11 31 := ⟨by omega, by omega, by omega, by omega, by decide, by decide⟩
theorem dayN_dt (n y d : Int) (k : Nat) (w : World) (hT : Mt w) (hD : Dt n y k d) : Calls Tryd.prog 7 #[.int .i64 y, .int .i64 ((k : Int) + 1), .int .i64 d] w fun e w' => e = .returned (.tuple #[.int .i64 n, .int .i64 0]) ∧ w = w' := by
  have := dayN_ok y ((k : Int) + 1) d k w hT rfl hD.k1 hD.y0 hD.y1 hD.d0 hD.d1
  rwa [← hD.e] at this
theorem bel_two {w w1 w2 : World} (h2 : Below w1.heap.size w1 w2) (h1 : Below w.heap.size w w1) : Below w.heap.size w w2 := bel_after h1 h1.size h2
set_option maxRecDepth 100000 in
set_option maxHeartbeats 4000000 in
theorem cal_mid (n0 N y d y2 m2 d2 : Int) (k k2 : Nat) (w : World) (hT : Mt w) (b0 : -9223372036854775808 ≤ n0) (b1 : n0 ≤ 9223372036854775807) (hN : Hid (n0 % 146097 = N)) (hD : Dt N y k d) (hD2 : Dt (N + 1) y2 k2 d2) (n0' : 0 < N) (n1' : N < 146096)
    (h : d + 1 ≤ md y ((k : Int) + 1) ∧ y2 = y ∧ k2 = k ∧ d2 = d + 1 ∨ md y ((k : Int) + 1) < d + 1 ∧ k + 1 < 12 ∧ y2 = y ∧ k2 = k + 1 ∧ d2 = 1 ∨ md y ((k : Int) + 1) < d + 1 ∧ k + 1 = 12 ∧ y2 = y + 1 ∧ k2 = 0 ∧ d2 = 1) :
    Calls Tryd.prog 3 #[.int .i64 n0] w fun e w' => e = .returned (.bool true) ∧ Below w.heap.size w w' := by
  have c5 : ∀ W, Calls Tryd.prog 5 #[.int .i64 n0, .int .i64 146097] W fun e w' => e = .returned (.int .i64 N) ∧ W = w' := by
    intro W; have := below_any n0 146097 W (by omega) (by omega) (by omega) (by omega); rwa [hN.out] at this
  have c5b : ∀ W, Calls Tryd.prog 5 #[.int .i64 (N + 5), .int .i64 7] W fun e w' => e = .returned (.int .i64 ((N + 5) % 7)) ∧ W = w' := by
    intro W; exact below_any (N + 5) 7 W (by omega) (by omega) (by omega) (by omega)
  have c6 := date_at N y d k w hT hD
  have c6b : ∀ W, Below w.heap.size w W → Calls Tryd.prog 6 #[.int .i64 (N + 1)] W fun e w' => e = .returned (.tuple #[.int .i64 y2, .int .i64 ((k2 : Int) + 1), .int .i64 d2, .int .i64 0]) ∧ W = w' := fun W hb => date_at (N + 1) y2 d2 k2 W (hT.below hb) hD2
  have c7 := dayN_dt N y d k w hT hD
  have c8 := weekD_any N w
  have e1 : wkF N = (N + 5) % 7 := by simp only [wkF]; rw [if_pos (by omega)]
  have e2 : wkE N = 0 := by simp only [wkE]; rw [if_pos (by omega)]
  rw [e1, e2] at c8
  have hy0 := hD.y0; have hy1 := hD.y1; have hk := hD.k1; have hd0 := hD.d0; have hd1 := hD.d1
  have c9 := fun W => lawMonth_any y k W (by omega) (by omega) hk
  have m1 := (md_bounds y ((k : Int) + 1)).2
  clear e1 e2 hT hD hD2
  have z0 : (N == 0) = false := beq_eq_false_iff_ne.2 (by omega)
  have z1 : (N == 146096) = false := beq_eq_false_iff_ne.2 (by omega)
  have hkk : (k : Int) + 1 ≤ 12 := by omega
  have hk0 : (0 : Int) ≤ (k : Int) := by omega
  generalize md y ((k : Int) + 1) = M at *
  generalize (N + 5) % 7 = WD at *
  rcases h with ⟨h1, rfl, rfl, rfl⟩ | ⟨h1, h2, rfl, rfl, rfl⟩ | ⟨h1, h2, rfl, rfl, rfl⟩
  · have q1 : ¬ 12 < (k2 : Int) + 1 := by omega
    go_enter Tryd.func3, Tryd.ntmps3
    go_wp2_with (first | (go_at_call 5; first | (with_reducible refine (c5 _).mono ?_; rintro e w' ⟨rfl, rfl⟩) | (with_reducible refine (c5b _).mono ?_; rintro e w' ⟨rfl, rfl⟩)) | (go_at_call 6; first | (with_reducible refine c6.mono ?_; rintro e w' ⟨rfl, rfl⟩) | (with_reducible refine (c6b _ (by assumption)).mono ?_; rintro e w' ⟨rfl, rfl⟩)) | (go_at_call 7; first | (with_reducible refine c7.mono ?_; rintro e w' ⟨rfl, rfl⟩) | (with_reducible refine (c7b _ (by assumption)).mono ?_; rintro e w' ⟨rfl, rfl⟩)) | (go_at_call 8; with_reducible refine c8.mono ?_; rintro e w' ⟨rfl, rfl⟩) | (go_at_call 9; with_reducible refine (c9 _).mono ?_; rintro e w1 ⟨rfl, hb⟩))
    go_ret
    refine ⟨rfl, ?_⟩
    exact bel_two hb (by assumption)
  · have q1 : ¬ 12 < (k : Int) + 1 + 1 := by omega
    have q2 : ((k + 1 : Nat) : Int) = (k : Int) + 1 := by omega
    rw [q2] at c6b
    clear q2
    go_enter Tryd.func3, Tryd.ntmps3
    go_wp2_with (first | (go_at_call 5; first | (with_reducible refine (c5 _).mono ?_; rintro e w' ⟨rfl, rfl⟩) | (with_reducible refine (c5b _).mono ?_; rintro e w' ⟨rfl, rfl⟩)) | (go_at_call 6; first | (with_reducible refine c6.mono ?_; rintro e w' ⟨rfl, rfl⟩) | (with_reducible refine (c6b _ (by assumption)).mono ?_; rintro e w' ⟨rfl, rfl⟩)) | (go_at_call 7; first | (with_reducible refine c7.mono ?_; rintro e w' ⟨rfl, rfl⟩) | (with_reducible refine (c7b _ (by assumption)).mono ?_; rintro e w' ⟨rfl, rfl⟩)) | (go_at_call 8; with_reducible refine c8.mono ?_; rintro e w' ⟨rfl, rfl⟩) | (go_at_call 9; with_reducible refine (c9 _).mono ?_; rintro e w1 ⟨rfl, hb⟩))
    go_ret
    refine ⟨rfl, ?_⟩
    exact bel_two hb (by assumption)
  · have q1 : 12 < (k : Int) + 1 + 1 := by omega
    go_enter Tryd.func3, Tryd.ntmps3
    go_wp2_with (first | (go_at_call 5; first | (with_reducible refine (c5 _).mono ?_; rintro e w' ⟨rfl, rfl⟩) | (with_reducible refine (c5b _).mono ?_; rintro e w' ⟨rfl, rfl⟩)) | (go_at_call 6; first | (with_reducible refine c6.mono ?_; rintro e w' ⟨rfl, rfl⟩) | (with_reducible refine (c6b _ (by assumption)).mono ?_; rintro e w' ⟨rfl, rfl⟩)) | (go_at_call 7; first | (with_reducible refine c7.mono ?_; rintro e w' ⟨rfl, rfl⟩) | (with_reducible refine (c7b _ (by assumption)).mono ?_; rintro e w' ⟨rfl, rfl⟩)) | (go_at_call 8; with_reducible refine c8.mono ?_; rintro e w' ⟨rfl, rfl⟩) | (go_at_call 9; with_reducible refine (c9 _).mono ?_; rintro e w1 ⟨rfl, hb⟩))
    go_ret
    refine ⟨rfl, ?_⟩
    exact bel_two hb (by assumption)
set_option maxRecDepth 100000 in
set_option maxHeartbeats 4000000 in
theorem cal_zero (n0 : Int) (w : World) (hT : Mt w) (b0 : -9223372036854775808 ≤ n0) (b1 : n0 ≤ 9223372036854775807) (hN : Hid (n0 % 146097 = 0)) :
    Calls Tryd.prog 3 #[.int .i64 n0] w fun e w' => e = .returned (.bool true) ∧ Below w.heap.size w w' := by
  have c5 : ∀ W, Calls Tryd.prog 5 #[.int .i64 n0, .int .i64 146097] W fun e w' => e = .returned (.int .i64 0) ∧ W = w' := by
    intro W; have := below_any n0 146097 W (by omega) (by omega) (by omega) (by omega); rwa [hN.out] at this
  have c5b : ∀ W, Calls Tryd.prog 5 #[.int .i64 5, .int .i64 7] W fun e w' => e = .returned (.int .i64 5) ∧ W = w' := by
    intro W; exact below_any 5 7 W (by omega) (by omega) (by omega) (by omega)
  have c6 : Calls Tryd.prog 6 #[.int .i64 0] w fun e w' => e = .returned (.tuple #[.int .i64 2000, .int .i64 1, .int .i64 1, .int .i64 0]) ∧ w = w' := date_at 0 2000 1 0 w hT dt_first
  have c6b : ∀ W, Below w.heap.size w W → Calls Tryd.prog 6 #[.int .i64 1] W fun e w' => e = .returned (.tuple #[.int .i64 2000, .int .i64 1, .int .i64 2, .int .i64 0]) ∧ W = w' := fun W hb => date_at 1 2000 2 0 W (hT.below hb) ⟨by omega, by omega, by omega, by omega, by decide, by decide⟩
  have c7 : Calls Tryd.prog 7 #[.int .i64 2000, .int .i64 1, .int .i64 1] w fun e w' => e = .returned (.tuple #[.int .i64 0, .int .i64 0]) ∧ w = w' := dayN_dt 0 2000 1 0 w hT dt_first
  have c8 : Calls Tryd.prog 8 #[.int .i64 0] w fun e w' => e = .returned (.tuple #[.int .i64 5, .int .i64 0]) ∧ w = w' := weekD_any 0 w
  have c9 : ∀ W, Calls Tryd.prog 9 #[.int .i64 2000, .int .i64 1] W fun e w' => e = .returned (.int .i64 31) ∧ Below W.heap.size W w' := fun W => lawMonth_any 2000 0 W (by omega) (by omega) (by omega)
  clear hT
  go_enter Tryd.func3, Tryd.ntmps3
  go_wp2_with (first | (go_at_call 5; first | (with_reducible refine (c5 _).mono ?_; rintro e w' ⟨rfl, rfl⟩) | (with_reducible refine (c5b _).mono ?_; rintro e w' ⟨rfl, rfl⟩)) | (go_at_call 6; first | (with_reducible refine c6.mono ?_; rintro e w' ⟨rfl, rfl⟩) | (with_reducible refine (c6b _ (by assumption)).mono ?_; rintro e w' ⟨rfl, rfl⟩)) | (go_at_call 7; first | (with_reducible refine c7.mono ?_; rintro e w' ⟨rfl, rfl⟩) | (with_reducible refine (c7b _ (by assumption)).mono ?_; rintro e w' ⟨rfl, rfl⟩)) | (go_at_call 8; with_reducible refine c8.mono ?_; rintro e w' ⟨rfl, rfl⟩) | (go_at_call 9; with_reducible refine (c9 _).mono ?_; rintro e w1 ⟨rfl, hb⟩))
  go_ret
  exact ⟨rfl, bel_two hb (by assumption)⟩
set_option maxRecDepth 100000 in
set_option maxHeartbeats 4000000 in
theorem cal_last (n0 : Int) (w : World) (hT : Mt w) (b0 : -9223372036854775808 ≤ n0) (b1 : n0 ≤ 9223372036854775807) (hN : Hid (n0 % 146097 = 146096)) :
    Calls Tryd.prog 3 #[.int .i64 n0] w fun e w' => e = .returned (.bool true) ∧ Below w.heap.size w w' := by
  have c5 : ∀ W, Calls Tryd.prog 5 #[.int .i64 n0, .int .i64 146097] W fun e w' => e = .returned (.int .i64 146096) ∧ W = w' := by
    intro W; have := below_any n0 146097 W (by omega) (by omega) (by omega) (by omega); rwa [hN.out] at this
  have c5b : ∀ W, Calls Tryd.prog 5 #[.int .i64 146101, .int .i64 7] W fun e w' => e = .returned (.int .i64 4) ∧ W = w' := by
    intro W; exact below_any 146101 7 W (by omega) (by omega) (by omega) (by omega)
  have c6 : Calls Tryd.prog 6 #[.int .i64 146096] w fun e w' => e = .returned (.tuple #[.int .i64 2399, .int .i64 12, .int .i64 31, .int .i64 0]) ∧ w = w' := date_at 146096 2399 31 11 w hT dt_last
  have c6b : ∀ W, Below w.heap.size w W → Calls Tryd.prog 6 #[.int .i64 146097] W fun e w' => e = .returned (.tuple #[.int .i64 0, .int .i64 0, .int .i64 0, .int .i64 189]) ∧ W = w' := fun W hb => date_bad 146097 W (by omega)
  have c7 : Calls Tryd.prog 7 #[.int .i64 2399, .int .i64 12, .int .i64 31] w fun e w' => e = .returned (.tuple #[.int .i64 146096, .int .i64 0]) ∧ w = w' := dayN_dt 146096 2399 31 11 w hT dt_last
  have c7b : ∀ W, Below w.heap.size w W → Calls Tryd.prog 7 #[.int .i64 2400, .int .i64 1, .int .i64 1] W fun e w' => e = .returned (.tuple #[.int .i64 0, .int .i64 189]) ∧ W = w' := fun W hb => dayN_bad 2400 1 1 W (hT.below hb) (by omega)
  have c8 : Calls Tryd.prog 8 #[.int .i64 146096] w fun e w' => e = .returned (.tuple #[.int .i64 4, .int .i64 0]) ∧ w = w' := weekD_any 146096 w
  have c9 : ∀ W, Calls Tryd.prog 9 #[.int .i64 2399, .int .i64 12] W fun e w' => e = .returned (.int .i64 31) ∧ Below W.heap.size W w' := fun W => lawMonth_any 2399 11 W (by omega) (by omega) (by omega)
  clear hT
  go_enter Tryd.func3, Tryd.ntmps3
  go_wp2_with (first | (go_at_call 5; first | (with_reducible refine (c5 _).mono ?_; rintro e w' ⟨rfl, rfl⟩) | (with_reducible refine (c5b _).mono ?_; rintro e w' ⟨rfl, rfl⟩)) | (go_at_call 6; first | (with_reducible refine c6.mono ?_; rintro e w' ⟨rfl, rfl⟩) | (with_reducible refine (c6b _ (by assumption)).mono ?_; rintro e w' ⟨rfl, rfl⟩)) | (go_at_call 7; first | (with_reducible refine c7.mono ?_; rintro e w' ⟨rfl, rfl⟩) | (with_reducible refine (c7b _ (by assumption)).mono ?_; rintro e w' ⟨rfl, rfl⟩)) | (go_at_call 8; with_reducible refine c8.mono ?_; rintro e w' ⟨rfl, rfl⟩) | (go_at_call 9; with_reducible refine (c9 _).mono ?_; rintro e w1 ⟨rfl, hb⟩))
  go_ret
  exact ⟨rfl, hb⟩
theorem calendar_law (n : Int) (w : World) (hw : (Lit.int .i64 n).wf = true) (hT : Mt w) : Calls Tryd.prog 3 #[.int .i64 n] w fun e w' => e = .returned (.bool true) ∧ Below w.heap.size w w' := by
  have h1 : IntKind.i64.min = -9223372036854775808 := by decide
  have h2 : IntKind.i64.max = 9223372036854775807 := by decide
  simp only [Lit.wf, h1, h2, Bool.and_eq_true, decide_eq_true_eq] at hw
  have a0 : 0 ≤ n % 146097 := by omega
  have a1 : n % 146097 ≤ 146096 := by omega
  by_cases hz : n % 146097 = 0
  · exact cal_zero n w hT hw.1 hw.2 hz
  by_cases hl : n % 146097 = 146096
  · exact cal_last n w hT hw.1 hw.2 hl
  obtain ⟨y, k, d, hD⟩ := dt_of _ a0 a1
  obtain ⟨a, b, c⟩ := hD.next (by omega)
  rcases Int.lt_or_le (md y ((k : Int) + 1)) (d + 1) with h3 | h3
  · have := hD.k1
    rcases Nat.lt_or_ge (k + 1) 12 with h4 | h4
    · exact cal_mid n _ y d _ 0 _ k _ w hT hw.1 hw.2 rfl hD (b h3 h4) (by omega) (by omega) (.inr (.inl ⟨h3, h4, rfl, rfl, rfl⟩))
    · exact cal_mid n _ y d _ 0 _ k _ w hT hw.1 hw.2 rfl hD (c h3 (by omega)) (by omega) (by omega) (.inr (.inr ⟨h3, by omega, rfl, rfl, rfl⟩))
  · exact cal_mid n _ y d _ 0 _ k _ w hT hw.1 hw.2 rfl hD (a h3) (by omega) (by omega) (.inl ⟨h3, rfl, rfl, rfl⟩)
end Go.Proofs.YtifmlibdnnaoiaaDoor
