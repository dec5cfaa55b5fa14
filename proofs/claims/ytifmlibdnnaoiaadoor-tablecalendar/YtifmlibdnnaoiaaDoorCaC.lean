import Derived.Test.YtifmlibdnnaoiaaDoorCaB
namespace Go.Proofs.YtifmlibdnnaoiaaDoor
open Go.RowKit
set_option linter.unusedVariables false

theorem ret_ii {a b c : Int} (h : a = b) : Ending.returned (.tuple #[.int .i64 a, .int .i64 c]) = .returned (.tuple #[.int .i64 b, .int .i64 c]) := by rw [h]
/-- The weekday of a day, or a refusal. -/
def wkF (n : Int) : Int := if 0 ≤ n ∧ n ≤ 146096 then (n + 5) % 7 else 0
def wkE (n : Int) : Int := if 0 ≤ n ∧ n ≤ 146096 then 0 else 189
set_option maxRecDepth 100000 in
theorem weekD_any (n : Int) (w : World) : Calls Tryd.prog 8 #[.int .i64 n] w fun e w' => e = .returned (.tuple #[.int .i64 (wkF n), .int .i64 (wkE n)]) ∧ w = w' := by
  by_cases h : 0 ≤ n ∧ n ≤ 146096
  · have e1 : wkF n = (n + 5) % 7 := by simp only [wkF, if_pos h]
    have e2 : wkE n = 0 := by simp only [wkE, if_pos h]
    have hb : dayB n = true := by simp [dayB, h.1, h.2]
    rw [e1, e2]
    clear e1 e2
    have hd := isDay_any n w
    rw [hb] at hd
    have hw := weekday_any n w h.1 h.2
    obtain ⟨h1, h2⟩ := h
    clear hb
    go_enter Tryd.func8, Tryd.ntmps8
    go_wp2_with (first | (go_at_call 13; with_reducible refine hd.mono ?_; rintro e w' ⟨rfl, rfl⟩) | (go_at_call 16; with_reducible refine hw.mono ?_; rintro e w' ⟨rfl, rfl⟩))
    go_ret2
    exact ⟨rfl, rfl⟩
  · have e1 : wkF n = 0 := by simp only [wkF, if_neg h]
    have e2 : wkE n = 189 := by simp only [wkE, if_neg h]
    have hb : dayB n = false := by simp only [dayB, Bool.and_eq_false_iff, decide_eq_false_iff_not]; omega
    rw [e1, e2]
    clear e1 e2
    have hd := isDay_any n w
    rw [hb] at hd
    by_cases h1 : n < 0
    · clear h hb
      go_enter Tryd.func8, Tryd.ntmps8
      go_wp2_with (go_at_call 13; with_reducible refine hd.mono ?_; rintro e w' ⟨rfl, rfl⟩)
      go_ret2
      exact ⟨rfl, rfl⟩
    · have h2 : 146096 < n := by omega
      clear h hb
      go_enter Tryd.func8, Tryd.ntmps8
      go_wp2_with (go_at_call 13; with_reducible refine hd.mono ?_; rintro e w' ⟨rfl, rfl⟩)
      go_ret2
      exact ⟨rfl, rfl⟩
set_option maxRecDepth 100000 in
theorem refWeekD_any (n : Int) (w : World) : Calls Tryd.prog 12 #[.int .i64 n] w fun e w' => e = .returned (.tuple #[.int .i64 (wkF n), .int .i64 (wkE n)]) ∧ w = w' := by
  by_cases h : 0 ≤ n ∧ n ≤ 146096
  · have e1 : wkF n = (n + 5) % 7 := by simp only [wkF, if_pos h]
    have e2 : wkE n = 0 := by simp only [wkE, if_pos h]
    have hb : dayB n = true := by simp [dayB, h.1, h.2]
    rw [e1, e2]
    clear e1 e2
    obtain ⟨h1, h2⟩ := h
    clear hb
    go_enter Tryd.func12, Tryd.ntmps12
    go_wp2
    go_ret2
    exact ⟨rfl, rfl⟩
  · have e1 : wkF n = 0 := by simp only [wkF, if_neg h]
    have e2 : wkE n = 189 := by simp only [wkE, if_neg h]
    have hb : dayB n = false := by simp only [dayB, Bool.and_eq_false_iff, decide_eq_false_iff_not]; omega
    rw [e1, e2]
    clear e1 e2
    by_cases h1 : n < 0
    · clear h hb
      go_enter Tryd.func12, Tryd.ntmps12
      go_wp2
      go_ret2
      exact ⟨rfl, rfl⟩
    · have h2 : 146096 < n := by omega
      clear h hb
      go_enter Tryd.func12, Tryd.ntmps12
      go_wp2
      go_ret2
      exact ⟨rfl, rfl⟩
set_option maxRecDepth 100000 in
theorem dayN_bad (y m d : Int) (w : World) (hT : Mt w) (h : ¬ (2000 ≤ y ∧ y ≤ 2399 ∧ 1 ≤ m ∧ m ≤ 12 ∧ 1 ≤ d ∧ d ≤ md y m)) : Calls Tryd.prog 7 #[.int .i64 y, .int .i64 m, .int .i64 d] w fun e w' => e = .returned (.tuple #[.int .i64 0, .int .i64 189]) ∧ w = w' := by
  by_cases h1 : 2000 ≤ y
  · by_cases h2 : y ≤ 2399
    · by_cases h3 : 1 ≤ m
      · by_cases h4 : m ≤ 12
        · by_cases h5 : 1 ≤ d
          · have hc := daysOf_any y m (m - 1).toNat w (by omega) (by omega) (by omega) (by omega) hT
            have h6 : md y m < d := by omega
            clear h
            generalize md y m = R at *
            go_enter Tryd.func7, Tryd.ntmps7
            go_wp2_with (go_at_call 15; with_reducible refine hc.mono ?_; rintro e w' ⟨rfl, rfl⟩)
            go_ret2
            exact ⟨rfl, rfl⟩
          · have h6 : d < 1 := by omega
            clear h h5
            go_enter Tryd.func7, Tryd.ntmps7
            go_wp2
            go_ret2
            exact ⟨rfl, rfl⟩
        · have h6 : 12 < m := by omega
          clear h h4
          go_enter Tryd.func7, Tryd.ntmps7
          go_wp2
          go_ret2
          exact ⟨rfl, rfl⟩
      · have h6 : m < 1 := by omega
        clear h h3
        go_enter Tryd.func7, Tryd.ntmps7
        go_wp2
        go_ret2
        exact ⟨rfl, rfl⟩
    · have h6 : 2399 < y := by omega
      clear h h2
      go_enter Tryd.func7, Tryd.ntmps7
      go_wp2
      go_ret2
      exact ⟨rfl, rfl⟩
  · have h6 : y < 2000 := by omega
    clear h h1
    go_enter Tryd.func7, Tryd.ntmps7
    go_wp2
    go_ret2
    exact ⟨rfl, rfl⟩
set_option maxRecDepth 100000 in
theorem refDayN_bad (y m d : Int) (w : World) (h : ¬ (2000 ≤ y ∧ y ≤ 2399 ∧ 1 ≤ m ∧ m ≤ 12 ∧ 1 ≤ d ∧ d ≤ md y m)) : Calls Tryd.prog 10 #[.int .i64 y, .int .i64 m, .int .i64 d] w fun e w' => e = .returned (.tuple #[.int .i64 0, .int .i64 189]) ∧ w = w' := by
  by_cases h1 : 2000 ≤ y
  · by_cases h2 : y ≤ 2399
    · by_cases h3 : 1 ≤ m
      · by_cases h4 : m ≤ 12
        · by_cases h5 : 1 ≤ d
          · have hc := refMonth_any y m w (by omega) (by omega)
            have h6 : md y m < d := by omega
            clear h
            generalize md y m = R at *
            go_enter Tryd.func10, Tryd.ntmps10
            go_wp2_with (go_at_call 17; with_reducible refine hc.mono ?_; rintro e w' ⟨rfl, rfl⟩)
            go_ret2
            exact ⟨rfl, rfl⟩
          · have h6 : d < 1 := by omega
            clear h h5
            go_enter Tryd.func10, Tryd.ntmps10
            go_wp2
            go_ret2
            exact ⟨rfl, rfl⟩
        · have h6 : 12 < m := by omega
          clear h h4
          go_enter Tryd.func10, Tryd.ntmps10
          go_wp2
          go_ret2
          exact ⟨rfl, rfl⟩
      · have h6 : m < 1 := by omega
        clear h h3
        go_enter Tryd.func10, Tryd.ntmps10
        go_wp2
        go_ret2
        exact ⟨rfl, rfl⟩
    · have h6 : 2399 < y := by omega
      clear h h2
      go_enter Tryd.func10, Tryd.ntmps10
      go_wp2
      go_ret2
      exact ⟨rfl, rfl⟩
  · have h6 : y < 2000 := by omega
    clear h h1
    go_enter Tryd.func10, Tryd.ntmps10
    go_wp2
    go_ret2
    exact ⟨rfl, rfl⟩
set_option maxRecDepth 100000 in
theorem dayN_ok (y m d : Int) (k : Nat) (w : World) (hT : Mt w) (hm : m = (k : Int) + 1) (hk : k < 12) (h1 : 2000 ≤ y) (h2 : y ≤ 2399) (h5 : 1 ≤ d) (h6 : d ≤ md y m) : Calls Tryd.prog 7 #[.int .i64 y, .int .i64 m, .int .i64 d] w fun e w' => e = .returned (.tuple #[.int .i64 (ny y + sm y k + d - 1), .int .i64 0]) ∧ w = w' := by
  have hc := daysOf_any y m k w (by omega) (by omega) hm hk hT
  have hn := newYear_any y w h1 (by omega)
  have n1 := ny_low y h1
  have n2 : 0 ≤ ny y := by omega
  have n3 : ny y ≤ 150000 := by omega
  have m1 := (md_bounds y m).2
  have h3 : 1 ≤ m := by omega
  have h4 : m ≤ 12 := by omega
  have hT' : Hid (Mt w) := hT
  have hm' : Hid (m = (k : Int) + 1) := hm
  have hE : Hid (∀ a : Int, a = ny y → a + sm y k + d - 1 = a + d - 1 + sm y k) := by intro a _; omega
  have hyy : Hid (2000 ≤ y ∧ y ≤ 2399) := ⟨h1, h2⟩
  clear hT hm n1
  generalize ny y = NY at *
  generalize md y m = R at *
  go_enter Tryd.func7, Tryd.ntmps7
  go_wp2_with (first | (go_at_call 15; with_reducible refine hc.mono ?_; rintro e w' ⟨rfl, rfl⟩) | (go_at_call 14; with_reducible refine hn.mono ?_; rintro e w' ⟨rfl, rfl⟩))
  go_loopg [8, 9] k (fun gk s i wr => ∃ (j : Nat) (S I : Int), j + gk = k ∧ s = .int .i64 S ∧ i = .int .i64 I ∧ Hid (I = (j : Int) + 1) ∧ Hid (S = NY + d - 1 + sm y j) ∧ w = wr)
  case atStart => exact ⟨0, _, _, by omega, rfl, rfl, rfl, by simp [sm, Hid], rfl⟩
  case round =>
    obtain ⟨j, S, I, hj, rfl, rfl, hI, hS, rfl⟩ := hrel
    have s1 := sm_low y j
    have b1 : 0 ≤ S := by have := hS.out; omega
    have b2 : S ≤ 160000 := by have := hS.out; omega
    clear s1
    by_cases hlt : j < k
    · have hI1 : I < m := by have := hI.out; have := hm'.out; omega
      have hI2 : 1 ≤ I := by have := hI.out; omega
      have hc2 := daysOf_any y I j w (by have := hyy.out; omega) (by have := hyy.out; omega) hI.out (by omega) hT'.out
      have b3 := (md_bounds y I).1
      have b4 := (md_bounds y I).2
      have hS2 : Hid (S + md y I = NY + d - 1 + sm y (j + 1)) := by
        show _ = _
        simp only [sm]; rw [← hI.out]; have := hS.out; omega
      generalize md y I = R2 at *
      go_wp2_with (go_at_call 15; with_reducible refine hc2.mono ?_; rintro e w' ⟨rfl, rfl⟩)
      go_roundg (gk - 1)
      case measure => go_light; omega
      case rel => exact ⟨j + 1, _, _, by omega, rfl, rfl, by have := hI.out; show _ = _; omega, hS2, rfl⟩
    · obtain rfl : j = k := by omega
      have hI1 : ¬ I < m := by have := hI.out; have := hm'.out; omega
      have hfin : Hid (S = NY + sm y j + d - 1) := by have := hS.out; show _ = _; omega
      go_wp2
      go_ret2
      exact ⟨ret_ii hfin.out, rfl⟩
set_option maxRecDepth 100000 in
theorem refDayN_ok (y m d : Int) (k : Nat) (w : World) (hm : m = (k : Int) + 1) (hk : k < 12) (h1 : 2000 ≤ y) (h2 : y ≤ 2399) (h5 : 1 ≤ d) (h6 : d ≤ md y m) : Calls Tryd.prog 10 #[.int .i64 y, .int .i64 m, .int .i64 d] w fun e w' => e = .returned (.tuple #[.int .i64 (ny y + sm y k + d - 1), .int .i64 0]) ∧ w = w' := by
  have hc := refMonth_any y m w (by omega) (by omega)
  have n1 := ny_low y h1
  have n2 : 0 ≤ ny y := by omega
  have n3 : ny y ≤ 150000 := by omega
  have m1 := (md_bounds y m).2
  have h3 : 1 ≤ m := by omega
  have h4 : m ≤ 12 := by omega
  have hm' : Hid (m = (k : Int) + 1) := hm
  have hyy : Hid (2000 ≤ y ∧ y ≤ 2399) := ⟨h1, h2⟩
  obtain ⟨ky, hky⟩ : ∃ ky : Nat, Hid (y = 2000 + (ky : Int)) := ⟨(y - 2000).toNat, by show _ = _; omega⟩
  have hNY : Hid (ny y = ny y) := rfl
  clear hm n1
  generalize hNE : ny y = NY at *
  have hNE' : Hid (ny y = NY) := hNE
  clear hNE hNY
  generalize md y m = R at *
  go_enter Tryd.func10, Tryd.ntmps10
  go_wp2_with (go_at_call 17; with_reducible refine hc.mono ?_; rintro e w' ⟨rfl, rfl⟩)
  go_loopg [8, 9] ky (fun gk s i wr => ∃ (S I : Int), Hid (I + (gk : Int) = y) ∧ Hid (2000 ≤ I) ∧ s = .int .i64 S ∧ i = .int .i64 I ∧ Hid (S = ny I) ∧ w = wr)
  case atStart => exact ⟨_, _, by have := hky.out; show _ = _; omega, by show _ ≤ _; omega, rfl, rfl, by show _ = _; exact ny_first.symm, rfl⟩
  case round =>
    obtain ⟨S, I, hj, hI0, rfl, rfl, hS, rfl⟩ := hrel
    have b0 := ny_low I hI0.out
    have b1 : 0 ≤ S := by have := hS.out; have := hI0.out; omega
    have b2 : S ≤ 160000 := by have := hS.out; have := hyy.out; have := hj.out; omega
    have b5 : 2000 ≤ I := hI0.out
    have b6 : I ≤ 2399 := by have := hyy.out; have := hj.out; omega
    clear b0
    by_cases hlt : 0 < gk
    · have hI1 : I < y := by have := hj.out; omega
      have hl := leap_any I w (by omega) (by omega)
      have hS2 : Hid (S + yl I = ny (I + 1)) := by
        show _ = _
        rw [ny_succ I (by omega)]; have := hS.out; omega
      have hj2 : Hid (I + 1 + ((gk - 1 : Nat) : Int) = y) := by show _ = _; have := hj.out; omega
      cases hb : lp I with
      | true =>
        rw [hb] at hl
        have e : yl I = 366 := by simp [yl, hb]
        rw [e] at hS2
        clear hb e
        go_wp2_with (go_at_call 18; with_reducible refine hl.mono ?_; rintro e w' ⟨rfl, rfl⟩)
        go_roundg (gk - 1)
        case measure => go_light; omega
        case rel => exact ⟨_, _, hj2, by show _ ≤ _; omega, rfl, rfl, by have := hS2.out; show _ = _; omega, rfl⟩
      | false =>
        rw [hb] at hl
        have e : yl I = 365 := by simp [yl, hb]
        rw [e] at hS2
        clear hb e
        go_wp2_with (go_at_call 18; with_reducible refine hl.mono ?_; rintro e w' ⟨rfl, rfl⟩)
        go_roundg (gk - 1)
        case measure => go_light; omega
        case rel => exact ⟨_, _, hj2, by show _ ≤ _; omega, rfl, rfl, by have := hS2.out; show _ = _; omega, rfl⟩
    · have hI1 : ¬ I < y := by have := hj.out; omega
      have hfin : Hid (S = NY) := by
        have h9 : I = y := by have := hj.out; omega
        have := hS.out; show _ = _; rw [this, h9, hNE'.out]
      have hT2 : Hid (0 ≤ NY) := n2
      go_wp2
      go_loopg [8, 10] k (fun gk s i wr => ∃ (j : Nat) (S I : Int), j + gk = k ∧ s = .int .i64 S ∧ i = .int .i64 I ∧ Hid (I = (j : Int) + 1) ∧ Hid (S = NY + sm y j) ∧ w = wr)
      case atStart => exact ⟨0, _, _, by omega, rfl, rfl, rfl, by have := hfin.out; show _ = _; simp [sm, this], rfl⟩
      case round =>
        obtain ⟨j, S', I', hj', rfl, rfl, hI', hS', rfl⟩ := hrel
        have s1 := sm_low y j
        have c1 : 0 ≤ S' := by have := hS'.out; omega
        have c2 : S' ≤ 160000 := by have := hS'.out; omega
        clear s1
        by_cases hlt' : j < k
        · have hI1' : I' < m := by have := hI'.out; have := hm'.out; omega
          have hI2' : 1 ≤ I' := by have := hI'.out; omega
          have hc2 := refMonth_any y I' w (by have := hyy.out; omega) (by have := hyy.out; omega)
          have b3 := (md_bounds y I').1
          have b4 := (md_bounds y I').2
          have hS2 : Hid (S' + md y I' = NY + sm y (j + 1)) := by
            show _ = _
            simp only [sm]; rw [← hI'.out]; have := hS'.out; omega
          generalize md y I' = R2 at *
          go_wp2_with (go_at_call 17; with_reducible refine hc2.mono ?_; rintro e w' ⟨rfl, rfl⟩)
          go_roundg (gk - 1)
          case measure => go_light; omega
          case rel => exact ⟨j + 1, _, _, by omega, rfl, rfl, by have := hI'.out; show _ = _; omega, hS2, rfl⟩
        · obtain rfl : j = k := by omega
          have hI1' : ¬ I' < m := by have := hI'.out; have := hm'.out; omega
          have hfin' : Hid (S' + d - 1 = NY + sm y j + d - 1) := by have := hS'.out; show _ = _; omega
          go_wp2
          go_ret2
          exact ⟨ret_ii hfin'.out, rfl⟩
end Go.Proofs.YtifmlibdnnaoiaaDoor
