import Derived.Test.YtkeoebllblbkgaaGreatDoorCaB
import Derived.Test.YtkeoebllblbkgaaGreatDoorTbB
namespace Go.Proofs.YtkeoebllblbkgaaGreatDoor
open Go.RowKit
set_option linter.unusedVariables false
set_option linter.unusedSimpArgs false

theorem results_tmp4 {fn : Func} {t u v x : Tmp} (h : fn.results = #[.tmp t, .tmp u, .tmp v, .tmp x]) (tmps : Array Value) (P : Program) (w : World) :
    (results fn tmps).run P w = .ok (.tuple #[tmps.getD t undef, tmps.getD u undef, tmps.getD v undef, tmps.getD x undef]) w := by
  simp [results, h]
/-- What a Date answers for a day of the calendar. -/
def DateP (n : Int) (e : Ending) : Prop := ∃ (y : Int) (k : Nat) (m d : Int), e = .returned (.tuple #[.int .i64 y, .int .i64 m, .int .i64 d, .int .i64 0]) ∧ m = (k : Int) + 1 ∧ Dt n y k d
set_option maxRecDepth 100000 in
theorem date_ok (n : Int) (w : World) (h0 : 0 ≤ n) (h1 : n ≤ 146096) (hT : Mt w) : Calls Tryz.prog 42 #[.int .i64 n] w fun e w' => DateP n e ∧ w = w' := by
  have hd := isDay_any n w
  have hb : dayB n = true := by simp [dayB, inB, h0, h1]
  rw [hb] at hd
  clear hb
  have hT' : Hid (Mt w) := hT
  clear hT
  go_enter Tryz.func42, Tryz.ntmps42
  go_wp2_with (go_at_call 62; with_reducible refine hd.mono ?_; rintro e w' ⟨rfl, rfl⟩)
  clear hd
  go_loopg [6] (400 - n / 366).toNat (fun gk s wr => ∃ (Y : Int), Hid (Y + (gk : Int) = 2400) ∧ Hid (2000 ≤ Y ∧ Y ≤ 2399 ∧ ny Y ≤ n) ∧ s = .int .i64 Y ∧ w = wr)
  case atStart =>
    have a1 := ny_low (2000 + n / 366) (by omega)
    exact ⟨_, by show _ = _; omega, ⟨by omega, by omega, by omega⟩, rfl, rfl⟩
  case round =>
    obtain ⟨Y, hY, hYY, rfl, rfl⟩ := hrel
    have y0 := hYY.out.1
    have y1 := hYY.out.2.1
    have hn1 := newYear_any (Y + 1) w (by omega) (by omega)
    have hn2 := newYear_any Y w (by omega) (by omega)
    have hs := ny_succ Y y0
    have hl := yl_bounds Y
    have c1 := ny_low Y y0
    have c2 : 0 ≤ ny Y := by omega
    have c3 := ny_low (Y + 1) (by omega)
    have c4 : 0 ≤ ny (Y + 1) := by omega
    have c5 := hYY.out.2.2
    by_cases hlt : ny (Y + 1) ≤ n
    · have hYY2 : Hid (2000 ≤ Y + 1 ∧ Y + 1 ≤ 2399 ∧ ny (Y + 1) ≤ n) := by
        refine ⟨by omega, ?_, hlt⟩
        rcases Int.lt_or_le Y 2399 with h9 | h9
        · omega
        · exfalso
          obtain rfl : Y = 2399 := by omega
          have := ny_last
          simp only [show (2399 : Int) + 1 = 2400 from rfl] at hlt
          omega
      clear c1 c3 hs hl hn2 c5 c2
      go_wp2_with (go_at_call 80; with_reducible refine hn1.mono ?_; rintro e w' ⟨rfl, rfl⟩)
      go_roundg (gk - 1)
      case measure => go_light; have := hY.out; omega
      case rel => exact ⟨_, by have := hY.out; show _ = _; omega, hYY2, rfl, rfl⟩
    · have hYn : Hid (n < ny (Y + 1)) := by show _ < _; omega
      have hYY2 : Hid (2000 ≤ Y ∧ Y ≤ 2399) := ⟨y0, y1⟩
      have hq : Hid (n - ny Y = n - ny Y - sm Y 0) := by show _ = _; simp [sm]
      have q1 : ny Y ≤ 146096 := by omega
      have q2 : ny (Y + 1) ≤ 146463 := by omega
      have q3 : Hid (0 ≤ n - ny Y ∧ n - ny Y ≤ 146096) := by constructor <;> omega
      clear c1 c3 hs hl hYY
      go_wp2_with (go_at_call 80; first | (with_reducible refine hn1.mono ?_; rintro e w' ⟨rfl, rfl⟩) | (with_reducible refine hn2.mono ?_; rintro e w' ⟨rfl, rfl⟩))
      clear hn1 hn2
      go_loopg [0, 7] 12 (fun gk r i wr => ∃ (j : Nat) (R I : Int), j + gk = 12 ∧ 0 < gk ∧ r = .int .i64 R ∧ i = .int .i64 I ∧ Hid (I = (j : Int) + 1) ∧ Hid (R = n - ny Y - sm Y j) ∧ 0 ≤ R ∧ R ≤ 146096 ∧ w = wr)
      case atStart => exact ⟨0, _, _, by omega, by omega, rfl, rfl, rfl, hq, q3.out.1, q3.out.2, rfl⟩
      case round =>
        obtain ⟨j, R, I, hj, hg, rfl, rfl, hI, hR, r0, r1, rfl⟩ := hrel
        have hm := daysOf_any Y I j w (by have := hYY2.out; omega) (by have := hYY2.out; omega) hI.out (by omega) hT'.out
        have b3 := (md_bounds Y I).1
        have b4 := (md_bounds Y I).2
        have hI1 : 1 ≤ I := by have := hI.out; omega
        have hI2 : I ≤ 12 := by have := hI.out; omega
        have hE : Hid (sm Y (j + 1) = sm Y j + md Y I) := by show _ = _; simp only [sm]; rw [← hI.out]
        have hE2 : Hid (md Y I = md Y ((j : Int) + 1)) := by show _ = _; rw [← hI.out]
        generalize md Y I = M at *
        by_cases hlt : M ≤ R
        · have hgk : 0 < gk - 1 := by
            rcases Nat.lt_or_ge 1 gk with h9 | h9
            · omega
            · exfalso
              obtain rfl : j = 11 := by omega
              have a1 := hE.out; have a2 := hR.out; have a3 := sm_year Y; have a4 := ny_succ Y hYY2.out.1; have a5 := hYn.out
              simp only [Nat.reduceAdd] at a1
              omega
          have hR2 : Hid (R - M = n - ny Y - sm Y (j + 1)) := by show _ = _; have := hE.out; have := hR.out; omega
          go_wp2_with (go_at_call 81; with_reducible refine hm.mono ?_; rintro e w' ⟨rfl, rfl⟩)
          go_roundg (gk - 1)
          case measure => go_light; omega
          case rel => exact ⟨j + 1, _, _, by omega, hgk, rfl, rfl, by have := hI.out; show _ = _; omega, hR2, by omega, by omega, rfl⟩
        · have hD : Hid (Dt n Y j (R + 1)) := by
            show Dt _ _ _ _
            have a1 := hR.out; have a2 := hE2.out
            exact ⟨hYY2.out.1, hYY2.out.2, by omega, by omega, by omega, by omega⟩
          go_wp2_with (go_at_call 81; with_reducible refine hm.mono ?_; rintro e w' ⟨rfl, rfl⟩)
          (try simp only [Exit.inBlock, Exit.then]); refine bodyPost_ret (results_tmp4 rfl _ _ _) rfl ?_
          exact ⟨⟨_, j, _, _, rfl, hI.out, hD.out⟩, rfl⟩
set_option maxRecDepth 100000 in
theorem refDate_ok (n : Int) (w : World) (h0 : 0 ≤ n) (h1 : n ≤ 146096) : Calls Tryz.prog 44 #[.int .i64 n] w fun e w' => DateP n e ∧ w = w' := by
  go_enter Tryz.func44, Tryz.ntmps44
  go_wp2
  go_loopg [0, 6, 7] 400 (fun gk r s v wr => ∃ (Y R : Int), Hid (Y + (gk : Int) = 2400) ∧ Hid (2000 ≤ Y ∧ Y ≤ 2399) ∧ s = .int .i64 Y ∧ r = .int .i64 R ∧ Hid (R = n - ny Y) ∧ 0 ≤ R ∧ R ≤ 146096 ∧ w = wr)
  case atStart => exact ⟨2000, _, (by show _ = _; rfl), ⟨by omega, by omega⟩, rfl, rfl, by show _ = _; rw [ny_first]; omega, by omega, by omega, rfl⟩
  case round =>
    obtain ⟨Y, R, hY, hYY2, rfl, rfl, hR, r0, r1, rfl⟩ := hrel
    have y0 := hYY2.out.1
    have y1 := hYY2.out.2
    have hl := leap_any Y w (by omega) (by omega)
    have hs : Hid (ny (Y + 1) = ny Y + yl Y) := ny_succ Y y0
    have step : ∀ L : Int, yl Y = L → 365 ≤ L → L ≤ 366 → Hid (L ≤ R → Y + 1 ≤ 2399 ∧ R - L = n - ny (Y + 1)) := by
      intro L hL _ _ hle
      have a1 := hs.out; have a2 := hR.out
      refine ⟨?_, by omega⟩
      rcases Int.lt_or_le Y 2399 with h9 | h9
      · omega
      · exfalso
        obtain rfl : Y = 2399 := by omega
        have := ny_last
        simp only [show (2399 : Int) + 1 = 2400 from rfl] at a1
        omega
    have fin : ∀ L : Int, yl Y = L → Hid (R < L → n < ny (Y + 1)) := by
      intro L hL hle
      have a1 := hs.out; have a2 := hR.out
      omega
    have hq : Hid (R = n - ny Y - sm Y 0) := by have := hR.out; show _ = _; simp [sm]; omega
    cases hb : lp Y with
    | true =>
      rw [hb] at hl
      have e : yl Y = 366 := by simp [yl, hb]
      have st := step _ e (by omega) (by omega)
      have fi := fin _ e
      clear hb e step fin
      by_cases hlt : 366 ≤ R
      · have q := st.out hlt
        have hYY3 : Hid (2000 ≤ Y + 1 ∧ Y + 1 ≤ 2399) := ⟨by omega, q.1⟩
        have hR3 : Hid (R - 366 = n - ny (Y + 1)) := q.2
        clear q
        go_wp2_with (go_at_call 82; with_reducible refine hl.mono ?_; rintro e w' ⟨rfl, rfl⟩)
        go_roundg (gk - 1)
        case measure => go_light; have := hY.out; omega
        case rel => exact ⟨_, _, by have := hY.out; show _ = _; omega, hYY3, rfl, rfl, hR3, by omega, by omega, rfl⟩
      · have hYn : Hid (n < ny (Y + 1)) := fi.out (by omega)
        go_wp2_with (go_at_call 82; with_reducible refine hl.mono ?_; rintro e w' ⟨rfl, rfl⟩)
        clear hl
        go_loopg [0, 8] 12 (fun gk r i wr => ∃ (j : Nat) (R I : Int), j + gk = 12 ∧ 0 < gk ∧ r = .int .i64 R ∧ i = .int .i64 I ∧ Hid (I = (j : Int) + 1) ∧ Hid (R = n - ny Y - sm Y j) ∧ 0 ≤ R ∧ R ≤ 146096 ∧ w = wr)
        case atStart => exact ⟨0, _, _, by omega, by omega, rfl, rfl, rfl, hq, r0, r1, rfl⟩
        case round =>
          obtain ⟨j, R, I, hj, hg, rfl, rfl, hI, hR, r0, r1, rfl⟩ := hrel
          have hm := refMonth_any Y I w (by have := hYY2.out; omega) (by have := hYY2.out; omega)
          have b3 := (md_bounds Y I).1
          have b4 := (md_bounds Y I).2
          have hI1 : 1 ≤ I := by have := hI.out; omega
          have hI2 : I ≤ 12 := by have := hI.out; omega
          have hE : Hid (sm Y (j + 1) = sm Y j + md Y I) := by show _ = _; simp only [sm]; rw [← hI.out]
          have hE2 : Hid (md Y I = md Y ((j : Int) + 1)) := by show _ = _; rw [← hI.out]
          generalize md Y I = M at *
          by_cases hlt : M ≤ R
          · have hgk : 0 < gk - 1 := by
              rcases Nat.lt_or_ge 1 gk with h9 | h9
              · omega
              · exfalso
                obtain rfl : j = 11 := by omega
                have a1 := hE.out; have a2 := hR.out; have a3 := sm_year Y; have a4 := ny_succ Y hYY2.out.1; have a5 := hYn.out
                simp only [Nat.reduceAdd] at a1
                omega
            have hR2 : Hid (R - M = n - ny Y - sm Y (j + 1)) := by show _ = _; have := hE.out; have := hR.out; omega
            go_wp2_with (go_at_call 83; with_reducible refine hm.mono ?_; rintro e w' ⟨rfl, rfl⟩)
            go_roundg (gk - 1)
            case measure => go_light; omega
            case rel => exact ⟨j + 1, _, _, by omega, hgk, rfl, rfl, by have := hI.out; show _ = _; omega, hR2, by omega, by omega, rfl⟩
          · have hD : Hid (Dt n Y j (R + 1)) := by
              show Dt _ _ _ _
              have a1 := hR.out; have a2 := hE2.out
              exact ⟨hYY2.out.1, hYY2.out.2, by omega, by omega, by omega, by omega⟩
            go_wp2_with (go_at_call 83; with_reducible refine hm.mono ?_; rintro e w' ⟨rfl, rfl⟩)
            (try simp only [Exit.inBlock, Exit.then]); refine bodyPost_ret (results_tmp4 rfl _ _ _) rfl ?_
            exact ⟨⟨_, j, _, _, rfl, hI.out, hD.out⟩, rfl⟩
    | false =>
      rw [hb] at hl
      have e : yl Y = 365 := by simp [yl, hb]
      have st := step _ e (by omega) (by omega)
      have fi := fin _ e
      clear hb e step fin
      by_cases hlt : 365 ≤ R
      · have q := st.out hlt
        have hYY3 : Hid (2000 ≤ Y + 1 ∧ Y + 1 ≤ 2399) := ⟨by omega, q.1⟩
        have hR3 : Hid (R - 365 = n - ny (Y + 1)) := q.2
        clear q
        go_wp2_with (go_at_call 82; with_reducible refine hl.mono ?_; rintro e w' ⟨rfl, rfl⟩)
        go_roundg (gk - 1)
        case measure => go_light; have := hY.out; omega
        case rel => exact ⟨_, _, by have := hY.out; show _ = _; omega, hYY3, rfl, rfl, hR3, by omega, by omega, rfl⟩
      · have hYn : Hid (n < ny (Y + 1)) := fi.out (by omega)
        go_wp2_with (go_at_call 82; with_reducible refine hl.mono ?_; rintro e w' ⟨rfl, rfl⟩)
        clear hl
        go_loopg [0, 8] 12 (fun gk r i wr => ∃ (j : Nat) (R I : Int), j + gk = 12 ∧ 0 < gk ∧ r = .int .i64 R ∧ i = .int .i64 I ∧ Hid (I = (j : Int) + 1) ∧ Hid (R = n - ny Y - sm Y j) ∧ 0 ≤ R ∧ R ≤ 146096 ∧ w = wr)
        case atStart => exact ⟨0, _, _, by omega, by omega, rfl, rfl, rfl, hq, r0, r1, rfl⟩
        case round =>
          obtain ⟨j, R, I, hj, hg, rfl, rfl, hI, hR, r0, r1, rfl⟩ := hrel
          have hm := refMonth_any Y I w (by have := hYY2.out; omega) (by have := hYY2.out; omega)
          have b3 := (md_bounds Y I).1
          have b4 := (md_bounds Y I).2
          have hI1 : 1 ≤ I := by have := hI.out; omega
          have hI2 : I ≤ 12 := by have := hI.out; omega
          have hE : Hid (sm Y (j + 1) = sm Y j + md Y I) := by show _ = _; simp only [sm]; rw [← hI.out]
          have hE2 : Hid (md Y I = md Y ((j : Int) + 1)) := by show _ = _; rw [← hI.out]
          generalize md Y I = M at *
          by_cases hlt : M ≤ R
          · have hgk : 0 < gk - 1 := by
              rcases Nat.lt_or_ge 1 gk with h9 | h9
              · omega
              · exfalso
                obtain rfl : j = 11 := by omega
                have a1 := hE.out; have a2 := hR.out; have a3 := sm_year Y; have a4 := ny_succ Y hYY2.out.1; have a5 := hYn.out
                simp only [Nat.reduceAdd] at a1
                omega
            have hR2 : Hid (R - M = n - ny Y - sm Y (j + 1)) := by show _ = _; have := hE.out; have := hR.out; omega
            go_wp2_with (go_at_call 83; with_reducible refine hm.mono ?_; rintro e w' ⟨rfl, rfl⟩)
            go_roundg (gk - 1)
            case measure => go_light; omega
            case rel => exact ⟨j + 1, _, _, by omega, hgk, rfl, rfl, by have := hI.out; show _ = _; omega, hR2, by omega, by omega, rfl⟩
          · have hD : Hid (Dt n Y j (R + 1)) := by
              show Dt _ _ _ _
              have a1 := hR.out; have a2 := hE2.out
              exact ⟨hYY2.out.1, hYY2.out.2, by omega, by omega, by omega, by omega⟩
            go_wp2_with (go_at_call 83; with_reducible refine hm.mono ?_; rintro e w' ⟨rfl, rfl⟩)
            (try simp only [Exit.inBlock, Exit.then]); refine bodyPost_ret (results_tmp4 rfl _ _ _) rfl ?_
            exact ⟨⟨_, j, _, _, rfl, hI.out, hD.out⟩, rfl⟩
end Go.Proofs.YtkeoebllblbkgaaGreatDoor
