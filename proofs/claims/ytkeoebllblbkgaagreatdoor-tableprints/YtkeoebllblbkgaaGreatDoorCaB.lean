import Derived.Test.YtkeoebllblbkgaaGreatDoorHas
namespace Go.Proofs.YtkeoebllblbkgaaGreatDoor
open Go.RowKit
set_option linter.unusedVariables false
set_option linter.unusedSimpArgs false

/-- Has a year 366 days? -/
def lp (y : Int) : Bool := (y % 4 == 0 && y % 100 != 0) || y % 400 == 0
/-- The days of a month. -/
def md (y m : Int) : Int := if m = 2 then (if lp y = true then 29 else 28) else if m = 4 ∨ m = 6 ∨ m = 9 ∨ m = 11 then 30 else 31
/-- The number of a year's first day. -/
def ny (y : Int) : Int := 365 * (y - 2000) + (y - 2000 + 3) / 4 - (y - 2000 + 99) / 100 + (y - 2000 + 399) / 400
/-- The days of a year. -/
def yl (y : Int) : Int := if lp y = true then 366 else 365
/-- The days of the first k months. -/
def sm (y : Int) : Nat → Int
  | 0 => 0
  | k + 1 => sm y k + md y ((k : Int) + 1)
theorem lp_iff (y : Int) : lp y = true ↔ (y % 4 = 0 ∧ y % 100 ≠ 0) ∨ y % 400 = 0 := by
  simp [lp]
theorem ny_succ (y : Int) (h : 2000 ≤ y) : ny (y + 1) = ny y + yl y := by
  have hl := lp_iff y
  unfold yl ny
  by_cases e : lp y = true
  · rw [if_pos e]
    rw [hl] at e
    omega
  · rw [if_neg e]
    rw [hl] at e
    omega
theorem ny_first : ny 2000 = 0 := by decide
theorem ny_last : ny 2400 = 146097 := by decide
theorem yl_bounds (y : Int) : 365 ≤ yl y ∧ yl y ≤ 366 := by
  unfold yl; split <;> omega
theorem ny_low (y : Int) (h : 2000 ≤ y) : 365 * (y - 2000) ≤ ny y ∧ ny y ≤ 366 * (y - 2000) := by
  unfold ny; omega
theorem ny_mono (a b : Int) (h : 2000 ≤ a) (hb : a ≤ b) : ny a ≤ ny b := by
  unfold ny; omega
theorem md_bounds (y m : Int) : 28 ≤ md y m ∧ md y m ≤ 31 := by
  unfold md
  split
  · split <;> omega
  · split <;> omega
theorem sm_year (y : Int) : sm y 12 = yl y := by
  unfold yl
  by_cases e : lp y = true
  · simp [sm, md, e]
  · simp [sm, md, e]
theorem sm_mono (y : Int) (a b : Nat) (h : a ≤ b) : sm y a ≤ sm y b := by
  induction h with
  | refl => exact Int.le_refl _
  | @step k h ih => have := (md_bounds y ((k : Int) + 1)).1; simp only [sm]; omega
theorem sm_low (y : Int) (k : Nat) : 28 * (k : Int) ≤ sm y k ∧ sm y k ≤ 31 * (k : Int) := by
  induction k with
  | zero => simp [sm]
  | succ k ih => have := md_bounds y ((k : Int) + 1); simp only [sm]; omega
/-- This is the date of day n. -/
structure Dt (n y : Int) (k : Nat) (d : Int) : Prop where
  y0 : 2000 ≤ y
  y1 : y ≤ 2399
  k1 : k < 12
  d0 : 1 ≤ d
  d1 : d ≤ md y ((k : Int) + 1)
  e : n = ny y + sm y k + d - 1
theorem Dt.year {n y d : Int} {k : Nat} (h : Dt n y k d) : ny y ≤ n ∧ n < ny (y + 1) := by
  have h1 := sm_mono y (k + 1) 12 (by have := h.k1; omega)
  rw [sm_year] at h1
  have h2 := ny_succ y h.y0
  have h3 := h.e; have h4 := h.d0; have h5 := h.d1
  have h6 := (sm_low y k).1
  simp only [sm] at h1
  omega
theorem Dt.uniq {n y y' d d' : Int} {k k' : Nat} (h : Dt n y k d) (h' : Dt n y' k' d') : y = y' ∧ k = k' ∧ d = d' := by
  have a := h.year
  have b := h'.year
  have ey : y = y' := by
    rcases Int.lt_trichotomy y y' with hlt | he | hgt
    · have := ny_mono (y + 1) y' (by have := h.y0; omega) (by omega); omega
    · exact he
    · have := ny_mono (y' + 1) y (by have := h'.y0; omega) (by omega); omega
  subst ey
  have e1 := h.e; have e2 := h'.e; have e3 := h.d0; have e4 := h.d1; have e5 := h'.d0; have e6 := h'.d1
  have ek : k = k' := by
    rcases Nat.lt_trichotomy k k' with hlt | he | hgt
    · have := sm_mono y (k + 1) k' hlt; simp only [sm] at this; omega
    · exact he
    · have := sm_mono y (k' + 1) k hgt; simp only [sm] at this; omega
  subst ek
  exact ⟨rfl, rfl, by omega⟩
theorem Dt.range {n y d : Int} {k : Nat} (h : Dt n y k d) : 0 ≤ n ∧ n ≤ 146096 := by
  have a := h.year
  have b := ny_low y h.y0
  have c := ny_mono (y + 1) 2400 (by have := h.y0; omega) (by have := h.y1; omega)
  rw [ny_last] at c
  have := h.y0
  omega
/-- The day behind it. -/
theorem Dt.next {n y d : Int} {k : Nat} (h : Dt n y k d) (hn : n < 146096) :
    (d + 1 ≤ md y ((k : Int) + 1) → Dt (n + 1) y k (d + 1)) ∧ (md y ((k : Int) + 1) < d + 1 → k + 1 < 12 → Dt (n + 1) y (k + 1) 1) ∧ (md y ((k : Int) + 1) < d + 1 → k + 1 = 12 → Dt (n + 1) (y + 1) 0 1) := by
  have e1 := h.e; have e3 := h.d0; have e4 := h.d1; have e5 := h.y0; have e6 := h.y1; have e7 := h.k1
  refine ⟨fun h1 => ⟨e5, e6, e7, by omega, h1, by omega⟩, fun h1 h2 => ⟨e5, e6, h2, by omega, by have := md_bounds y (((k + 1 : Nat) : Int) + 1); omega, by simp only [sm]; omega⟩, fun h1 h2 => ?_⟩
  have h3 := sm_year y
  have hk : k = 11 := by omega
  subst hk
  have h4 := ny_succ y e5
  have h5 : sm y 12 = sm y 11 + md y ((11 : Nat) + 1 : Int) := rfl
  have hy : y + 1 ≤ 2399 := by
    rcases Int.lt_or_le y 2399 with h6 | h6
    · omega
    · have : y = 2399 := by omega
      subst this
      have := ny_last
      simp only [show (2399 : Int) + 1 = 2400 from rfl] at h4
      omega
  refine ⟨by omega, hy, by omega, by omega, by have := md_bounds (y + 1) (((0 : Nat) : Int) + 1); omega, ?_⟩
  simp only [sm]
  omega
set_option maxRecDepth 100000 in
theorem newYear_any (y : Int) (w : World) (h0 : 2000 ≤ y) (h1 : y ≤ 2400) : Calls Tryz.prog 80 #[.int .i64 y] w fun e w' => e = .returned (.int .i64 (ny y)) ∧ w = w' := by
  unfold ny
  go_enter Tryz.func80, Tryz.ntmps80
  go_wp2
  go_ret
  exact ⟨rfl, rfl⟩
theorem lp_cases (y : Int) : ∃ a b c : Bool, (y % 4 == 0) = a ∧ (y % 100 == 0) = b ∧ (y % 400 == 0) = c ∧ lp y = (a && !b || c) ∧ (a = false → c = false) := by
  refine ⟨_, _, _, rfl, rfl, rfl, rfl, fun h => ?_⟩
  have h1 : y % 4 ≠ 0 := by simpa using h
  have h2 : y % 400 ≠ 0 := by omega
  simpa using h2
set_option maxRecDepth 100000 in
theorem isLeap_any (y : Int) (w : World) (h0 : 0 ≤ y) (h1 : y ≤ 10000) : Calls Tryz.prog 101 #[.int .i64 y] w fun e w' => e = .returned (.bool (lp y)) ∧ w = w' := by
  obtain ⟨a, b, c, ha, hb, hc, he, hi⟩ := lp_cases y
  rw [he]
  have hb' : (y % 100 != 0) = !b := by rw [← hb]; rfl
  cases a <;> cases b <;> cases c <;>
  ( clear he hi
    go_enter Tryz.func101, Tryz.ntmps101
    go_wp2
    go_ret
    exact ⟨rfl, rfl⟩)
set_option maxRecDepth 100000 in
theorem leap_any (y : Int) (w : World) (h0 : 0 ≤ y) (h1 : y ≤ 10000) : Calls Tryz.prog 82 #[.int .i64 y] w fun e w' => e = .returned (.bool (lp y)) ∧ w = w' := by
  obtain ⟨a, b, c, ha, hb, hc, he, hi⟩ := lp_cases y
  rw [he]
  have hb' : (y % 100 != 0) = !b := by rw [← hb]; rfl
  cases a <;> cases b <;> cases c <;> first | (exact absurd (hi rfl) (by decide)) |
  ( clear he hi
    go_enter Tryz.func82, Tryz.ntmps82
    go_wp2
    go_ret
    exact ⟨rfl, rfl⟩)
/-- The table of months stands in its block. -/
def mdl : List Int := [31, 28, 31, 30, 31, 30, 31, 31, 30, 31, 30, 31]
def Mt (w : World) : Prop := ∀ i : Nat, i < 12 → w.cell? ⟨0, i, none⟩ = some (.int .i64 (mdl.getD i 0))
theorem md_tab (y : Int) (k : Nat) (hk : k < 12) (h : ¬ (k = 1 ∧ lp y = true)) : mdl.getD k 0 = md y ((k : Int) + 1) := by
  rcases (show k = 0 ∨ k = 1 ∨ k = 2 ∨ k = 3 ∨ k = 4 ∨ k = 5 ∨ k = 6 ∨ k = 7 ∨ k = 8 ∨ k = 9 ∨ k = 10 ∨ k = 11 by omega) with rfl | rfl | rfl | rfl | rfl | rfl | rfl | rfl | rfl | rfl | rfl | rfl <;> simp_all [md, mdl]
set_option maxRecDepth 100000 in
theorem daysOf_any (y m : Int) (k : Nat) (w : World) (h0 : 0 ≤ y) (h1 : y ≤ 10000) (hm : m = (k : Int) + 1) (hk : k < 12) (hT : Mt w) : Calls Tryz.prog 81 #[.int .i64 y, .int .i64 m] w fun e w' => e = .returned (.int .i64 (md y m)) ∧ w = w' := by
  have hc := hT k hk
  have hl := isLeap_any y w h0 h1
  have ht := md_tab y k hk
  rw [← hm] at ht
  have hm0 : Hid (m = (k : Int) + 1) := hm
  have q : m - 1 = (k : Int) := by omega
  have q0 : (0 : Int) ≤ (k : Int) := by omega
  have q1 : (k : Int) < 12 := by omega
  clear hm hT
  cases hb : lp y with
  | true =>
    rw [hb] at hl
    by_cases h2 : m = 2
    · have e : md y m = 29 := by simp [md, h2, hb]
      rw [e]
      clear ht e hb q
      have h2' : (m == 2) = true := by simp [h2]
      clear h2
      go_enter Tryz.func81, Tryz.ntmps81
      go_wp2_with (go_at_call 101; with_reducible refine hl.mono ?_; rintro e w' ⟨rfl, rfl⟩)
      go_ret
      exact ⟨rfl, rfl⟩
    · rw [ht (by have := hm0.out; omega)] at hc
      have h2' : (m == 2) = false := by simp [h2]
      clear ht hb
      generalize md y m = R at *
      go_enter Tryz.func81, Tryz.ntmps81
      go_wp2
      go_ret
      exact ⟨rfl, rfl⟩
  | false =>
    rw [hb] at hl
    rw [ht (by simp [hb])] at hc
    clear ht hb
    generalize md y m = R at *
    by_cases h2 : m = 2
    · have h2' : (m == 2) = true := by simp [h2]
      clear h2
      go_enter Tryz.func81, Tryz.ntmps81
      go_wp2_with (go_at_call 101; with_reducible refine hl.mono ?_; rintro e w' ⟨rfl, rfl⟩)
      go_ret
      exact ⟨rfl, rfl⟩
    · have h2' : (m == 2) = false := by simp [h2]
      go_enter Tryz.func81, Tryz.ntmps81
      go_wp2
      go_ret
      exact ⟨rfl, rfl⟩
set_option maxRecDepth 100000 in
theorem refMonth_any (y m : Int) (w : World) (h0 : 0 ≤ y) (h1 : y ≤ 10000) : Calls Tryz.prog 83 #[.int .i64 y, .int .i64 m] w fun e w' => e = .returned (.int .i64 (md y m)) ∧ w = w' := by
  have hl := leap_any y w h0 h1
  by_cases h2 : m = 2
  · have h2' : (m == 2) = true := by simp [h2]
    cases hb : lp y with
    | true =>
      rw [hb] at hl
      have e : md y m = 29 := by simp [md, h2, hb]
      rw [e]
      clear hb e h2
      go_enter Tryz.func83, Tryz.ntmps83
      go_wp2_with (go_at_call 82; with_reducible refine hl.mono ?_; rintro e w' ⟨rfl, rfl⟩)
      go_ret
      exact ⟨rfl, rfl⟩
    | false =>
      rw [hb] at hl
      have e : md y m = 28 := by simp [md, h2, hb]
      rw [e]
      clear hb e h2
      go_enter Tryz.func83, Tryz.ntmps83
      go_wp2_with (go_at_call 82; with_reducible refine hl.mono ?_; rintro e w' ⟨rfl, rfl⟩)
      go_ret
      exact ⟨rfl, rfl⟩
  · have h2' : (m == 2) = false := by simp [h2]
    by_cases h3 : m = 4 ∨ m = 6 ∨ m = 9 ∨ m = 11
    · have e : md y m = 30 := by simp [md, h2, h3]
      rw [e]
      have q : (m == 4) = true ∨ (m == 4) = false ∧ (m == 6) = true ∨ (m == 4) = false ∧ (m == 6) = false ∧ (m == 9) = true ∨ (m == 4) = false ∧ (m == 6) = false ∧ (m == 9) = false ∧ (m == 11) = true := by
        simp only [beq_iff_eq, beq_eq_false_iff_ne]; omega
      clear e h3 h2
      rcases q with q | ⟨q1, q⟩ | ⟨q1, q2, q⟩ | ⟨q1, q2, q3, q⟩ <;>
      ( go_enter Tryz.func83, Tryz.ntmps83
        go_wp2
        go_ret
        exact ⟨rfl, rfl⟩)
    · have e : md y m = 31 := by simp only [md, if_neg h2, if_neg h3]
      rw [e]
      have q : (m == 4) = false ∧ (m == 6) = false ∧ (m == 9) = false ∧ (m == 11) = false := by
        simp only [beq_eq_false_iff_ne]; omega
      obtain ⟨q1, q2, q3, q4⟩ := q
      clear e h3 h2
      go_enter Tryz.func83, Tryz.ntmps83
      go_wp2
      go_ret
      exact ⟨rfl, rfl⟩
end Go.Proofs.YtkeoebllblbkgaaGreatDoor
