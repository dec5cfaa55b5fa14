import Derived.Test.YtifmlibdnnaoiaaDoorCaM
namespace Go.Proofs.YtifmlibdnnaoiaaDoor
open Go.RowKit
set_option linter.unusedVariables false

def dayB (n : Int) : Bool := decide (0 ≤ n) && decide (n ≤ 146096)
set_option maxRecDepth 100000 in
theorem isDay_any (n : Int) (w : World) : Calls Tryd.prog 13 #[.int .i64 n] w fun e w' => e = .returned (.bool (dayB n)) ∧ w = w' := by
  by_cases h0 : 0 ≤ n
  · have e : dayB n = decide (n ≤ 146096) := by simp [dayB, h0]
    rw [e]
    go_enter Tryd.func13, Tryd.ntmps13
    go_wp2
    go_ret
    exact ⟨rfl, rfl⟩
  · have e : dayB n = false := by simp [dayB, h0]
    rw [e]
    go_enter Tryd.func13, Tryd.ntmps13
    go_wp2
    go_ret
    exact ⟨rfl, rfl⟩
set_option maxRecDepth 100000 in
theorem weekday_any (n : Int) (w : World) (h0 : 0 ≤ n) (h1 : n ≤ 146096) : Calls Tryd.prog 16 #[.int .i64 n] w fun e w' => e = .returned (.int .i64 ((n + 5) % 7)) ∧ w = w' := by
  go_enter Tryd.func16, Tryd.ntmps16
  go_wp2
  go_ret
  exact ⟨rfl, rfl⟩
set_option maxRecDepth 100000 in
theorem newYear_any (y : Int) (w : World) (h0 : 2000 ≤ y) (h1 : y ≤ 2400) : Calls Tryd.prog 14 #[.int .i64 y] w fun e w' => e = .returned (.int .i64 (ny y)) ∧ w = w' := by
  unfold ny
  go_enter Tryd.func14, Tryd.ntmps14
  go_wp2
  go_ret
  exact ⟨rfl, rfl⟩
theorem lp_cases (y : Int) : ∃ a b c : Bool, (y % 4 == 0) = a ∧ (y % 100 == 0) = b ∧ (y % 400 == 0) = c ∧ lp y = (a && !b || c) ∧ (a = false → c = false) := by
  refine ⟨_, _, _, rfl, rfl, rfl, rfl, fun h => ?_⟩
  have h1 : y % 4 ≠ 0 := by simpa using h
  have h2 : y % 400 ≠ 0 := by omega
  simpa using h2
set_option maxRecDepth 100000 in
theorem isLeap_any (y : Int) (w : World) (h0 : 0 ≤ y) (h1 : y ≤ 10000) : Calls Tryd.prog 19 #[.int .i64 y] w fun e w' => e = .returned (.bool (lp y)) ∧ w = w' := by
  obtain ⟨a, b, c, ha, hb, hc, he, hi⟩ := lp_cases y
  rw [he]
  have hb' : (y % 100 != 0) = !b := by rw [← hb]; rfl
  cases a <;> cases b <;> cases c <;>
  ( clear he hi
    go_enter Tryd.func19, Tryd.ntmps19
    go_wp2
    go_ret
    exact ⟨rfl, rfl⟩)
set_option maxRecDepth 100000 in
theorem leap_any (y : Int) (w : World) (h0 : 0 ≤ y) (h1 : y ≤ 10000) : Calls Tryd.prog 18 #[.int .i64 y] w fun e w' => e = .returned (.bool (lp y)) ∧ w = w' := by
  obtain ⟨a, b, c, ha, hb, hc, he, hi⟩ := lp_cases y
  rw [he]
  have hb' : (y % 100 != 0) = !b := by rw [← hb]; rfl
  cases a <;> cases b <;> cases c <;> first | (exact absurd (hi rfl) (by decide)) |
  ( clear he hi
    go_enter Tryd.func18, Tryd.ntmps18
    go_wp2
    go_ret
    exact ⟨rfl, rfl⟩)
/-- The table of months stands in its block. -/
def mdl : List Int := [31, 28, 31, 30, 31, 30, 31, 31, 30, 31, 30, 31]
def Mt (w : World) : Prop := ∀ i : Nat, i < 12 → w.cell? ⟨0, i, none⟩ = some (.int .i64 (mdl.getD i 0))
theorem md_tab (y : Int) (k : Nat) (hk : k < 12) (h : ¬ (k = 1 ∧ lp y = true)) : mdl.getD k 0 = md y ((k : Int) + 1) := by
  rcases (show k = 0 ∨ k = 1 ∨ k = 2 ∨ k = 3 ∨ k = 4 ∨ k = 5 ∨ k = 6 ∨ k = 7 ∨ k = 8 ∨ k = 9 ∨ k = 10 ∨ k = 11 by omega) with rfl | rfl | rfl | rfl | rfl | rfl | rfl | rfl | rfl | rfl | rfl | rfl <;> simp_all [md, mdl]
set_option maxRecDepth 100000 in
theorem daysOf_any (y m : Int) (k : Nat) (w : World) (h0 : 0 ≤ y) (h1 : y ≤ 10000) (hm : m = (k : Int) + 1) (hk : k < 12) (hT : Mt w) : Calls Tryd.prog 15 #[.int .i64 y, .int .i64 m] w fun e w' => e = .returned (.int .i64 (md y m)) ∧ w = w' := by
  have hc := hT k hk
  have hl := isLeap_any y w h0 h1
  have ht := md_tab y k hk
  rw [← hm] at ht
  have hm0 : Hid (m = (k : Int) + 1) := hm
  have q : m - 1 = (k : Int) := by omega
  have q0 : (0 : Int) ≤ (k : Int) := by omega
  have q1 : (k : Int) < 12 := by omega
  clear hm hT
  cases hb : lp y with
  | true =>
    rw [hb] at hl
    by_cases h2 : m = 2
    · have e : md y m = 29 := by simp [md, h2, hb]
      rw [e]
      clear ht e hb q
      have h2' : (m == 2) = true := by simp [h2]
      clear h2
      go_enter Tryd.func15, Tryd.ntmps15
      go_wp2_with (go_at_call 19; with_reducible refine hl.mono ?_; rintro e w' ⟨rfl, rfl⟩)
      go_ret
      exact ⟨rfl, rfl⟩
    · rw [ht (by have := hm0.out; omega)] at hc
      have h2' : (m == 2) = false := by simp [h2]
      clear ht hb
      generalize md y m = R at *
      go_enter Tryd.func15, Tryd.ntmps15
      go_wp2
      go_ret
      exact ⟨rfl, rfl⟩
  | false =>
    rw [hb] at hl
    rw [ht (by simp [hb])] at hc
    clear ht hb
    generalize md y m = R at *
    by_cases h2 : m = 2
    · have h2' : (m == 2) = true := by simp [h2]
      clear h2
      go_enter Tryd.func15, Tryd.ntmps15
      go_wp2_with (go_at_call 19; with_reducible refine hl.mono ?_; rintro e w' ⟨rfl, rfl⟩)
      go_ret
      exact ⟨rfl, rfl⟩
    · have h2' : (m == 2) = false := by simp [h2]
      go_enter Tryd.func15, Tryd.ntmps15
      go_wp2
      go_ret
      exact ⟨rfl, rfl⟩
end Go.Proofs.YtifmlibdnnaoiaaDoor
