import Derived.Test.YtddphepgcihdbaaHas
namespace Go.Proofs.Ytddphepgcihdbaa
set_option linter.unusedVariables false
set_option linter.unusedSimpArgs false

/-- Has a year 366 days? -/
def lp (y : Int) : Bool := (y % 4 == 0 && y % 100 != 0) || y % 400 == 0
/-- The days of a month. -/
def md (y m : Int) : Int := if m = 2 then (if lp y = true then 29 else 28) else if m = 4 ∨ m = 6 ∨ m = 9 ∨ m = 11 then 30 else 31
/-- The number of a year's first day. -/
def ny (y : Int) : Int := 365 * (y - 2000) + (y - 2000 + 3) / 4 - (y - 2000 + 99) / 100 + (y - 2000 + 399) / 400
/-- The days of a year. -/
def yl (y : Int) : Int := if lp y = true then 366 else 365
/-- The days of the first k months. -/
def sm (y : Int) : Nat → Int
  | 0 => 0
  | k + 1 => sm y k + md y ((k : Int) + 1)
theorem lp_iff (y : Int) : lp y = true ↔ (y % 4 = 0 ∧ y % 100 ≠ 0) ∨ y % 400 = 0 := by
  simp [lp]
theorem ny_succ (y : Int) (h : 2000 ≤ y) : ny (y + 1) = ny y + yl y := by
  have hl := lp_iff y
  unfold yl ny
  by_cases e : lp y = true
  · rw [if_pos e]
    rw [hl] at e
    omega
  · rw [if_neg e]
    rw [hl] at e
    omega
theorem ny_first : ny 2000 = 0 := by decide
theorem ny_last : ny 2400 = 146097 := by decide
theorem yl_bounds (y : Int) : 365 ≤ yl y ∧ yl y ≤ 366 := by
  unfold yl; split <;> omega
theorem ny_low (y : Int) (h : 2000 ≤ y) : 365 * (y - 2000) ≤ ny y ∧ ny y ≤ 366 * (y - 2000) := by
  unfold ny; omega
theorem ny_mono (a b : Int) (h : 2000 ≤ a) (hb : a ≤ b) : ny a ≤ ny b := by
  unfold ny; omega
theorem md_bounds (y m : Int) : 28 ≤ md y m ∧ md y m ≤ 31 := by
  unfold md
  split
  · split <;> omega
  · split <;> omega
theorem sm_year (y : Int) : sm y 12 = yl y := by
  unfold yl
  by_cases e : lp y = true
  · simp [sm, md, e]
  · simp [sm, md, e]
theorem sm_mono (y : Int) (a b : Nat) (h : a ≤ b) : sm y a ≤ sm y b := by
  induction h with
  | refl => exact Int.le_refl _
  | @step k h ih => have := (md_bounds y ((k : Int) + 1)).1; simp only [sm]; omega
theorem sm_low (y : Int) (k : Nat) : 28 * (k : Int) ≤ sm y k ∧ sm y k ≤ 31 * (k : Int) := by
  induction k with
  | zero => simp [sm]
  | succ k ih => have := md_bounds y ((k : Int) + 1); simp only [sm]; omega
/-- This is the date of day n. -/
structure Dt (n y : Int) (k : Nat) (d : Int) : Prop where
  y0 : 2000 ≤ y
  y1 : y ≤ 2399
  k1 : k < 12
  d0 : 1 ≤ d
  d1 : d ≤ md y ((k : Int) + 1)
  e : n = ny y + sm y k + d - 1
theorem Dt.year {n y d : Int} {k : Nat} (h : Dt n y k d) : ny y ≤ n ∧ n < ny (y + 1) := by
  have h1 := sm_mono y (k + 1) 12 (by have := h.k1; omega)
  rw [sm_year] at h1
  have h2 := ny_succ y h.y0
  have h3 := h.e; have h4 := h.d0; have h5 := h.d1
  have h6 := (sm_low y k).1
  simp only [sm] at h1
  omega
theorem ny_feb (y : Int) (h : 2000 ≤ y) : ny (y + 1) = ny y + 337 + md y 2 := by
  rw [ny_succ y h]
  unfold yl md
  rw [if_pos rfl]
  split <;> omega
theorem ny_end (y : Int) (k : Nat) (d : Int) (h0 : 2000 ≤ y) (h1 : y ≤ 2399) (hk : k < 12) (hd0 : 0 ≤ d) (hd : d < md y (1 + (k : Int))) : 0 ≤ ny y + sm y k + (1 + d) - 1 ∧ ny y + sm y k + (1 + d) - 1 ≤ 146096 := by
  have e : Dt (ny y + sm y k + (1 + d) - 1) y k (1 + d) := ⟨h0, h1, hk, by omega, by rw [Int.add_comm (k : Int) 1]; omega, rfl⟩
  have h2 := e.year
  have h3 := ny_mono (y + 1) 2400 (by omega) (by omega)
  have h4 := (ny_low y h0).1
  rw [ny_last] at h3
  omega
end Go.Proofs.Ytddphepgcihdbaa
