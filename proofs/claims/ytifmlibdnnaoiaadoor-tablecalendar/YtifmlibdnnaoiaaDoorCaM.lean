import Derived.Test.YtifmlibdnnaoiaaDoorHas
namespace Go.Proofs.YtifmlibdnnaoiaaDoor
set_option linter.unusedVariables false

/-- Has a year 366 days? -/
def lp (y : Int) : Bool := (y % 4 == 0 && y % 100 != 0) || y % 400 == 0
/-- The days of a month. -/
def md (y m : Int) : Int := if m = 2 then (if lp y = true then 29 else 28) else if m = 4 ∨ m = 6 ∨ m = 9 ∨ m = 11 then 30 else 31
/-- The number of a year's first day. -/
def ny (y : Int) : Int := 365 * (y - 2000) + (y - 2000 + 3) / 4 - (y - 2000 + 99) / 100 + (y - 2000 + 399) / 400
/-- The days of a year. -/
def yl (y : Int) : Int := if lp y = true then 366 else 365
/-- The days of the first k months. -/
def sm (y : Int) : Nat → Int
  | 0 => 0
  | k + 1 => sm y k + md y ((k : Int) + 1)
theorem lp_iff (y : Int) : lp y = true ↔ (y % 4 = 0 ∧ y % 100 ≠ 0) ∨ y % 400 = 0 := by
  simp [lp]
theorem ny_succ (y : Int) (h : 2000 ≤ y) : ny (y + 1) = ny y + yl y := by
  have hl := lp_iff y
  unfold yl ny
  by_cases e : lp y = true
  · rw [if_pos e]
    rw [hl] at e
    omega
  · rw [if_neg e]
    rw [hl] at e
    omega
theorem ny_first : ny 2000 = 0 := by decide
theorem ny_last : ny 2400 = 146097 := by decide
theorem yl_bounds (y : Int) : 365 ≤ yl y ∧ yl y ≤ 366 := by
  unfold yl; split <;> omega
theorem ny_low (y : Int) (h : 2000 ≤ y) : 365 * (y - 2000) ≤ ny y ∧ ny y ≤ 366 * (y - 2000) := by
  unfold ny; omega
theorem ny_mono (a b : Int) (h : 2000 ≤ a) (hb : a ≤ b) : ny a ≤ ny b := by
  unfold ny; omega
theorem md_bounds (y m : Int) : 28 ≤ md y m ∧ md y m ≤ 31 := by
  unfold md
  split
  · split <;> omega
  · split <;> omega
theorem sm_year (y : Int) : sm y 12 = yl y := by
  unfold yl
  by_cases e : lp y = true
  · simp [sm, md, e]
  · simp [sm, md, e]
theorem sm_mono (y : Int) (a b : Nat) (h : a ≤ b) : sm y a ≤ sm y b := by
  induction h with
  | refl => exact Int.le_refl _
  | @step k h ih => have := (md_bounds y ((k : Int) + 1)).1; simp only [sm]; omega
theorem sm_low (y : Int) (k : Nat) : 28 * (k : Int) ≤ sm y k ∧ sm y k ≤ 31 * (k : Int) := by
  induction k with
  | zero => simp [sm]
  | succ k ih => have := md_bounds y ((k : Int) + 1); simp only [sm]; omega
/-- This is the date of day n. -/
structure Dt (n y : Int) (k : Nat) (d : Int) : Prop where
  y0 : 2000 ≤ y
  y1 : y ≤ 2399
  k1 : k < 12
  d0 : 1 ≤ d
  d1 : d ≤ md y ((k : Int) + 1)
  e : n = ny y + sm y k + d - 1
theorem Dt.year {n y d : Int} {k : Nat} (h : Dt n y k d) : ny y ≤ n ∧ n < ny (y + 1) := by
  have h1 := sm_mono y (k + 1) 12 (by have := h.k1; omega)
  rw [sm_year] at h1
  have h2 := ny_succ y h.y0
  have h3 := h.e; have h4 := h.d0; have h5 := h.d1
  have h6 := (sm_low y k).1
  simp only [sm] at h1
  omega
theorem Dt.uniq {n y y' d d' : Int} {k k' : Nat} (h : Dt n y k d) (h' : Dt n y' k' d') : y = y' ∧ k = k' ∧ d = d' := by
  have a := h.year
  have b := h'.year
  have ey : y = y' := by
    rcases Int.lt_trichotomy y y' with hlt | he | hgt
    · have := ny_mono (y + 1) y' (by have := h.y0; omega) (by omega); omega
    · exact he
    · have := ny_mono (y' + 1) y (by have := h'.y0; omega) (by omega); omega
  subst ey
  have e1 := h.e; have e2 := h'.e; have e3 := h.d0; have e4 := h.d1; have e5 := h'.d0; have e6 := h'.d1
  have ek : k = k' := by
    rcases Nat.lt_trichotomy k k' with hlt | he | hgt
    · have := sm_mono y (k + 1) k' hlt; simp only [sm] at this; omega
    · exact he
    · have := sm_mono y (k' + 1) k hgt; simp only [sm] at this; omega
  subst ek
  exact ⟨rfl, rfl, by omega⟩
theorem Dt.range {n y d : Int} {k : Nat} (h : Dt n y k d) : 0 ≤ n ∧ n ≤ 146096 := by
  have a := h.year
  have b := ny_low y h.y0
  have c := ny_mono (y + 1) 2400 (by have := h.y0; omega) (by have := h.y1; omega)
  rw [ny_last] at c
  have := h.y0
  omega
/-- The day behind it. -/
theorem Dt.next {n y d : Int} {k : Nat} (h : Dt n y k d) (hn : n < 146096) :
    (d + 1 ≤ md y ((k : Int) + 1) → Dt (n + 1) y k (d + 1)) ∧ (md y ((k : Int) + 1) < d + 1 → k + 1 < 12 → Dt (n + 1) y (k + 1) 1) ∧ (md y ((k : Int) + 1) < d + 1 → k + 1 = 12 → Dt (n + 1) (y + 1) 0 1) := by
  have e1 := h.e; have e3 := h.d0; have e4 := h.d1; have e5 := h.y0; have e6 := h.y1; have e7 := h.k1
  refine ⟨fun h1 => ⟨e5, e6, e7, by omega, h1, by omega⟩, fun h1 h2 => ⟨e5, e6, h2, by omega, by have := md_bounds y (((k + 1 : Nat) : Int) + 1); omega, by simp only [sm]; omega⟩, fun h1 h2 => ?_⟩
  have h3 := sm_year y
  have hk : k = 11 := by omega
  subst hk
  have h4 := ny_succ y e5
  have h5 : sm y 12 = sm y 11 + md y ((11 : Nat) + 1 : Int) := rfl
  have hy : y + 1 ≤ 2399 := by
    rcases Int.lt_or_le y 2399 with h6 | h6
    · omega
    · have : y = 2399 := by omega
      subst this
      have := ny_last
      simp only [show (2399 : Int) + 1 = 2400 from rfl] at h4
      omega
  refine ⟨by omega, hy, by omega, by omega, by have := md_bounds (y + 1) (((0 : Nat) : Int) + 1); omega, ?_⟩
  simp only [sm]
  omega
end Go.Proofs.YtifmlibdnnaoiaaDoor
