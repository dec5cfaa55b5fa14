import Derived.Test.YtifmlibdnnaoiaaDoorCaE
namespace Go.Proofs.YtifmlibdnnaoiaaDoor
open Go.RowKit
set_option linter.unusedVariables false

theorem Mt.lt {w : World} (h : Mt w) : 0 < w.heap.size := by
  rcases Nat.lt_or_ge 0 w.heap.size with h0 | h0
  · exact h0
  · have h1 := h 0 (by omega)
    have : w.heap[0]? = none := by simp [h0]
    simp [World.cell?, this] at h1
theorem Mt.below {w w' : World} (h : Mt w) (hb : Below w.heap.size w w') : Mt w' := by
  intro i hi
  rw [hb.cell (p := ⟨0, i, none⟩) h.lt]
  exact h i hi
set_option maxRecDepth 100000 in
set_option maxHeartbeats 2000000 in
theorem lawMonth_any (y : Int) (k : Nat) (w : World) (h0 : 0 ≤ y) (h1 : y ≤ 10000) (hk : k < 12) : Calls Tryd.prog 9 #[.int .i64 y, .int .i64 ((k : Int) + 1)] w fun e w' => e = .returned (.int .i64 (md y ((k : Int) + 1))) ∧ Below w.heap.size w w' := by
  obtain ⟨a, b, c, ha, hb, hc, he, hi⟩ := lp_cases y
  have hb' : (y % 100 != 0) = !b := by rw [← hb]; rfl
  have hmd : md y 2 = if (a && (!b || c)) = true then 29 else 28 := by
    simp only [md, he]
    cases a <;> cases b <;> cases c <;> first | (exact absurd (hi rfl) (by decide)) | rfl
  clear he hi
  rcases (show k = 0 ∨ k = 1 ∨ k = 2 ∨ k = 3 ∨ k = 4 ∨ k = 5 ∨ k = 6 ∨ k = 7 ∨ k = 8 ∨ k = 9 ∨ k = 10 ∨ k = 11 by omega) with rfl | rfl | rfl | rfl | rfl | rfl | rfl | rfl | rfl | rfl | rfl | rfl
  case inr.inl =>
    simp only [show (((1 : Nat) : Int) + 1) = 2 from rfl]
    rw [hmd]
    clear hmd
    cases a <;> cases b <;> cases c <;>
    ( go_enter Tryd.func9, Tryd.ntmps9
      go_wp2
      go_ret
      exact ⟨rfl, (Below.refl _ _).alloc (Nat.le_refl _) _⟩)
  case inl =>
    simp only [show (((0 : Nat) : Int) + 1) = 1 from rfl, show md y 1 = 31 from rfl]
    clear hmd
    go_enter Tryd.func9, Tryd.ntmps9
    go_wp2
    go_ret
    exact ⟨rfl, (Below.refl _ _).alloc (Nat.le_refl _) _⟩
  case inr.inr.inl =>
    simp only [show (((2 : Nat) : Int) + 1) = 3 from rfl, show md y 3 = 31 from rfl]
    clear hmd
    go_enter Tryd.func9, Tryd.ntmps9
    go_wp2
    go_ret
    exact ⟨rfl, (Below.refl _ _).alloc (Nat.le_refl _) _⟩
  case inr.inr.inr.inl =>
    simp only [show (((3 : Nat) : Int) + 1) = 4 from rfl, show md y 4 = 30 from rfl]
    clear hmd
    go_enter Tryd.func9, Tryd.ntmps9
    go_wp2
    go_ret
    exact ⟨rfl, (Below.refl _ _).alloc (Nat.le_refl _) _⟩
  case inr.inr.inr.inr.inl =>
    simp only [show (((4 : Nat) : Int) + 1) = 5 from rfl, show md y 5 = 31 from rfl]
    clear hmd
    go_enter Tryd.func9, Tryd.ntmps9
    go_wp2
    go_ret
    exact ⟨rfl, (Below.refl _ _).alloc (Nat.le_refl _) _⟩
  case inr.inr.inr.inr.inr.inl =>
    simp only [show (((5 : Nat) : Int) + 1) = 6 from rfl, show md y 6 = 30 from rfl]
    clear hmd
    go_enter Tryd.func9, Tryd.ntmps9
    go_wp2
    go_ret
    exact ⟨rfl, (Below.refl _ _).alloc (Nat.le_refl _) _⟩
  case inr.inr.inr.inr.inr.inr.inl =>
    simp only [show (((6 : Nat) : Int) + 1) = 7 from rfl, show md y 7 = 31 from rfl]
    clear hmd
    go_enter Tryd.func9, Tryd.ntmps9
    go_wp2
    go_ret
    exact ⟨rfl, (Below.refl _ _).alloc (Nat.le_refl _) _⟩
  case inr.inr.inr.inr.inr.inr.inr.inl =>
    simp only [show (((7 : Nat) : Int) + 1) = 8 from rfl, show md y 8 = 31 from rfl]
    clear hmd
    go_enter Tryd.func9, Tryd.ntmps9
    go_wp2
    go_ret
    exact ⟨rfl, (Below.refl _ _).alloc (Nat.le_refl _) _⟩
  case inr.inr.inr.inr.inr.inr.inr.inr.inl =>
    simp only [show (((8 : Nat) : Int) + 1) = 9 from rfl, show md y 9 = 30 from rfl]
    clear hmd
    go_enter Tryd.func9, Tryd.ntmps9
    go_wp2
    go_ret
    exact ⟨rfl, (Below.refl _ _).alloc (Nat.le_refl _) _⟩
  case inr.inr.inr.inr.inr.inr.inr.inr.inr.inl =>
    simp only [show (((9 : Nat) : Int) + 1) = 10 from rfl, show md y 10 = 31 from rfl]
    clear hmd
    go_enter Tryd.func9, Tryd.ntmps9
    go_wp2
    go_ret
    exact ⟨rfl, (Below.refl _ _).alloc (Nat.le_refl _) _⟩
  case inr.inr.inr.inr.inr.inr.inr.inr.inr.inr.inl =>
    simp only [show (((10 : Nat) : Int) + 1) = 11 from rfl, show md y 11 = 30 from rfl]
    clear hmd
    go_enter Tryd.func9, Tryd.ntmps9
    go_wp2
    go_ret
    exact ⟨rfl, (Below.refl _ _).alloc (Nat.le_refl _) _⟩
  case inr.inr.inr.inr.inr.inr.inr.inr.inr.inr.inr =>
    simp only [show (((11 : Nat) : Int) + 1) = 12 from rfl, show md y 12 = 31 from rfl]
    clear hmd
    go_enter Tryd.func9, Tryd.ntmps9
    go_wp2
    go_ret
    exact ⟨rfl, (Below.refl _ _).alloc (Nat.le_refl _) _⟩
end Go.Proofs.YtifmlibdnnaoiaaDoor
