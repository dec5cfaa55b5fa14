import Derived.Test.YtddphepgcihdbaaTnF
import Derived.Test.YtddphepgcihdbaaTeA
namespace Go.Proofs.Ytddphepgcihdbaa
open Go.RowKit Go.Shelf
set_option linter.unusedVariables false
set_option linter.unusedSimpArgs false

/-- A minute and the slot that comes into force, as cells. -/
def prC (x : Int × Int) : List Value := [.int .i64 x.1, .int .i64 x.2]
theorem pr_len (x : Int × Int) : (prC x).length = 2 := rfl
theorem pr_one (x : Int × Int) : ∀ u ∈ prC x, u.oneCell' = true := all_one rfl
/-- Does Switches give anything? -/
def spB (b a : Int) : Bool := decide (0 ≤ b) && (decide (a ≤ 210379679) && (decide (b < a) && decide (a - b ≤ 44640)))
/-- All that Switches gives. -/
def prL (t : Tt) (b a : Int) : List (Int × Int) := if t.err = 0 ∧ spB b a = true then (b, slF t b) :: wlk (slF t) (slF t b) (up (b + 1) (a - b - 1).toNat) else []
/-- What Pairs answers. -/
def PrP (t : Tt) (b a : Int) (w : World) (e : Ending) (w' : World) : Prop := (∃ v, e = .returned v ∧ Fl 2 prC w' v (prL t b a) ∧ ∀ g, v.ownBlock = some g → w.heap.size ≤ g) ∧ Below w.heap.size w w'
theorem prL_no {t : Tt} {b a : Int} (h : ¬ (t.err = 0 ∧ 0 ≤ b ∧ a ≤ 210379679 ∧ b < a ∧ a - b ≤ 44640)) : prL t b a = [] := by
  unfold prL
  rw [if_neg]
  rintro ⟨h1, h2⟩
  simp only [spB, Bool.and_eq_true, decide_eq_true_eq] at h2
  exact h ⟨h1, h2⟩
theorem prL_yes {t : Tt} {b a : Int} (h1 : t.err = 0) (h2 : 0 ≤ b) (h3 : a ≤ 210379679) (h4 : b < a) (h5 : a - b ≤ 44640) : prL t b a = (b, slF t b) :: wlk (slF t) (slF t b) (up (b + 1) (a - b - 1).toNat) := by
  unfold prL
  rw [if_pos ⟨h1, by simp [spB, h2, h3, h4, h5]⟩]
theorem wlk_len (f : Int → Int) : ∀ (L : List Int) (now : Int), (wlk f now L).length ≤ L.length
  | [], _ => Nat.le_refl _
  | x :: L, now => by
    rw [wlk]
    split
    · have := wlk_len f L now; simp; omega
    · have := wlk_len f L (f x); simp; omega
theorem prL_len (t : Tt) (b a : Int) : (prL t b a).length ≤ 44640 := by
  unfold prL
  split
  · rename_i h
    have h2 := h.2
    simp only [spB, Bool.and_eq_true, decide_eq_true_eq] at h2
    have := wlk_len (slF t) (up (b + 1) (a - b - 1).toNat) (slF t b)
    rw [up_len] at this
    rw [List.length_cons]; omega
  · simp

end Go.Proofs.Ytddphepgcihdbaa
