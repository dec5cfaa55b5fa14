import Derived.Test.YtbonmajnkbggcaaSfA
import Derived.Deep.RegionHeld3
namespace Go.Proofs.Ytbonmajnkbggcaa
open Go.RowKit
set_option linter.unusedVariables false


theorem Str.start {f c : Nat → Int} {v : Int} {s : Nat} : Str f c v s s := ⟨Nat.le_refl _, fun h => absurd h (Nat.lt_irrefl _), fun t h1 h2 => absurd h2 (Nat.not_lt.2 h1)⟩
theorem let_0 {a : Int} (h : a = 0 ∨ a = 1 ∨ a = 2 ∨ a = 3) (e : (letN a).toNat = 114) : a = 0 := by
  rcases h with h | h | h | h <;> subst h <;> first | rfl | (exact absurd e (by decide))
theorem let_1 {a : Int} (h : a = 0 ∨ a = 1 ∨ a = 2 ∨ a = 3) (e : (letN a).toNat = 108) : a = 1 := by
  rcases h with h | h | h | h <;> subst h <;> first | rfl | (exact absurd e (by decide))
theorem let_2 {a : Int} (h : a = 0 ∨ a = 1 ∨ a = 2 ∨ a = 3) (e : (letN a).toNat = 103) : a = 2 := by
  rcases h with h | h | h | h <;> subst h <;> first | rfl | (exact absurd e (by decide))
theorem let_3 {a : Int} (h : a = 0 ∨ a = 1 ∨ a = 2 ∨ a = 3) (e : (letN a).toNat = 97) : a = 3 := by
  rcases h with h | h | h | h <;> subst h <;> first | rfl | (exact absurd e (by decide))
end Go.Proofs.Ytbonmajnkbggcaa
