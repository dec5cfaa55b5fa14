import Derived.Test.YtbonmajnkbggcaaSfA
namespace Go.Proofs.Ytbonmajnkbggcaa
open Go.RowKit
set_option linter.unusedVariables false


/-- What the laws ask of a film over sound tables. -/
structure SafeF (G : List Gp) (C : List Cf) (m : Nat) (f : Nat → Nat → Int) (c : Nat → Nat → Int) : Prop where
  four : ∀ j k, j < m → k < G.length → f j k = 0 ∨ f j k = 1 ∨ f j k = 2 ∨ f j k = 3
  rng : ∀ c ∈ C, 0 ≤ c.a ∧ c.a < c.b ∧ c.b < (G.length : Int)
  clr : ∀ j, j < m → ∀ c ∈ C, f j c.a.toNat = 0 ∨ f j c.b.toNat = 0
  red : ∀ k, k < G.length → f 0 k = 0
  itr : ∀ j, j < m → ∀ c ∈ C, (f j c.b.toNat ≠ 0 → c.ab < (j : Int) - lastF (fun t => f t c.a.toNat) j) ∧ (f j c.a.toNat ≠ 0 → c.ba < (j : Int) - lastF (fun t => f t c.b.toNat) j)
  lin : ∀ (k : Nat) (h : k < G.length), Ln G[k] (fun j => f j k) (c k)
theorem run_safeF {G : List Gp} {C : List Cf} (hg : gridB G C = true) (Ms : List Nat) : SafeF G C (Ms.length + 1) (fun j k => (runF G C Ms j).a k) (fun k j => (runF G C Ms j).i k) := by
  have hl : ∀ (k : Nat) (h : k < G.length), Ln G[k] (fun j => (runF G C Ms j).a k) (fun j => (runF G C Ms j).i k) := fun k h => by
    have := run_ln hg Ms k h
    rw [show G.getD k gp0 = G[k] by simp [List.getD_eq_getElem?_getD, h]] at this
    exact this
  exact ⟨fun j k _ hk => (hl k hk).four j, grid_cfm hg, fun j _ => run_clear hg Ms j, fun k _ => rfl, fun j _ => run_inter hg Ms j, hl⟩
end Go.Proofs.Ytbonmajnkbggcaa
