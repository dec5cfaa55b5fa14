import Derived.Test.YthflpnahifpdnaaTabA
namespace Go.Proofs.Ythflpnahifpdnaa
open Go.RowKit
set_option linter.unusedVariables false


theorem info44 : (Try.prog.info? 58).map (fun i => (i.zero, i.size, i.bytes)) = some (some (.agg #[.string ⟨#[]⟩, .int .i64 0, .int .i64 0, .int .i64 0, .int .i64 0]), 5, 48) := by kernel_rfl
theorem info47 : (Try.prog.info? 49).map (fun i => (i.zero, i.size, i.bytes)) = some (some (.agg #[.int .i64 0, .int .i64 0, .int .i64 0, .int .i64 0]), 4, 32) := by kernel_rfl
theorem fl_src {α : Type} {sz : Nat} {cs : α → List Value} (hl : ∀ x, (cs x).length = sz) (h0 : 0 < sz) {w : World} {va : Option Addr} {cap : Nat} {L : List α} (h : Fl sz cs w (.slice va L.length cap) L) : (∀ ad, va = some ad → ∀ j u, (cellsF cs L)[j]? = some u → w.cell? (ad.add j) = some u) ∧ (va = none → L.length = 0) :=
  ⟨fun ad e => by subst e; exact h.news hl h0, fun e => by
    subst e; rcases h with ⟨_, h⟩ | ⟨ad, cap, h, _⟩
    · rw [h]; rfl
    · cases h⟩
theorem own_base {w : World} {base base' e size n : Nat} {v : Value} {xs : List Value} (h : w.ownsRow base e size v n xs) (hb : base' ≤ base) : w.ownsRow base' e size v n xs := by
  refine ⟨h.1, ?_⟩
  rcases h.2 with h0 | ⟨g, cap, cur, h1, h2, h3, h4⟩
  · exact .inl h0
  · exact .inr ⟨g, cap, cur, h1, Nat.le_trans hb h2, h3, h4⟩
/-- Both lists in memory of their own. -/
structure CpT (B : Nat) (w : World) (v1 v2 : Value) (G : List Gp) (C : List Cf) : Prop where
  g : w.ownsRow B 58 5 v1 G.length (cellsF Gp.cs G)
  c : w.ownsRow B 49 4 v2 C.length (cellsF Cf.cs C)
  ne : ∀ q, v1.ownBlock = some q → v2.ownBlock ≠ some q
theorem has2 {w w' : World} {v0 v1 : Value} (h : Has w' w.heap.size #[v0, v1]) : w'.cell? ⟨w.heap.size, 0, none⟩ = some v0 ∧ w'.cell? ⟨w.heap.size, 1, none⟩ = some v1 := ⟨h.2.1 0, h.2.1 1⟩
end Go.Proofs.Ythflpnahifpdnaa
