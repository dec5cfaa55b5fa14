import Derived.Test.YtoaokpmnjppfcaaCpT
namespace Go.Proofs.Ytoaokpmnjppfcaa
open Go.RowKit
set_option linter.unusedVariables false

theorem bel_only {B : Nat} {S : Nat → Prop} {a w w' : World} (h : Below B a w) (ho : Only S w w') (hB : B ≤ a.heap.size) (hS : ∀ k, k < B → ¬ S k) : Below B a w' :=
  ⟨ho.os.trans h.os, ho.tape.trans h.tape, ho.output.trans h.output, Nat.le_trans h.size ho.size, fun k hk => (ho.block k (by have := h.size; omega) (hS k hk)).trans (h.block k hk)⟩
theorem bel3 {w : World} {o1 o2 o3 : Obj} : Below w.heap.size w (((w.alloc o1).alloc o2).alloc o3) := (belA).alloc (by simp; omega) _
theorem belN1 {w : World} {o1 : Obj} : Below w.heap.size w (w.alloc o1) := (Below.refl _ _).alloc (Nat.le_refl _) _
theorem belD1 {w : World} {o1 : Obj} : Below w.heap.size w (w.alloc o1).drew := (belN1).drew
theorem belD2 {w : World} {o1 o2 : Obj} : Below w.heap.size w ((w.alloc o1).alloc o2).drew := (belA).drew
theorem belD3 {w : World} {o1 o2 o3 : Obj} : Below w.heap.size w (((w.alloc o1).alloc o2).alloc o3).drew := (bel3).drew
theorem has2b {w' : World} {b : Nat} {v0 v1 : Value} (h : Has w' b #[v0, v1]) : w'.cell? ⟨b, 0, none⟩ = some v0 ∧ w'.cell? ⟨b, 1, none⟩ = some v1 := ⟨h.2.1 0, h.2.1 1⟩
theorem newsOf {X : World} {b : Nat} {xs : List Value} (h : Has X b xs.toArray) : ∀ j u, xs[j]? = some u → X.cell? ((⟨b, 0, none⟩ : Addr).add j) = some u := by
  intro j u hu
  rw [Go.WideShapes.add_plain, Nat.zero_add, h.2.1 j]
  simpa using hu
/-- The region's own blocks are as they were. -/
structure Kp (N : Nat) (X Y : World) : Prop where
  size : X.heap.size ≤ Y.heap.size
  block : ∀ b, N < b → b < X.heap.size → Y.heap[b]? = X.heap[b]?
theorem Has.kp {N b : Nat} {X Y : World} {vs : Array Value} (h : Has X b vs) (k : Kp N X Y) (hN : N < b) : Has Y b vs := h.blk k.size (k.block b hN h.1)
theorem Has.set4 {w : World} {b : Nat} (h : Has w b #[.slice none 0 0, .slice none 0 0, .slice none 0 0, .slice none 0 0]) (x0 x1 x2 x3 : Value) : Has ((((w.setCell ⟨b, 0, none⟩ x0).setCell ⟨b, 1, none⟩ x1).setCell ⟨b, 2, none⟩ x2).setCell ⟨b, 3, none⟩ x3) b #[x0, x1, x2, x3] := by
  simpa using (((h.set 0 (by simp) x0).set 1 (by simp) x1).set 2 (by simp) x2).set 3 (by simp) x3
theorem own_cap {w : World} {base e size n g c : Nat} {xs : List Value} (h : w.ownsRow base e size (.slice (some ⟨g, 0, none⟩) n c) n xs) (hn : 0 < n) : n ≤ c := by
  obtain ⟨_, _, hv, hc, _⟩ := own_block h hn
  injection hv with _ _ h3
  omega
theorem far4 {w : World} {N b : Nat} {vs : Array Value} {x0 x1 x2 x3 : Value} (h : Has w N vs) (hn : N ≠ b) : Has ((((w.setCell ⟨b, 0, none⟩ x0).setCell ⟨b, 1, none⟩ x1).setCell ⟨b, 2, none⟩ x2).setCell ⟨b, 3, none⟩ x3) N vs := (((h.far hn x0).far hn x1).far hn x2).far hn x3
theorem only4 (w : World) (b : Nat) (x0 x1 x2 x3 : Value) : Only (fun q => q = b) w ((((w.setCell ⟨b, 0, none⟩ x0).setCell ⟨b, 1, none⟩ x1).setCell ⟨b, 2, none⟩ x2).setCell ⟨b, 3, none⟩ x3) :=
  (((only_of_set w b 0 x0).trans (only_of_set _ b 1 x1)).trans (only_of_set _ b 2 x2)).trans (only_of_set _ b 3 x3)
end Go.Proofs.Ytoaokpmnjppfcaa
