import Derived.Test.YthjdflcakngpiaaDoorRmA
import Derived.Test.YthjdflcakngpiaaDoorKpt
namespace Go.Proofs.YthjdflcakngpiaaDoor
open Go.RowKit
set_option linter.unusedVariables false

/-! What is carried over a step that turns blocks of S alone. -/
theorem own_only2 {S : Nat → Prop} {w w' : World} {base e size n : Nat} {v : Value} {xs : List Value} (h : w.ownsRow base e size v n xs) (ho : Only S w w') (hd : ∀ q, v.ownBlock = some q → ¬ S q) : w'.ownsRow base e size v n xs :=
  own_keepA h (fun g hg => ho.block g (own_lt h g hg).2 (hd g hg))
theorem OwnI.only {α : Type} {e sz : Nat} {R : (Nat → Prop) → World → List Value → α → Prop} (hR : RMv R) {S : Nat → Prop} {lo hi : Nat} {w w' : World} {v : Value} {L : List α}
    (h : OwnI e sz R lo hi w v L) (ho : Only S w w') (hd : ∀ q, lo ≤ q → q < hi → ¬ S q) : OwnI e sz R lo hi w' v L := by
  obtain ⟨xs, h1, h2, h3⟩ := h
  exact ⟨xs, own_only2 h1 ho (fun g hg => hd g (own_lt h1 g hg).1 (h2 g hg)), h2, Els.mv (mx := 0) h3 (fun _ _ h => hR _ _ _ _ _ _ h ⟨ho.size, fun k hk hs => ⟨ho.block k hk (hd k hs.1 hs.2.1), hs⟩⟩)⟩
theorem Exs.onlyI {S : Nat → Prop} {lo hi : Nat} {w w' : World} {v : Value} {L : List Nd} (h : Exs (fun b => lo ≤ b ∧ b < hi) w v L) (ho : Only S w w') (hd : ∀ q, lo ≤ q → q < hi → ¬ S q) : Exs (fun b => lo ≤ b ∧ b < hi) w' v L :=
  h.mv ⟨ho.size, fun k hk hs => ⟨ho.block k hk (hd k hs.1 hs.2), hs⟩⟩
theorem DcO.only {S : Nat → Prop} {lo hi : Nat} {w w' : World} {cs : List Value} {x : Dc} (h : DcO lo hi w cs x) (ho : Only S w w') (hd : ∀ q, lo ≤ q → q < hi → ¬ S q) : DcO lo hi w' cs x :=
  h.far ho.size (fun k h1 h2 h3 => ho.block k h3 (hd k h1 h2))
theorem Mv.only {S T T' : Nat → Prop} {w w' : World} (ho : Only S w w') (hd : ∀ k, k < w.heap.size → T k → ¬ S k ∧ T' k) : Mv T w T' w' :=
  ⟨ho.size, fun k hk hs => ⟨ho.block k hk (hd k hk hs).1, (hd k hk hs).2⟩⟩
theorem only_join {S S' : Nat → Prop} {a w w' : World} (h : Only S a w) (h' : Only S' w w') (hS : ∀ q, q < a.heap.size → S' q → S q) : Only S a w' :=
  ⟨h'.os.trans h.os, h'.tape.trans h.tape, h'.output.trans h.output, Nat.le_trans h.size h'.size, fun k hk hn => (h'.block k (Nat.lt_of_lt_of_le hk h.size) (fun e => hn (hS k hk e))).trans (h.block k hk hn)⟩
theorem only_of_grown {w w' : World} {o : Obj} {row : Option Nat} (hg : (w.alloc o).grownBy w' row) : Only (fun q => row = some q) w w' := only_grown ((Only.refl _ w).alloc o) hg (fun k hk => .inl hk)
theorem only_of_below {w w' : World} (h : Below w.heap.size w w') : Only (fun _ => False) w w' := Only.of_below h
theorem only_of_set (w : World) (b i : Nat) (v : Value) : Only (fun q => q = b) w (w.setCell ⟨b, i, none⟩ v) := Only.set (S := fun q => q = b) (Only.refl _ w) rfl v

/-- Where what is done lies. -/
def Av (B M : Nat) (vd vE vG vL vN : Value) (lo hi : Nat → Nat) (k n : Nat) : Nat → Prop := fun b =>
  B ≤ b ∧ vd.ownBlock ≠ some b ∧ b ≠ M ∧ b ≠ M + 1 ∧ vE.ownBlock ≠ some b ∧ vG.ownBlock ≠ some b ∧ vL.ownBlock ≠ some b ∧ vN.ownBlock ≠ some b ∧ ∀ j, k ≤ j → j < n → ¬ (lo j ≤ b ∧ b < hi j)
/-- Ahead of round k of roomyPlan. -/
structure RmI (B M : Nat) (pn : ByteArray) (vd : Value) (L : List Dc) (lo hi : Nat → Nat) (k : Nat) (w : World) (xs : List Value) (vE vG vL vN : Value) : Prop where
  own : w.ownsRow B 53 15 vd L.length xs
  todo : ∀ (i : Nat) (h : i < L.length), k ≤ i → ∃ cs : List Value, cs.length = 15 ∧ DcO (lo i) (hi i) w cs L[i] ∧ ∀ j, j < 15 → xs[i * 15 + j]? = cs[j]?
  done : ∀ (i : Nat) (h : i < L.length), i < k → ∃ cs : List Value, cs.length = 15 ∧ DcR (Av B M vd vE vG vL vN lo hi k L.length) w cs L[i] ∧ ∀ j, j < 15 → xs[i * 15 + j]? = cs[j]?
  hasR : Has w (M + 1) #[.slice none 0 0, vE, vG, vL, vN]
  hasQ : Has w M #[.string pn, vd]
  rowE : ∃ (ys : List Value) (E : List Nat), E.length = k ∧ w.ownsRow (M + 2) 25 1 vE k ys ∧ Els 1 MkE (Av B M vd vE vG vL vN lo hi k L.length) w ys E
  rowG : ∃ (ys : List Value) (E : List Nat), E.length = k ∧ w.ownsRow (M + 2) 47 1 vG k ys ∧ Els 1 MkG (Av B M vd vE vG vL vN lo hi k L.length) w ys E
  rowN : ∃ (ys : List Value) (E : List Nat), E.length = k ∧ w.ownsRow (M + 2) 49 1 vN k ys ∧ Els 1 MkN (Av B M vd vE vG vL vN lo hi k L.length) w ys E
  rowL : ∃ (ys : List Value) (E : List Nat), E.length = 3 * k ∧ w.ownsRow (M + 2) 48 1 vL (3 * k) ys ∧ Els 1 MkL (Av B M vd vE vG vL vN lo hi k L.length) w ys E
  sEG : ∀ q, vE.ownBlock = some q → vG.ownBlock ≠ some q
  sEL : ∀ q, vE.ownBlock = some q → vL.ownBlock ≠ some q
  sEN : ∀ q, vE.ownBlock = some q → vN.ownBlock ≠ some q
  sGL : ∀ q, vG.ownBlock = some q → vL.ownBlock ≠ some q
  sGN : ∀ q, vG.ownBlock = some q → vN.ownBlock ≠ some q
  sLN : ∀ q, vL.ownBlock = some q → vN.ownBlock ≠ some q
/-- What holds of the intervals, whatever the world. -/
structure RmS (B M : Nat) (vd : Value) (lo hi : Nat → Nat) (n : Nat) : Prop where
  vb : ∀ g, vd.ownBlock = some g → B ≤ g ∧ g < M ∧ ∀ i, i < n → g < lo i ∨ hi i ≤ g
  iv : ∀ i, i < n → B ≤ lo i ∧ lo i ≤ hi i ∧ hi i ≤ M
  up : ∀ i j, i < j → j < n → hi i ≤ lo j
theorem own_cell {w : World} {base e n k : Nat} {g cap : Nat} {xs cs : List Value} (h : w.ownsRow base e 15 (.slice (some ⟨g, 0, none⟩) n cap) n xs) (hx : ∀ j, j < 15 → xs[k * 15 + j]? = cs[j]?) (j : Nat) (hj : j < 15) (u : Value) (hu : cs[j]? = some u) : w.cell? ⟨g, k * 15 + j, none⟩ = some u :=
  own_reads h rfl _ _ ((hx j hj).trans hu)
end Go.Proofs.YthjdflcakngpiaaDoor
