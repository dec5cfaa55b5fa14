import Derived.Test.YthjdflcakngpiaaDoorApB
namespace Go.Proofs.YthjdflcakngpiaaDoor
open Go.RowKit
set_option linter.unusedVariables false

/-- Blocks from lo on, below hi, but for the row's own. -/
def Si (lo hi : Nat) (v : Value) : Nat → Prop := fun b => lo ≤ b ∧ b < hi ∧ v.ownBlock ≠ some b
/-- The blocks from lo on are as they were. -/
structure SmC (lo : Nat) (w w' : World) : Prop where
  size : w.heap.size ≤ w'.heap.size
  block : ∀ k, lo ≤ k → k < w.heap.size → w'.heap[k]? = w.heap[k]?
theorem SmC.refl (lo : Nat) (w : World) : SmC lo w w := ⟨Nat.le_refl _, fun _ _ _ => rfl⟩
theorem SmC.trans {lo : Nat} {a b c : World} (h : SmC lo a b) (k : SmC lo b c) : SmC lo a c :=
  ⟨Nat.le_trans h.size k.size, fun i h1 h2 => (k.block i h1 (Nat.lt_of_lt_of_le h2 h.size)).trans (h.block i h1 h2)⟩
theorem SmC.below {lo : Nat} {w w' : World} (h : Below w.heap.size w w') : SmC lo w w' := ⟨h.size, fun k _ hk => h.block k hk⟩
theorem SmC.set {lo g o : Nat} {w : World} {v : Value} (h : g < lo) : SmC lo w (w.setCell ⟨g, o, none⟩ v) :=
  ⟨by simp [World.setCell], fun k hk _ => Below.heap_setCell _ _ _ _ (by show k ≠ g; omega)⟩
theorem SmC.cells {lo g : Nat} (h : g < lo) : ∀ (cs : List Value) (w : World) (o : Nat), SmC lo w (setCells w g o cs)
  | [], w, _ => SmC.refl lo w
  | c :: cs, w, o => (SmC.set h).trans (SmC.cells h cs _ _)
theorem SmC.mono {lo lo' : Nat} {w w' : World} (h : SmC lo w w') (hl : lo ≤ lo') : SmC lo' w w' := ⟨h.size, fun k h1 h2 => h.block k (by omega) h2⟩
theorem SmC.mv {lo lo' hi : Nat} {w w' : World} (h : SmC lo w w') (hl : lo ≤ lo') : Mv (fun b => lo' ≤ b ∧ b < hi) w (fun b => lo' ≤ b ∧ b < hi) w' :=
  ⟨h.size, fun k hk hs => ⟨h.block k (by have := hs.1; omega) hk, hs⟩⟩
theorem SmC.mvi {lo lo' hi : Nat} {v : Value} {w w' : World} (h : SmC lo w w') (hl : lo ≤ lo') : Mv (Si lo' hi v) w (Si lo' hi v) w' :=
  ⟨h.size, fun k hk hs => ⟨h.block k (by have := hs.1; omega) hk, hs⟩⟩

/-- A list of the call's own, all of it in the blocks from lo to hi. -/
def OwnI {α : Type} (e sz : Nat) (R : (Nat → Prop) → World → List Value → α → Prop) (lo hi : Nat) (w : World) (v : Value) (L : List α) : Prop :=
  ∃ xs, w.ownsRow lo e sz v L.length xs ∧ (∀ g, v.ownBlock = some g → g < hi) ∧ Els sz R (Si lo hi v) w xs L
/-- What reads by R may be moved. -/
def RMv {α : Type} (R : (Nat → Prop) → World → List Value → α → Prop) : Prop := ∀ (S S' : Nat → Prop) (w w' : World) (cs : List Value) (x : α), R S w cs x → Mv S w S' w' → R S' w' cs x
theorem rmvN : RMv NdR := fun _ _ _ _ _ _ h _ => h
theorem rmvT : RMv TxR := fun _ _ _ _ _ _ h _ => h
theorem rmvS : RMv StR := fun _ _ _ _ _ _ h m => h.mv m
theorem rmvX : RMv NxR := fun _ _ _ _ _ _ h m => h.mv m
theorem OwnI.keep {α : Type} {e sz : Nat} {R : (Nat → Prop) → World → List Value → α → Prop} (hR : RMv R) {lo lo' hi : Nat} {w w' : World} {v : Value} {L : List α}
    (h : OwnI e sz R lo' hi w v L) (hs : SmC lo w w') (hl : lo ≤ lo') : OwnI e sz R lo' hi w' v L := by
  obtain ⟨xs, h1, h2, h3⟩ := h
  exact ⟨xs, own_keepA h1 (fun g hg => hs.block g (by have := (own_lt h1 g hg).1; omega) (own_lt h1 g hg).2), h2, Els.mv (mx := 0) h3 (fun _ _ h => hR _ _ _ _ _ _ h (hs.mvi hl))⟩
theorem OwnI.of {α : Type} {e sz : Nat} {R : (Nat → Prop) → World → List Value → α → Prop} (hR : RMv R) {B hi : Nat} {w : World} {v : Value} {L : List α}
    (h : Own e sz R B w v L) (hh : w.heap.size ≤ hi) : OwnI e sz R B hi w v L := by
  obtain ⟨xs, h1, h2⟩ := h
  exact ⟨xs, h1, fun g hg => Nat.lt_of_lt_of_le (own_lt h1 g hg).2 hh, Els.mv (mx := 0) h2 (fun _ _ h => hR _ _ _ _ _ _ h (Mv.weak fun b hb hs => ⟨hs.1, Nat.lt_of_lt_of_le hb hh, hs.2⟩))⟩
theorem OwnI.nil {α : Type} (e sz : Nat) (R : (Nat → Prop) → World → List Value → α → Prop) (lo hi : Nat) (w : World) : OwnI e sz R lo hi w (.slice none 0 0) ([] : List α) :=
  ⟨[], World.ownsRow_nil _ _ _ _, fun g hg => by simp [Value.ownBlock] at hg, Els.nil _ _ _ _⟩
theorem OwnI.form {α : Type} {e sz : Nat} {R : (Nat → Prop) → World → List Value → α → Prop} {lo hi : Nat} {w : World} {v : Value} {L : List α}
    (h : OwnI e sz R lo hi w v L) : ∃ a c, v = .slice a L.length c := by obtain ⟨xs, h1, _⟩ := h; exact own_form h1
theorem OwnI.rows {α : Type} {e sz mx : Nat} {R : (Nat → Prop) → World → List Value → α → Prop} (hR : RMv R) {lo hi : Nat} {w : World} {v : Value} {L : List α}
    (h : OwnI e sz R lo hi w v L) (hm : L.length ≤ mx) : Rows sz mx R (fun b => lo ≤ b ∧ b < hi) w v L := by
  obtain ⟨xs, h1, h2, h3⟩ := h
  exact Els.owned (Els.mv (mx := 0) h3 (fun _ _ h => hR _ _ _ _ _ _ h (Mv.weak fun b _ hs => ⟨hs.1, hs.2.1⟩))) h1 (fun g hg => ⟨(own_lt h1 g hg).1, h2 g hg⟩) hm

/-- A declaration whose lists are the call's own, in the blocks from lo to hi. -/
def DcO (lo hi : Nat) (w : World) (cs : List Value) (x : Dc) : Prop :=
  ∃ (v : Value) (s : SgV) (c1 c2 c3 c4 c5 : Nat), cs = x.cs v s ∧ (lo ≤ c1 ∧ c1 ≤ c2 ∧ c2 ≤ c3 ∧ c3 ≤ c4 ∧ c4 ≤ c5 ∧ c5 ≤ hi) ∧
    Exs (fun b => lo ≤ b ∧ b < c1) w v x.expr ∧ OwnI 9 1 TxR c1 c2 w s.green x.sg.green ∧ OwnI 66 6 StR c2 c3 w s.enter x.sg.enter ∧ OwnI 66 6 StR c3 c4 w s.during x.sg.during ∧ OwnI 66 6 StR c4 c5 w s.leave x.sg.leave ∧ OwnI 56 4 NxR c5 hi w s.nexts x.sg.nexts
theorem DcO.keep {l lo hi : Nat} {w w' : World} {cs : List Value} {x : Dc} (h : DcO lo hi w cs x) (hs : SmC l w w') (hl : l ≤ lo) : DcO lo hi w' cs x := by
  obtain ⟨v, s, c1, c2, c3, c4, c5, h0, hc, h1, h2, h3, h4, h5, h6⟩ := h
  exact ⟨v, s, c1, c2, c3, c4, c5, h0, hc, h1.mv (hs.mv hl), h2.keep rmvT hs (by omega), h3.keep rmvS hs (by omega), h4.keep rmvS hs (by omega), h5.keep rmvS hs (by omega), h6.keep rmvX hs (by omega)⟩
/-- .. where only other blocks have turned. -/
theorem DcO.far {lo hi : Nat} {w w' : World} {cs : List Value} {x : Dc} (h : DcO lo hi w cs x) (hs : w.heap.size ≤ w'.heap.size) (hk : ∀ k, lo ≤ k → k < hi → k < w.heap.size → w'.heap[k]? = w.heap[k]?) : DcO lo hi w' cs x := by
  have own : ∀ {α : Type} {e sz a b : Nat} {R : (Nat → Prop) → World → List Value → α → Prop} {v : Value} {L : List α}, RMv R → lo ≤ a → b ≤ hi → OwnI e sz R a b w v L → OwnI e sz R a b w' v L := by
    intro α e sz a b R v L hR ha hb h
    obtain ⟨xs, h1, h2, h3⟩ := h
    exact ⟨xs, own_keepA h1 (fun g hg => hk g (by have := (own_lt h1 g hg).1; omega) (by have := h2 g hg; omega) (own_lt h1 g hg).2), h2, Els.mv (mx := 0) h3 (fun _ _ h => hR _ _ _ _ _ _ h ⟨hs, fun k hk' hs' => ⟨hk k (by have := hs'.1; omega) (by have := hs'.2.1; omega) hk', hs'⟩⟩)⟩
  obtain ⟨v, s, c1, c2, c3, c4, c5, h0, hc, h1, h2, h3, h4, h5, h6⟩ := h
  exact ⟨v, s, c1, c2, c3, c4, c5, h0, hc, h1.mv ⟨hs, fun k hk' hs' => ⟨hk k hs'.1 (by have := hs'.2; omega) hk', hs'⟩⟩, own rmvT (by omega) (by omega) h2, own rmvS (by omega) (by omega) h3, own rmvS (by omega) (by omega) h4, own rmvS (by omega) (by omega) h5, own rmvX (by omega) (by omega) h6⟩
/-- The first k declarations of a row, each in blocks of its own. -/
def PreO (w : World) (v : Value) (xs : List Value) (L : List Dc) (lo hi : Nat → Nat) (k : Nat) : Prop :=
  (∀ i, i < k → lo i ≤ hi i ∧ hi i ≤ w.heap.size ∧ ∀ g, v.ownBlock = some g → g < lo i ∨ hi i ≤ g) ∧ (∀ i j, i < j → j < k → hi i ≤ lo j) ∧
    ∀ (i : Nat) (h : i < L.length), i < k → ∃ cs : List Value, cs.length = 15 ∧ DcO (lo i) (hi i) w cs L[i] ∧ ∀ j, j < 15 → xs[i * 15 + j]? = cs[j]?
/-- A plan's declarations, all of it the call's own. -/
def CpO (B : Nat) (w : World) (v : Value) (L : List Dc) : Prop :=
  ∃ (xs : List Value) (lo hi : Nat → Nat), w.ownsRow B 53 15 v L.length xs ∧ PreO w v xs L lo hi L.length ∧ ∀ i, i < L.length → B ≤ lo i
end Go.Proofs.YthjdflcakngpiaaDoor
