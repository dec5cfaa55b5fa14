import Derived.Test.YtddphepgcihdbaaFlat
namespace Go.Proofs.Ytddphepgcihdbaa
open Go.RowKit
set_option linter.unusedVariables false

/-- What is read by blocks of S in w may be read by blocks of S' in w'. -/
def Mv (S : Nat → Prop) (w : World) (S' : Nat → Prop) (w' : World) : Prop :=
  w.heap.size ≤ w'.heap.size ∧ ∀ k, k < w.heap.size → S k → w'.heap[k]? = w.heap[k]? ∧ S' k
theorem Mv.below {S : Nat → Prop} {w w' : World} (h : Below w.heap.size w w') : Mv S w S w' := ⟨h.size, fun k hk hs => ⟨h.block k hk, hs⟩⟩
theorem Mv.refl (S : Nat → Prop) (w : World) : Mv S w S w := ⟨Nat.le_refl _, fun k hk hs => ⟨rfl, hs⟩⟩
theorem Mv.trans {S S' S'' : Nat → Prop} {w w' w'' : World} (h : Mv S w S' w') (h' : Mv S' w' S'' w'') : Mv S w S'' w'' :=
  ⟨Nat.le_trans h.1 h'.1, fun k hk hs => by
    obtain ⟨a, b⟩ := h.2 k hk hs
    obtain ⟨c, d⟩ := h'.2 k (Nat.lt_of_lt_of_le hk h.1) b
    exact ⟨c.trans a, d⟩⟩
theorem Mv.weak {S S' : Nat → Prop} {w : World} (h : ∀ k, k < w.heap.size → S k → S' k) : Mv S w S' w := ⟨Nat.le_refl _, fun k hk hs => ⟨rfl, h k hk hs⟩⟩

/-- A list whose elements, of sz cells each, are read by R, all of it in blocks of S. -/
def Rows {α : Type} (sz mx : Nat) (R : (Nat → Prop) → World → List Value → α → Prop) (S : Nat → Prop) (w : World) (v : Value) (L : List α) : Prop :=
  (v = .slice none 0 0 ∧ L = []) ∨ ∃ (ad : Addr) (cap : Nat), v = .slice (some ad) L.length cap ∧ L.length ≤ cap ∧ L.length ≤ mx ∧
    (L = [] ∨ (ad.spot = none ∧ S ad.block ∧ ad.block < w.heap.size ∧ ∀ (i : Nat) (h : i < L.length), ∃ cs : List Value, cs.length = sz ∧ R S w cs L[i] ∧ ∀ j u, cs[j]? = some u → w.cell? ⟨ad.block, ad.off + i * sz + j, none⟩ = some u))
theorem Rows.mv {α : Type} {sz mx : Nat} {R : (Nat → Prop) → World → List Value → α → Prop} {S S' : Nat → Prop} {w w' : World} {v : Value} {L : List α}
    (h : Rows sz mx R S w v L) (hm : Mv S w S' w') (hR : ∀ cs x, R S w cs x → R S' w' cs x) : Rows sz mx R S' w' v L := by
  rcases h with h | ⟨ad, cap, rfl, hc, hm', h | ⟨hs, hS, hg, hx⟩⟩
  · exact .inl h
  · exact .inr ⟨ad, cap, rfl, hc, hm', .inl h⟩
  · refine .inr ⟨ad, cap, rfl, hc, hm', .inr ⟨hs, (hm.2 _ hg hS).2, Nat.lt_of_lt_of_le hg hm.1, fun i hi => ?_⟩⟩
    obtain ⟨cs, h1, h2, h3⟩ := hx i hi
    exact ⟨cs, h1, hR _ _ h2, fun j u hu => (World.cell?_of_block (w := w) (a := ⟨ad.block, _, none⟩) (hm.2 _ hg hS).1).trans (h3 j u hu)⟩
theorem Rows.val {α : Type} {sz mx : Nat} {R : (Nat → Prop) → World → List Value → α → Prop} {S : Nat → Prop} {w : World} {v : Value} {L : List α}
    (h : Rows sz mx R S w v L) : (v = .slice none 0 0 ∧ L = []) ∨ ∃ ad cap, v = .slice (some ad) L.length cap ∧ L.length ≤ cap := by
  rcases h with h | ⟨ad, cap, rfl, hc, _⟩
  · exact .inl h
  · exact .inr ⟨ad, cap, rfl, hc⟩
theorem Rows.le {α : Type} {sz mx : Nat} {R : (Nat → Prop) → World → List Value → α → Prop} {S : Nat → Prop} {w : World} {v : Value} {L : List α}
    (h : Rows sz mx R S w v L) : L.length ≤ mx := by
  rcases h with ⟨_, h⟩ | ⟨ad, cap, rfl, hc, hm', _⟩
  · rw [h]; exact Nat.zero_le _
  · exact hm'
theorem Rows.any {α : Type} {sz mx : Nat} {R : (Nat → Prop) → World → List Value → α → Prop} {S : Nat → Prop} {w : World} {v : Value} {L : List α}
    (h : Rows sz mx R S w v L) : ∃ a cap, v = .slice a L.length cap ∧ L.length ≤ mx ∧ (L = [] ∨ ∃ g o, a = some ⟨g, o, none⟩ ∧ S g ∧ g < w.heap.size ∧
      ∀ (i : Nat) (h : i < L.length), ∃ cs : List Value, cs.length = sz ∧ R S w cs L[i] ∧ ∀ j u, cs[j]? = some u → w.cell? ⟨g, o + i * sz + j, none⟩ = some u) := by
  rcases h with ⟨rfl, rfl⟩ | ⟨⟨g, o, s⟩, cap, rfl, hc, hm', h | ⟨hs, hS, hg, hx⟩⟩
  · exact ⟨none, 0, rfl, Nat.zero_le _, .inl rfl⟩
  · exact ⟨_, cap, rfl, hm', .inl h⟩
  · cases hs; exact ⟨_, cap, rfl, hm', .inr ⟨g, o, rfl, hS, hg, hx⟩⟩

/-- The cells xs are those of the elements L. -/
def Els {α : Type} (sz : Nat) (R : (Nat → Prop) → World → List Value → α → Prop) (S : Nat → Prop) (w : World) (xs : List Value) (L : List α) : Prop :=
  xs.length = L.length * sz ∧ ∀ (i : Nat) (h : i < L.length), ∃ cs : List Value, cs.length = sz ∧ R S w cs L[i] ∧ ∀ j, j < sz → xs[i * sz + j]? = cs[j]?
theorem Els.nil {α : Type} (sz : Nat) (R : (Nat → Prop) → World → List Value → α → Prop) (S : Nat → Prop) (w : World) : Els sz R S w [] [] := ⟨by simp, fun i h => by simp at h⟩
theorem Els.mv {α : Type} {sz mx : Nat} {R : (Nat → Prop) → World → List Value → α → Prop} {S S' : Nat → Prop} {w w' : World} {xs : List Value} {L : List α}
    (h : Els sz R S w xs L) (hR : ∀ cs x, R S w cs x → R S' w' cs x) : Els sz R S' w' xs L :=
  ⟨h.1, fun i hi => by obtain ⟨cs, h1, h2, h3⟩ := h.2 i hi; exact ⟨cs, h1, hR _ _ h2, h3⟩⟩
theorem Els.push {α : Type} {sz mx : Nat} {R : (Nat → Prop) → World → List Value → α → Prop} {S : Nat → Prop} {w : World} {xs cs : List Value} {L : List α} {x : α}
    (h : Els sz R S w xs L) (hl : cs.length = sz) (hx : R S w cs x) : Els sz R S w (xs ++ cs) (L ++ [x]) := by
  refine ⟨by simp [h.1, hl, Nat.add_mul], fun i hi => ?_⟩
  by_cases e : i < L.length
  · obtain ⟨c, h1, h2, h3⟩ := h.2 i e
    refine ⟨c, h1, by rw [List.getElem_append_left e]; exact h2, fun j hj => ?_⟩
    rw [List.getElem?_append_left]
    · exact h3 j hj
    · rw [h.1]
      calc i * sz + j < i * sz + sz := by omega
        _ = (i + 1) * sz := (Nat.succ_mul i sz).symm
        _ ≤ L.length * sz := Nat.mul_le_mul_right _ e
  · have e' : i = L.length := by simp at hi; omega
    subst e'
    refine ⟨cs, hl, by simpa using hx, fun j hj => ?_⟩
    rw [List.getElem?_append_right (by rw [h.1]; omega), h.1]
    congr 1; omega
/-- An own list, cut, as it is read. -/
theorem Els.own {α : Type} {sz mx : Nat} {R : (Nat → Prop) → World → List Value → α → Prop} {S : Nat → Prop} {w : World} {base e g cap n c' : Nat} {xs : List Value} {L : List α}
    (hE : Els sz R S w xs L) (h : w.ownsRow base e sz (.slice (some ⟨g, 0, none⟩) L.length cap) L.length xs) (hg : g < w.heap.size) (hS : S g) (hn : n ≤ L.length) (hc : n ≤ c') (hm' : n ≤ mx) :
    Rows sz mx R S w (.slice (some ⟨g, 0, none⟩) n c') (L.take n) := by
  have hlen : (L.take n).length = n := by rw [List.length_take, Nat.min_eq_left hn]
  refine .inr ⟨⟨g, 0, none⟩, c', by rw [hlen], by rw [hlen]; exact hc, by rw [hlen]; exact hm', .inr ⟨rfl, hS, hg, fun i hi => ?_⟩⟩
  have hi' : i < L.length := by simp at hi; omega
  obtain ⟨cs, h1, h2, h3⟩ := hE.2 i hi'
  refine ⟨cs, h1, by rw [List.getElem_take]; exact h2, fun j u hu => ?_⟩
  have hj : j < sz := by have := (List.getElem?_eq_some_iff.1 hu).1; rw [h1] at this; exact this
  show w.cell? ⟨g, 0 + i * sz + j, none⟩ = some u
  rw [Nat.zero_add, h.cellAt _ (by calc i * sz + j < i * sz + sz := by omega
        _ = (i + 1) * sz := (Nat.succ_mul i sz).symm
        _ ≤ L.length * sz := Nat.mul_le_mul_right _ hi'), h3 j hj]
  exact hu
/-- .. or nil. -/
theorem Els.owned {α : Type} {sz mx : Nat} {R : (Nat → Prop) → World → List Value → α → Prop} {S : Nat → Prop} {w : World} {base e : Nat} {v : Value} {xs : List Value} {L : List α}
    (hE : Els sz R S w xs L) (h : w.ownsRow base e sz v L.length xs) (hS : ∀ g, v.ownBlock = some g → S g) (hm' : L.length ≤ mx) : Rows sz mx R S w v L := by
  rcases h.2 with ⟨h0, h1⟩ | ⟨g, cap, cur, h1, h2, h3, h4⟩
  · have : L = [] := List.length_eq_zero_iff.1 h1
    exact .inl ⟨h0, this⟩
  · subst h1
    have := Els.own (n := L.length) (c' := cap) hE h (Array.getElem?_eq_some_iff.1 h3).1 (hS g rfl) (Nat.le_refl _) h4.1 hm'
    rw [List.take_length] at this
    exact this

/-- Two lists, element by element. -/
def eqF {α β : Type} (f : α → β → Bool) : List α → List β → Bool
  | [], [] => true
  | a :: as, b :: bs => f a b && eqF f as bs
  | [], _ :: _ => false
  | _ :: _, [] => false
theorem eqF_len {α β : Type} (f : α → β → Bool) : ∀ (a : List α) (b : List β), a.length ≠ b.length → eqF f a b = false
  | [], [], h => absurd rfl h
  | a :: as, b :: bs, h => by unfold eqF; rw [eqF_len f as bs (by simpa using h)]; simp
  | [], _ :: _, _ => rfl
  | _ :: _, [], _ => rfl
theorem eqF_step {α β : Type} (f : α → β → Bool) (a : List α) (b : List β) (k : Nat) (ha : k < a.length) (hb : k < b.length) : eqF f (a.drop k) (b.drop k) = (f a[k] b[k] && eqF f (a.drop (k + 1)) (b.drop (k + 1))) := by
  rw [List.drop_eq_getElem_cons ha, List.drop_eq_getElem_cons hb]; rfl
theorem eqF_end {α β : Type} (f : α → β → Bool) (a : List α) (b : List β) (k : Nat) (ha : a.length ≤ k) (hb : b.length ≤ k) : eqF f (a.drop k) (b.drop k) = true := by
  rw [List.drop_eq_nil_of_le ha, List.drop_eq_nil_of_le hb]; rfl
theorem eqF_refl {α : Type} (f : α → α → Bool) (h : ∀ x, f x x = true) : ∀ a : List α, eqF f a a = true
  | [] => rfl
  | a :: as => by unfold eqF; rw [h, eqF_refl f h as]; rfl
theorem eqF_comm {α : Type} (f : α → α → Bool) (h : ∀ x y, f x y = f y x) : ∀ a b : List α, eqF f a b = eqF f b a
  | [], [] => rfl
  | a :: as, b :: bs => by unfold eqF; rw [h, eqF_comm f h as bs]
  | [], _ :: _ => rfl
  | _ :: _, [] => rfl
theorem eqF_map {α : Type} (f : α → α → Bool) (g : α → α) (h : ∀ x, f x (g x) = true) : ∀ a : List α, eqF f a (a.map g) = true
  | [] => rfl
  | a :: as => by unfold List.map eqF; rw [h, eqF_map f g h as]; rfl
theorem eqF_congr {α β : Type} {f g : α → β → Bool} (h : ∀ x y, f x y = g x y) : eqF f = eqF g := by
  have : f = g := by funext x y; exact h x y
  rw [this]
end Go.Proofs.Ytddphepgcihdbaa
