import Derived.ProofKit
import Derived.WalkKit
import Derived.Below
import Derived.Deep.Slices
import Derived.Maps.AppendAt
import Derived.Deep.AppendLies
import Derived.ChangeOld
namespace Go.Proofs.YtnicolaphmffkaaGreatDoor
open Go.RowKit
set_option linter.unusedVariables false
set_option linter.unusedSimpArgs false

/-- The cells of a list whose elements have the cells cs. -/
def cellsF {α : Type} (cs : α → List Value) (L : List α) : List Value := L.flatMap cs
theorem cellsF_len {α : Type} {cs : α → List Value} {sz : Nat} (h : ∀ x, (cs x).length = sz) (L : List α) : (cellsF cs L).length = L.length * sz := by
  induction L with
  | nil => simp [cellsF]
  | cons x L ih => unfold cellsF at *; rw [List.flatMap_cons, List.length_append, ih, h]; simp [Nat.succ_mul]; omega
theorem cellsF_append {α : Type} (cs : α → List Value) (S T : List α) : cellsF cs (S ++ T) = cellsF cs S ++ cellsF cs T := by unfold cellsF; simp
theorem cellsF_get {α : Type} {cs : α → List Value} {sz : Nat} (hl : ∀ x, (cs x).length = sz) : ∀ (S : List α) (i j : Nat) (h : i < S.length), j < sz → (cellsF cs S)[i * sz + j]? = (cs S[i])[j]? := by
  intro S
  induction S with
  | nil => intro i j h; simp at h
  | cons x S ih =>
    intro i j h hj
    have e : cellsF cs (x :: S) = cs x ++ cellsF cs S := by unfold cellsF; rw [List.flatMap_cons]
    rw [e]
    cases i with
    | zero => rw [List.getElem?_append_left (by rw [hl]; omega)]; simp
    | succ i =>
      rw [List.getElem?_append_right (by rw [hl, Nat.succ_mul]; omega), hl, show (i + 1) * sz + j - sz = i * sz + j by rw [Nat.succ_mul]; omega, ih i j (by simpa using h) hj]
      simp
theorem cellsF_one {α : Type} {cs : α → List Value} (h1 : ∀ x, ∀ u ∈ cs x, u.oneCell' = true) (L : List α) : ∀ u ∈ cellsF cs L, u.oneCell' = true := by
  intro u hu
  unfold cellsF at hu
  obtain ⟨x, _, hx⟩ := List.mem_flatMap.1 hu
  exact h1 x u hx

/-- A list as it is read: nil, or its elements' cells one behind the other. -/
def Fl {α : Type} (sz : Nat) (cs : α → List Value) (w : World) (v : Value) (L : List α) : Prop :=
  (v = .slice none 0 0 ∧ L = []) ∨ ∃ (ad : Addr) (cap : Nat), v = .slice (some ad) L.length cap ∧ L.length ≤ cap ∧
    (L = [] ∨ (ad.spot = none ∧ ad.block < w.heap.size ∧ ∀ (i : Nat) (h : i < L.length) (j : Nat) (u : Value), (cs L[i])[j]? = some u → w.cell? ⟨ad.block, ad.off + i * sz + j, none⟩ = some u))
theorem Fl.below {α : Type} {sz : Nat} {cs : α → List Value} {w w' : World} {v : Value} {L : List α} (h : Fl sz cs w v L) (hb : Below w.heap.size w w') : Fl sz cs w' v L := by
  rcases h with h | ⟨ad, cap, rfl, hc, h | ⟨hs, hg, hx⟩⟩
  · exact .inl h
  · exact .inr ⟨ad, cap, rfl, hc, .inl h⟩
  · exact .inr ⟨ad, cap, rfl, hc, .inr ⟨hs, Nat.lt_of_lt_of_le hg hb.size, fun i hi j u hu => (hb.cell (p := ⟨ad.block, _, none⟩) hg).trans (hx i hi j u hu)⟩⟩
/-- Its value. -/
theorem Fl.val {α : Type} {sz : Nat} {cs : α → List Value} {w : World} {v : Value} {L : List α} (h : Fl sz cs w v L) : (v = .slice none 0 0 ∧ L = []) ∨ ∃ ad cap, v = .slice (some ad) L.length cap ∧ L.length ≤ cap := by
  rcases h with h | ⟨ad, cap, rfl, hc, _⟩
  · exact .inl h
  · exact .inr ⟨ad, cap, rfl, hc⟩
/-- As a slice of an address that may be none. -/
theorem Fl.any {α : Type} {sz : Nat} {cs : α → List Value} {w : World} {v : Value} {L : List α} (h : Fl sz cs w v L) :
    ∃ a cap, v = .slice a L.length cap ∧ (L = [] ∨ ∃ g o, a = some ⟨g, o, none⟩ ∧ g < w.heap.size ∧ ∀ (i : Nat) (h : i < L.length) (j : Nat) (u : Value), (cs L[i])[j]? = some u → w.cell? ⟨g, o + i * sz + j, none⟩ = some u) := by
  rcases h with ⟨rfl, rfl⟩ | ⟨⟨g, o, s⟩, cap, rfl, hc, h | ⟨hs, hg, hx⟩⟩
  · exact ⟨none, 0, rfl, .inl rfl⟩
  · exact ⟨_, cap, rfl, .inl h⟩
  · cases hs; exact ⟨_, cap, rfl, .inr ⟨g, o, rfl, hg, hx⟩⟩
/-- What an append takes from it. -/
theorem Fl.news {α : Type} {sz : Nat} {cs : α → List Value} (hl : ∀ x, (cs x).length = sz) (h0 : 0 < sz) {w : World} {ad : Addr} {cap : Nat} {L : List α} (h : Fl sz cs w (.slice (some ad) L.length cap) L) :
    ∀ j u, (cellsF cs L)[j]? = some u → w.cell? (ad.add j) = some u := by
  intro j u hu
  have hj : j < L.length * sz := by rw [← cellsF_len hl]; exact (List.getElem?_eq_some_iff.1 hu).1
  have hpos : 0 < L.length := by rcases Nat.eq_zero_or_pos L.length with e | e; (rw [e] at hj; simp at hj); exact e
  rcases h with ⟨e, _⟩ | ⟨ad', c', e, _, h | ⟨hs, hg, hx⟩⟩
  · cases e
  · rw [h] at hpos; simp at hpos
  · cases e
    obtain ⟨g, o, s⟩ := ad
    cases hs
    have hi : j / sz < L.length := (Nat.div_lt_iff_lt_mul h0).2 hj
    have hm : j % sz < sz := Nat.mod_lt _ h0
    have hjj : j = j / sz * sz + j % sz := by rw [Nat.mul_comm]; exact (Nat.div_add_mod j sz).symm
    rw [hjj, cellsF_get hl L (j / sz) (j % sz) hi hm] at hu
    have := hx (j / sz) hi (j % sz) u hu
    rw [Go.WideShapes.add_plain, hjj, ← Nat.add_assoc]
    exact this
/-- An own list, cut, as it is read. -/
theorem Fl.own {α : Type} {sz : Nat} {cs : α → List Value} (hl : ∀ x, (cs x).length = sz) {w : World} {base e g cap n c' : Nat} {L : List α} (h : w.ownsRow base e sz (.slice (some ⟨g, 0, none⟩) L.length cap) L.length (cellsF cs L)) (hg : g < w.heap.size) (hn : n ≤ L.length) (hc : n ≤ c') :
    Fl sz cs w (.slice (some ⟨g, 0, none⟩) n c') (L.take n) := by
  have hlen : (L.take n).length = n := by rw [List.length_take, Nat.min_eq_left hn]
  refine .inr ⟨⟨g, 0, none⟩, c', by rw [hlen], by rw [hlen]; exact hc, .inr ⟨rfl, hg, fun i hi j u hu => ?_⟩⟩
  have hi' : i < L.length := by simp at hi; omega
  have hj : j < sz := by have := (List.getElem?_eq_some_iff.1 hu).1; rw [hl] at this; exact this
  rw [List.getElem_take] at hu
  show w.cell? ⟨g, 0 + i * sz + j, none⟩ = some u
  rw [Nat.zero_add, h.cellAt _ (by calc i * sz + j < i * sz + sz := by omega
        _ = (i + 1) * sz := (Nat.succ_mul i sz).symm
        _ ≤ L.length * sz := Nat.mul_le_mul_right _ hi'), cellsF_get hl L i j hi' hj]
  exact hu

theorem cell_ltF {w : World} {b o : Nat} {v : Value} (h : w.cell? ⟨b, o, none⟩ = some v) : b < w.heap.size := by
  rcases Nat.lt_or_ge b w.heap.size with h0 | h0
  · exact h0
  · have : w.heap[b]? = none := by simp [h0]
    simp [World.cell?, this] at h

end Go.Proofs.YtnicolaphmffkaaGreatDoor
namespace Go.Proofs.YtnicolaphmffkaaGreatDoor
open Go.RowKit
set_option linter.unusedVariables false
set_option linter.unusedSimpArgs false

/-- What is read by blocks of S in w may be read by blocks of S' in w'. -/
def Mv (S : Nat → Prop) (w : World) (S' : Nat → Prop) (w' : World) : Prop :=
  w.heap.size ≤ w'.heap.size ∧ ∀ k, k < w.heap.size → S k → w'.heap[k]? = w.heap[k]? ∧ S' k
theorem Mv.below {S : Nat → Prop} {w w' : World} (h : Below w.heap.size w w') : Mv S w S w' := ⟨h.size, fun k hk hs => ⟨h.block k hk, hs⟩⟩
theorem Mv.refl (S : Nat → Prop) (w : World) : Mv S w S w := ⟨Nat.le_refl _, fun k hk hs => ⟨rfl, hs⟩⟩
theorem Mv.trans {S S' S'' : Nat → Prop} {w w' w'' : World} (h : Mv S w S' w') (h' : Mv S' w' S'' w'') : Mv S w S'' w'' :=
  ⟨Nat.le_trans h.1 h'.1, fun k hk hs => by
    obtain ⟨a, b⟩ := h.2 k hk hs
    obtain ⟨c, d⟩ := h'.2 k (Nat.lt_of_lt_of_le hk h.1) b
    exact ⟨c.trans a, d⟩⟩
theorem Mv.weak {S S' : Nat → Prop} {w : World} (h : ∀ k, k < w.heap.size → S k → S' k) : Mv S w S' w := ⟨Nat.le_refl _, fun k hk hs => ⟨rfl, h k hk hs⟩⟩

/-- A list whose elements, of sz cells each, are read by R, all of it in blocks of S. -/
def Rows {α : Type} (sz mx : Nat) (R : (Nat → Prop) → World → List Value → α → Prop) (S : Nat → Prop) (w : World) (v : Value) (L : List α) : Prop :=
  (v = .slice none 0 0 ∧ L = []) ∨ ∃ (ad : Addr) (cap : Nat), v = .slice (some ad) L.length cap ∧ L.length ≤ cap ∧ L.length ≤ mx ∧
    (L = [] ∨ (ad.spot = none ∧ S ad.block ∧ ad.block < w.heap.size ∧ ∀ (i : Nat) (h : i < L.length), ∃ cs : List Value, cs.length = sz ∧ R S w cs L[i] ∧ ∀ j u, cs[j]? = some u → w.cell? ⟨ad.block, ad.off + i * sz + j, none⟩ = some u))
theorem Rows.mv {α : Type} {sz mx : Nat} {R : (Nat → Prop) → World → List Value → α → Prop} {S S' : Nat → Prop} {w w' : World} {v : Value} {L : List α}
    (h : Rows sz mx R S w v L) (hm : Mv S w S' w') (hR : ∀ cs x, R S w cs x → R S' w' cs x) : Rows sz mx R S' w' v L := by
  rcases h with h | ⟨ad, cap, rfl, hc, hm', h | ⟨hs, hS, hg, hx⟩⟩
  · exact .inl h
  · exact .inr ⟨ad, cap, rfl, hc, hm', .inl h⟩
  · refine .inr ⟨ad, cap, rfl, hc, hm', .inr ⟨hs, (hm.2 _ hg hS).2, Nat.lt_of_lt_of_le hg hm.1, fun i hi => ?_⟩⟩
    obtain ⟨cs, h1, h2, h3⟩ := hx i hi
    exact ⟨cs, h1, hR _ _ h2, fun j u hu => (World.cell?_of_block (w := w) (a := ⟨ad.block, _, none⟩) (hm.2 _ hg hS).1).trans (h3 j u hu)⟩
theorem Rows.val {α : Type} {sz mx : Nat} {R : (Nat → Prop) → World → List Value → α → Prop} {S : Nat → Prop} {w : World} {v : Value} {L : List α}
    (h : Rows sz mx R S w v L) : (v = .slice none 0 0 ∧ L = []) ∨ ∃ ad cap, v = .slice (some ad) L.length cap ∧ L.length ≤ cap := by
  rcases h with h | ⟨ad, cap, rfl, hc, _⟩
  · exact .inl h
  · exact .inr ⟨ad, cap, rfl, hc⟩
theorem Rows.le {α : Type} {sz mx : Nat} {R : (Nat → Prop) → World → List Value → α → Prop} {S : Nat → Prop} {w : World} {v : Value} {L : List α}
    (h : Rows sz mx R S w v L) : L.length ≤ mx := by
  rcases h with ⟨_, h⟩ | ⟨ad, cap, rfl, hc, hm', _⟩
  · rw [h]; exact Nat.zero_le _
  · exact hm'
theorem Rows.any {α : Type} {sz mx : Nat} {R : (Nat → Prop) → World → List Value → α → Prop} {S : Nat → Prop} {w : World} {v : Value} {L : List α}
    (h : Rows sz mx R S w v L) : ∃ a cap, v = .slice a L.length cap ∧ L.length ≤ mx ∧ (L = [] ∨ ∃ g o, a = some ⟨g, o, none⟩ ∧ S g ∧ g < w.heap.size ∧
      ∀ (i : Nat) (h : i < L.length), ∃ cs : List Value, cs.length = sz ∧ R S w cs L[i] ∧ ∀ j u, cs[j]? = some u → w.cell? ⟨g, o + i * sz + j, none⟩ = some u) := by
  rcases h with ⟨rfl, rfl⟩ | ⟨⟨g, o, s⟩, cap, rfl, hc, hm', h | ⟨hs, hS, hg, hx⟩⟩
  · exact ⟨none, 0, rfl, Nat.zero_le _, .inl rfl⟩
  · exact ⟨_, cap, rfl, hm', .inl h⟩
  · cases hs; exact ⟨_, cap, rfl, hm', .inr ⟨g, o, rfl, hS, hg, hx⟩⟩

/-- The cells xs are those of the elements L. -/
def Els {α : Type} (sz : Nat) (R : (Nat → Prop) → World → List Value → α → Prop) (S : Nat → Prop) (w : World) (xs : List Value) (L : List α) : Prop :=
  xs.length = L.length * sz ∧ ∀ (i : Nat) (h : i < L.length), ∃ cs : List Value, cs.length = sz ∧ R S w cs L[i] ∧ ∀ j, j < sz → xs[i * sz + j]? = cs[j]?
theorem Els.nil {α : Type} (sz : Nat) (R : (Nat → Prop) → World → List Value → α → Prop) (S : Nat → Prop) (w : World) : Els sz R S w [] [] := ⟨by simp, fun i h => by simp at h⟩
theorem Els.mv {α : Type} {sz mx : Nat} {R : (Nat → Prop) → World → List Value → α → Prop} {S S' : Nat → Prop} {w w' : World} {xs : List Value} {L : List α}
    (h : Els sz R S w xs L) (hR : ∀ cs x, R S w cs x → R S' w' cs x) : Els sz R S' w' xs L :=
  ⟨h.1, fun i hi => by obtain ⟨cs, h1, h2, h3⟩ := h.2 i hi; exact ⟨cs, h1, hR _ _ h2, h3⟩⟩
theorem Els.push {α : Type} {sz mx : Nat} {R : (Nat → Prop) → World → List Value → α → Prop} {S : Nat → Prop} {w : World} {xs cs : List Value} {L : List α} {x : α}
    (h : Els sz R S w xs L) (hl : cs.length = sz) (hx : R S w cs x) : Els sz R S w (xs ++ cs) (L ++ [x]) := by
  refine ⟨by simp [h.1, hl, Nat.add_mul], fun i hi => ?_⟩
  by_cases e : i < L.length
  · obtain ⟨c, h1, h2, h3⟩ := h.2 i e
    refine ⟨c, h1, by rw [List.getElem_append_left e]; exact h2, fun j hj => ?_⟩
    rw [List.getElem?_append_left]
    · exact h3 j hj
    · rw [h.1]
      calc i * sz + j < i * sz + sz := by omega
        _ = (i + 1) * sz := (Nat.succ_mul i sz).symm
        _ ≤ L.length * sz := Nat.mul_le_mul_right _ e
  · have e' : i = L.length := by simp at hi; omega
    subst e'
    refine ⟨cs, hl, by simpa using hx, fun j hj => ?_⟩
    rw [List.getElem?_append_right (by rw [h.1]; omega), h.1]
    congr 1; omega
/-- An own list, cut, as it is read. -/
theorem Els.own {α : Type} {sz mx : Nat} {R : (Nat → Prop) → World → List Value → α → Prop} {S : Nat → Prop} {w : World} {base e g cap n c' : Nat} {xs : List Value} {L : List α}
    (hE : Els sz R S w xs L) (h : w.ownsRow base e sz (.slice (some ⟨g, 0, none⟩) L.length cap) L.length xs) (hg : g < w.heap.size) (hS : S g) (hn : n ≤ L.length) (hc : n ≤ c') (hm' : n ≤ mx) :
    Rows sz mx R S w (.slice (some ⟨g, 0, none⟩) n c') (L.take n) := by
  have hlen : (L.take n).length = n := by rw [List.length_take, Nat.min_eq_left hn]
  refine .inr ⟨⟨g, 0, none⟩, c', by rw [hlen], by rw [hlen]; exact hc, by rw [hlen]; exact hm', .inr ⟨rfl, hS, hg, fun i hi => ?_⟩⟩
  have hi' : i < L.length := by simp at hi; omega
  obtain ⟨cs, h1, h2, h3⟩ := hE.2 i hi'
  refine ⟨cs, h1, by rw [List.getElem_take]; exact h2, fun j u hu => ?_⟩
  have hj : j < sz := by have := (List.getElem?_eq_some_iff.1 hu).1; rw [h1] at this; exact this
  show w.cell? ⟨g, 0 + i * sz + j, none⟩ = some u
  rw [Nat.zero_add, h.cellAt _ (by calc i * sz + j < i * sz + sz := by omega
        _ = (i + 1) * sz := (Nat.succ_mul i sz).symm
        _ ≤ L.length * sz := Nat.mul_le_mul_right _ hi'), h3 j hj]
  exact hu
end Go.Proofs.YtnicolaphmffkaaGreatDoor
