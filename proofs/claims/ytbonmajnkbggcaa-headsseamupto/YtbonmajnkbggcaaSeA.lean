import Derived.Test.YtbonmajnkbggcaaSfE
import Derived.Test.YtbonmajnkbggcaaSfB
import Derived.Test.YtbonmajnkbggcaaSfS
import Derived.Deep.RegionHeld3
namespace Go.Proofs.Ytbonmajnkbggcaa
open Go.RowKit
set_option linter.unusedVariables false


/-- Two films, one behind the other. -/
def joinF (p : Nat) (f g : Nat → Nat → Int) : Nat → Nat → Int := fun j k => if j < p then f j k else g (j - p) k
theorem lastF_pre {p : Nat} {f g : Nat → Nat → Int} {x : Nat} : ∀ j, j ≤ p → lastF (fun t => joinF p f g t x) j = lastF (fun t => f t x) j
  | 0, _ => rfl
  | j + 1, h => by
    unfold lastF
    have e : joinF p f g j x = f j x := by unfold joinF; rw [if_pos (by omega)]
    rw [e, lastF_pre j (by omega)]
theorem lastF_join {p : Nat} {f g : Nat → Nat → Int} {x : Nat} : ∀ j : Nat, lastF (fun t => joinF p f g t x) (p + j) ≤ (p : Int) + lastF (fun t => g t x) j
  | 0 => by
    rw [Nat.add_zero, lastF_pre p (Nat.le_refl _)]
    have := (lastF_rng (fun t => f t x) p).2
    show _ ≤ (p : Int) + -1
    omega
  | j + 1 => by
    have ih := lastF_join (p := p) (f := f) (g := g) (x := x) j
    have e : joinF p f g (p + j) x = g j x := by unfold joinF; rw [if_neg (by omega), show p + j - p = j by omega]
    show lastF (fun t => joinF p f g t x) ((p + j) + 1) ≤ _
    unfold lastF
    rw [e]
    by_cases h : g j x = 2
    · rw [if_pos h, if_pos h]; omega
    · rw [if_neg h, if_neg h]; exact ih
theorem join_four {n p m : Nat} {f g : Nat → Nat → Int} (hf : ∀ j k, j < p → k < n → f j k = 0 ∨ f j k = 1 ∨ f j k = 2 ∨ f j k = 3) (hg : ∀ j k, j < m → k < n → g j k = 0 ∨ g j k = 1 ∨ g j k = 2 ∨ g j k = 3) : ∀ j k, j < p + m → k < n → joinF p f g j k = 0 ∨ joinF p f g j k = 1 ∨ joinF p f g j k = 2 ∨ joinF p f g j k = 3 := by
  intro j k hj hk
  unfold joinF
  by_cases h : j < p
  · rw [if_pos h]; exact hf j k h hk
  · rw [if_neg h]; exact hg _ k (by omega) hk
theorem join_clr {C : List Cf} {p m : Nat} {f g : Nat → Nat → Int} (hf : ∀ j, j < p → ∀ c ∈ C, f j c.a.toNat = 0 ∨ f j c.b.toNat = 0) (hg : ∀ j, j < m → ∀ c ∈ C, g j c.a.toNat = 0 ∨ g j c.b.toNat = 0) : ∀ j, j < p + m → ∀ c ∈ C, joinF p f g j c.a.toNat = 0 ∨ joinF p f g j c.b.toNat = 0 := by
  intro j hj c hc
  unfold joinF
  by_cases h : j < p
  · rw [if_pos h, if_pos h]; exact hf j h c hc
  · rw [if_neg h, if_neg h]; exact hg _ (by omega) c hc
def Itr (C : List Cf) (m : Nat) (f : Nat → Nat → Int) : Prop := ∀ j, j < m → ∀ c ∈ C, (f j c.b.toNat ≠ 0 → c.ab < (j : Int) - lastF (fun t => f t c.a.toNat) j) ∧ (f j c.a.toNat ≠ 0 → c.ba < (j : Int) - lastF (fun t => f t c.b.toNat) j)
theorem join_itr {C : List Cf} {p m : Nat} {f g : Nat → Nat → Int} (hf : Itr C p f) (hg : Itr C m g) : Itr C (p + m) (joinF p f g) := by
  intro j hj c hc
  by_cases h : j < p
  · have e : ∀ x, joinF p f g j x = f j x := fun x => by unfold joinF; rw [if_pos h]
    rw [e, e, lastF_pre j (by omega), lastF_pre j (by omega)]
    exact hf j h c hc
  · obtain ⟨i, rfl⟩ : ∃ i, j = p + i := ⟨j - p, by omega⟩
    have e : ∀ x, joinF p f g (p + i) x = g i x := fun x => by unfold joinF; rw [if_neg h, show p + i - p = i by omega]
    have h1 := lastF_join (p := p) (f := f) (g := g) (x := c.a.toNat) i
    have h2 := lastF_join (p := p) (f := f) (g := g) (x := c.b.toNat) i
    have hh := hg i (by omega) c hc
    rw [e, e]
    exact ⟨fun z => by have := hh.1 z; omega, fun z => by have := hh.2 z; omega⟩
/-- The film of a joined list. -/
theorem film_join {w : World} {base g c : Nat} {G : List Gp} {C : List Cf} {M N : List Nat} (h : w.ownsRow base 9 1 (.slice (some ⟨g, 0, none⟩) (M.length + 1 + (N.length + 1)) c) (M.length + 1 + (N.length + 1)) (picsF G C M M.length ++ picsF G C N N.length)) : Film w (.slice (some ⟨g, 0, none⟩) (M.length + 1 + (N.length + 1)) c) G.length (M.length + 1 + (N.length + 1)) (joinF (M.length + 1) (fun j k => (runF G C M j).a k) (fun j k => (runF G C N j).a k)) := by
  have one : ∀ (Q : List Nat) (j : Nat), ∃ s : ByteArray, s = picF G C Q j ∧ s.size = G.length ∧ ∀ (k : Nat) (h : k < s.size), (s[k]'h).toNat = (letN ((runF G C Q j).a k)).toNat := fun Q j => ⟨_, rfl, by unfold picF; rw [showS_size, lst_len], fun k hk => by
    unfold picF at hk ⊢
    have hk' := hk
    rw [showS_size] at hk'
    rw [showS_at _ _ _ hk', lst_get]⟩
  refine ⟨g, c, rfl, (own_lt h g rfl).2, fun j hj => ?_⟩
  have hc := h.cellAt j (show j < (M.length + 1 + (N.length + 1)) * 1 by omega)
  by_cases hj' : j < M.length + 1
  · obtain ⟨s, hs, h1, h2⟩ := one M j
    refine ⟨s, hc.trans ?_, h1, fun k hk => by rw [h2]; unfold joinF; rw [if_pos hj']⟩
    rw [List.getElem?_append_left (by rw [picsF_len]; exact hj')]
    unfold picsF
    rw [List.getElem?_map, List.getElem?_range hj', hs]; rfl
  · obtain ⟨s, hs, h1, h2⟩ := one N (j - (M.length + 1))
    refine ⟨s, hc.trans ?_, h1, fun k hk => by rw [h2]; unfold joinF; rw [if_neg hj']⟩
    rw [List.getElem?_append_right (by rw [picsF_len]; omega), picsF_len]
    unfold picsF
    rw [List.getElem?_map, List.getElem?_range (by omega), hs]; rfl
end Go.Proofs.Ytbonmajnkbggcaa
