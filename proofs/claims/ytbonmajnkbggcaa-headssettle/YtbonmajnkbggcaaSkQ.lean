import Derived.Test.YtbonmajnkbggcaaSfM
import Derived.Test.YtbonmajnkbggcaaSdA
import Derived.Deep.RegionHeld3
import Derived.Test.YtbonmajnkbggcaaSdB
import Derived.Test.YtbonmajnkbggcaaKtA
import Derived.Test.YtbonmajnkbggcaaRSo
import Derived.Test.YtbonmajnkbggcaaShA
import Derived.Test.YtbonmajnkbggcaaSfA
namespace Go.Proofs.Ytbonmajnkbggcaa
open Go.RowKit
set_option linter.unusedVariables false

theorem beg_off {G : List Gp} {C : List Cf} {A W : List Int} {M : Nat} {f0 : Nat → Int} {j : Nat} (hj : M.testBit j = false) : ∀ m, begF G C A W M f0 m j = f0 j := by
  intro m
  induction m with
  | zero => rfl
  | succ m ih =>
    unfold begF
    by_cases hs : startB C A W M G.length (begF G C A W M f0 m) m = true
    · rw [if_pos hs]
      unfold updF
      by_cases e : j = m
      · subst e
        unfold startB at hs
        simp [hj] at hs
      · rw [if_neg e]; exact ih
    · rw [if_neg hs]; exact ih
theorem beg_start {G : List Gp} {C : List Cf} {A W : List Int} {M : Nat} {f0 : Nat → Int} {j : Nat} (hs : startB C A W M G.length (begF G C A W M f0 j) j = true) : ∀ d, begF G C A W M f0 (j + 1 + d) j = firstF (G.getD j gp0) := by
  intro d
  induction d with
  | zero =>
    show begF G C A W M f0 (j + 1) j = _
    unfold begF
    rw [if_pos hs]
    unfold updF
    rw [if_pos rfl]
  | succ d ih =>
    show begF G C A W M f0 ((j + 1 + d) + 1) j = _
    unfold begF
    by_cases h : startB C A W M G.length (begF G C A W M f0 (j + 1 + d)) (j + 1 + d) = true
    · rw [if_pos h]
      unfold updF
      rw [if_neg (by omega)]; exact ih
    · rw [if_neg h]; exact ih
/-- No row joins two that are wanted. -/
def fitM (C : List Cf) (M : Nat) : Prop := ∀ c ∈ C, ¬ (M.testBit c.a.toNat = true ∧ M.testBit c.b.toNat = true)
/-- One step, group by group. -/
theorem next_off {G : List Gp} {C : List Cf} {h : F3} {M j : Nat} (hj : j < G.length) (hm : M.testBit j = false) : (F3.next G C h M).a j = aloneF (G.getD j gp0) (h.a j) (h.i j) false := by
  unfold F3.next
  show nxF G C _ _ _ M j = _
  unfold nxF
  rw [beg_off hm]
  unfold alF
  rw [lst_getD hj, lst_getD hj, hm]
theorem next_on {G : List Gp} {C : List Cf} {h : F3} {M j : Nat} (hj : j < G.length) (hm : M.testBit j = true) (ha : h.a j ≠ 0) : (F3.next G C h M).a j = aloneF (G.getD j gp0) (h.a j) (h.i j) true := by
  unfold F3.next
  show nxF G C _ _ _ M j = _
  unfold nxF
  rcases beg_at (G := G) (C := C) (A := lst64 G.length h.a) (W := lst64 G.length h.w) (M := M) (f0 := alF G (lst64 G.length h.a) (lst64 G.length h.i) M) j G.length with q | ⟨q, _⟩
  · rw [q]
    unfold alF
    rw [lst_getD hj, lst_getD hj, hm]
  · rw [lst_getD hj] at q; exact absurd q ha
theorem next_red {G : List Gp} {C : List Cf} {h : F3} {M j : Nat} (hj : j < G.length) (ha : h.a j = 0) : (F3.next G C h M).a j = 0 ∨ (F3.next G C h M).a j = firstF (G.getD j gp0) := by
  unfold F3.next
  show nxF G C _ _ _ M j = 0 ∨ nxF G C _ _ _ M j = _
  unfold nxF
  rcases beg_at (G := G) (C := C) (A := lst64 G.length h.a) (W := lst64 G.length h.w) (M := M) (f0 := alF G (lst64 G.length h.a) (lst64 G.length h.i) M) j G.length with q | ⟨_, q⟩
  · left
    rw [q]
    unfold alF
    rw [lst_getD hj, ha]
    exact alone_red
  · exact .inr q
theorem next_go {G : List Gp} {C : List Cf} {h : F3} {M j : Nat} (hg : gridB G C = true) (hf : fitM C M) (hj : j < G.length) (hm : M.testBit j = true) (ha : h.a j = 0)
    (hw : ∀ c ∈ C, (c.b.toNat = j → c.ab ≤ h.w c.a.toNat) ∧ (c.a.toNat = j → c.ba ≤ h.w c.b.toNat))
    (hz : ∀ o, o < G.length → M.testBit o = false → aloneF (G.getD o gp0) (h.a o) (h.i o) false = 0) : (F3.next G C h M).a j = firstF (G.getD j gp0) := by
  have rng := grid_cfm hg
  have hne : ∀ (k : Nat) (hk : k < C.length), C[k].a.toNat ≠ C[k].b.toNat := fun i hi => by have := rng C[i] (List.getElem_mem hi); omega
  unfold F3.next
  show nxF G C _ _ _ M j = _
  unfold nxF
  obtain ⟨d, hd⟩ : ∃ d, G.length = j + 1 + d := ⟨G.length - (j + 1), by omega⟩
  have hs : startB C (lst64 G.length h.a) (lst64 G.length h.w) M G.length (begF G C (lst64 G.length h.a) (lst64 G.length h.w) M (alF G (lst64 G.length h.a) (lst64 G.length h.i) M) j) j = true := by
    unfold startB
    simp only [Bool.and_eq_true, decide_eq_true_eq, Bool.not_eq_true']
    refine ⟨by rw [lst_getD hj]; exact ha, hm, ?_, ?_⟩
    · rw [heldM_bit _ _ _ _ (Nat.le_refl _), List.take_length, List.any_eq_false]
      intro c hc
      have b := rng c hc
      have := hw c hc
      unfold holds atI
      rw [lst_getD (by omega), lst_getD (by omega)]
      simp only [Bool.or_eq_true, Bool.and_eq_true, decide_eq_true_eq, not_or, not_and]
      exact ⟨fun h1 h2 => by have := this.1 h2; omega, fun h1 h2 => by have := this.2 h2; omega⟩
    · rw [and_zero]
      rintro x ⟨hx1, hx2⟩
      rw [foM_bit j x hne C.length (Nat.le_refl _), List.take_length, List.any_eq_true] at hx1
      obtain ⟨c, hc, hp⟩ := hx1
      have b := rng c hc
      rw [litM_bit] at hx2
      simp only [Bool.and_eq_true, decide_eq_true_eq] at hx2
      unfold pairB at hp
      simp only [Bool.or_eq_true, Bool.and_eq_true, decide_eq_true_eq] at hp
      have hxm : M.testBit x = false := by
        cases hq : M.testBit x with
        | false => rfl
        | true =>
          exfalso
          rcases hp with ⟨h1, h2⟩ | ⟨h1, h2⟩
          · exact hf c hc ⟨by rw [← h1]; exact hm, by rw [h2]; exact hq⟩
          · exact hf c hc ⟨by rw [h2]; exact hq, by rw [← h1]; exact hm⟩
      apply hx2.2
      rw [beg_off hxm]
      unfold alF
      rw [lst_getD hx2.1, lst_getD hx2.1, hxm]
      exact hz x hx2.1 hxm
  have := beg_start hs d
  rw [← hd] at this
  exact this
/-- Again and again with one want. -/
def stF (G : List Gp) (C : List Cf) (M : Nat) (h : F3) : Nat → F3
  | 0 => h
  | k + 1 => F3.next G C (stF G C M h k) M
theorem okf_st {G : List Gp} {C : List Cf} {M : Nat} {h : F3} (hg : gridB G C = true) (ok : Okf G C h) : ∀ k, Okf G C (stF G C M h k)
  | 0 => ok
  | k + 1 => okf_next hg (okf_st hg ok k) M
theorem okf_at {G : List Gp} {C : List Cf} {h : F3} (ok : Okf G C h) {j : Nat} (hj : j < G.length) : 1 ≤ h.i j ∧ 0 ≤ h.w j ∧ (h.a j = 2 ↔ h.w j = 0) ∧ (h.a j = 0 ∨ h.a j = 2 ∨ (h.a j = 1 ∧ h.i j ≤ (G.getD j gp0).lead) ∨ (h.a j = 3 ∧ h.i j ≤ (G.getD j gp0).amber)) := by
  have o := ok.1
  unfold fitsB at o
  simp only [Bool.and_eq_true, decide_eq_true_eq] at o
  have := fitsF_get o.2.2.2.1 o.1 o.2.1 o.2.2.1 j hj
  rw [lst_get, lst_get, lst_get] at this
  rw [show G.getD j gp0 = G[j] by simp [List.getD_eq_getElem?_getD, hj]]
  unfold fitB at this
  simp only [Bool.and_eq_true, Bool.or_eq_true, decide_eq_true_eq, beq_iff_eq, decide_eq_decide] at this
  exact ⟨this.1, this.2.1, this.2.2.1, this.2.2.2⟩
/-- What the wait is made of. -/
structure Wt (G : List Gp) (C : List Cf) (ld lo cl : Int) : Prop where
  g : ∀ j, j < G.length → 0 ≤ (G.getD j gp0).lead ∧ (G.getD j gp0).lead ≤ ld ∧ 1 ≤ (G.getD j gp0).min ∧ (G.getD j gp0).min ≤ lo ∧ 0 ≤ (G.getD j gp0).amber ∧ (G.getD j gp0).amber ≤ cl
  c : ∀ c ∈ C, c.ab ≤ cl ∧ c.ba ≤ cl
  l0 : 0 ≤ ld
  c0 : 0 ≤ cl
  big : ld ≤ 60 ∧ lo ≤ 3600 ∧ cl ≤ 3600
theorem upF_at {x : Int} (h : 0 ≤ x) : (x < 2147483647 → upF x = x + 1) ∧ (2147483647 ≤ x → upF x ≥ 2147483647) ∧ upF x ≥ 1 := by
  unfold upF
  by_cases e : x = 2147483647
  · rw [if_pos e]; omega
  · rw [if_neg e, if_neg (by omega)]; omega
/-- A group that is not wanted: at which time it is what at the latest. -/
def Un (g : Gp) (ll cl t a i w : Int) : Prop :=
  (a = 1 ∧ (g.lead - i + 1) + g.min + t ≤ ll) ∨ (a = 2 ∧ 1 + t ≤ ll ∧ g.min - i + 1 + t ≤ ll) ∨ (a = 3 ∧ g.amber - i + 1 + t ≤ ll + cl ∧ (t - ll + 1 ≤ w ∨ 2147483647 ≤ w)) ∨ (a = 0 ∧ (t - ll + 1 ≤ w ∨ 2147483647 ≤ w))
theorem un_step {G : List Gp} {C : List Cf} {M : Nat} {h : F3} {ld lo cl t : Int} {j : Nat} (ok : Okf G C h) (wt : Wt G C ld lo cl) (hj : j < G.length) (hm : M.testBit j = false) (ht : 0 ≤ t) (u : Un (G.getD j gp0) (ld + lo) cl t (h.a j) (h.i j) (h.w j)) :
    Un (G.getD j gp0) (ld + lo) cl (t + 1) ((F3.next G C h M).a j) ((F3.next G C h M).i j) ((F3.next G C h M).w j) := by
  have e := next_off (C := C) (h := h) hj hm
  have o := okf_at ok hj
  have b := wt.g j hj
  have big := wt.big
  have ei : (F3.next G C h M).i j = (if (F3.next G C h M).a j = h.a j then upF (h.i j) else 1) := by
    show inF _ _ _ j = _
    unfold inF
    rw [lst_getD hj, lst_getD hj]; rfl
  have ew : (F3.next G C h M).w j = (if (F3.next G C h M).a j = 2 then 0 else upF (h.w j)) := by
    show awF _ _ j = _
    unfold awF
    rw [lst_getD hj]; rfl
  rw [ei, ew, e]
  have ui := upF_at (x := h.i j) (by omega)
  have uw := upF_at (x := h.w j) o.2.1
  generalize G.getD j gp0 = g at *
  generalize h.a j = a at *
  generalize h.i j = i at *
  generalize h.w j = w at *
  clear e ei ew ok
  unfold Un at u ⊢
  unfold aloneF
  rcases u with ⟨rfl, u⟩ | ⟨rfl, u1, u2⟩ | ⟨rfl, u1, u2⟩ | ⟨rfl, u1⟩
  · simp only [show ¬ (1 : Int) = 2 by decide, show ¬ (1 : Int) = 3 by decide, if_false, if_true]
    by_cases d : i < g.lead
    · rw [if_pos d, if_pos rfl, if_neg (by decide)]
      exact .inl ⟨rfl, by have := ui.1 (by omega); omega⟩
    · rw [if_neg d, if_neg (by decide), if_pos rfl]
      exact .inr (.inl ⟨rfl, by omega, by omega⟩)
  · simp only [if_true, Bool.false_eq_true, if_false]
    by_cases d : i < g.min
    · rw [if_pos d, if_pos rfl, if_pos rfl]
      exact .inr (.inl ⟨rfl, by omega, by have := ui.1 (by omega); omega⟩)
    · rw [if_neg d]
      have w0 : w = 0 := o.2.2.1.1 rfl
      have := uw.1 (by omega)
      by_cases d3 : 0 < g.amber
      · rw [if_pos d3, if_neg (by decide), if_neg (by decide)]
        exact .inr (.inr (.inl ⟨rfl, by omega, .inl (by omega)⟩))
      · rw [if_neg d3, if_neg (by decide), if_neg (by decide)]
        exact .inr (.inr (.inr ⟨rfl, .inl (by omega)⟩))
  · simp only [show ¬ (3 : Int) = 2 by decide, if_false, if_true]
    have hw : t + 1 - (ld + lo) + 1 ≤ upF w ∨ 2147483647 ≤ upF w := by
      by_cases q : w < 2147483647
      · have := uw.1 q; omega
      · exact .inr (uw.2.1 (by omega))
    by_cases d : i < g.amber
    · rw [if_pos d, if_pos rfl, if_neg (by decide)]
      exact .inr (.inr (.inl ⟨rfl, by have := ui.1 (by omega); omega, hw⟩))
    · rw [if_neg d, if_neg (by decide), if_neg (by decide)]
      exact .inr (.inr (.inr ⟨rfl, hw⟩))
  · simp only [show ¬ (0 : Int) = 2 by decide, show ¬ (0 : Int) = 3 by decide, show ¬ (0 : Int) = 1 by decide, if_false, if_true]
    have hw : t + 1 - (ld + lo) + 1 ≤ upF w ∨ 2147483647 ≤ upF w := by
      by_cases q : w < 2147483647
      · have := uw.1 q; omega
      · exact .inr (uw.2.1 (by omega))
    exact .inr (.inr (.inr ⟨trivial, hw⟩))
theorem un_all {G : List Gp} {C : List Cf} {M : Nat} {h : F3} {ld lo cl : Int} {j : Nat} (hg : gridB G C = true) (ok : Okf G C h) (wt : Wt G C ld lo cl) (hj : j < G.length) (hm : M.testBit j = false) : ∀ k : Nat, Un (G.getD j gp0) (ld + lo) cl (k : Int) ((stF G C M h k).a j) ((stF G C M h k).i j) ((stF G C M h k).w j) := by
  intro k
  induction k with
  | zero =>
    have o := okf_at ok hj
    have b := wt.g j hj
    have c0 := wt.c0
    have l0 := wt.l0
    show Un _ _ _ _ (h.a j) (h.i j) (h.w j)
    unfold Un
    have hw : h.a j ≠ 2 → 1 ≤ h.w j := fun q => by
      have := o.2.1
      have : h.w j ≠ 0 := fun z => q (o.2.2.1.2 z)
      omega
    rcases o.2.2.2 with q | q | q | q
    · exact .inr (.inr (.inr ⟨q, .inl (by have := hw (by omega); omega)⟩))
    · exact .inr (.inl ⟨q, by omega, by omega⟩)
    · exact .inl ⟨q.1, by omega⟩
    · exact .inr (.inr (.inl ⟨q.1, by omega, .inl (by have := hw (by omega); omega)⟩))
  | succ k ih =>
    have := un_step (okf_st hg ok k) wt hj hm (by omega) ih
    rw [show ((k + 1 : Nat) : Int) = (k : Int) + 1 by omega]
    exact this
/-- A group that is wanted. -/
def Wn (g : Gp) (ld ll cl t a i : Int) : Prop :=
  a = 2 ∨ (a = 1 ∧ (g.lead - i + 1) + t ≤ ld + ll + cl) ∨ (a = 3 ∧ g.amber - i + 1 + t ≤ cl) ∨ (a = 0 ∧ t < ll + cl)
theorem wn_step {G : List Gp} {C : List Cf} {M : Nat} {h : F3} {ld lo cl t : Int} {j : Nat} (hg : gridB G C = true) (hf : fitM C M) (ok : Okf G C h) (wt : Wt G C ld lo cl) (hj : j < G.length) (hm : M.testBit j = true) (ht : 0 ≤ t)
    (un : ∀ o, o < G.length → M.testBit o = false → Un (G.getD o gp0) (ld + lo) cl t (h.a o) (h.i o) (h.w o)) (u : Wn (G.getD j gp0) ld (ld + lo) cl t (h.a j) (h.i j)) :
    Wn (G.getD j gp0) ld (ld + lo) cl (t + 1) ((F3.next G C h M).a j) ((F3.next G C h M).i j) := by
  have o := okf_at ok hj
  have b := wt.g j hj
  have big := wt.big
  have rng := grid_cfm hg
  have c0 := wt.c0
  have ei : (F3.next G C h M).i j = (if (F3.next G C h M).a j = h.a j then upF (h.i j) else 1) := by
    show inF _ _ _ j = _
    unfold inF
    rw [lst_getD hj, lst_getD hj]; rfl
  have ui := upF_at (x := h.i j) (by omega)
  unfold Wn at u ⊢
  by_cases z : h.a j = 0
  · have lt : t < ld + lo + cl := by omega
    have first : (F3.next G C h M).a j = firstF (G.getD j gp0) → (F3.next G C h M).a j = 2 ∨ ((F3.next G C h M).a j = 1 ∧ ((G.getD j gp0).lead - (F3.next G C h M).i j + 1) + (t + 1) ≤ ld + (ld + lo) + cl) := fun q => by
      rw [ei, q, z]
      unfold firstF
      by_cases d : 0 < (G.getD j gp0).lead
      · rw [if_pos d, if_neg (by decide)]
        exact .inr ⟨rfl, by omega⟩
      · rw [if_neg d]; exact .inl rfl
    by_cases late : t = ld + lo + cl - 1
    · have q := next_go hg hf hj hm z (fun c hc => by
        have bc := rng c hc
        have wc := wt.c c hc
        have key : ∀ x, x < G.length → M.testBit x = false → cl ≤ h.w x := fun x hx hxm => by
          have := un x hx hxm
          have bx := wt.g x hx
          have ox := okf_at ok hx
          unfold Un at this
          omega
        refine ⟨fun e => ?_, fun e => ?_⟩
        · have hx : M.testBit c.a.toNat = false := by
            cases hq : M.testBit c.a.toNat with
            | false => rfl
            | true => exact absurd ⟨hq, by rw [e]; exact hm⟩ (hf c hc)
          have := key c.a.toNat (by omega) hx
          omega
        · have hx : M.testBit c.b.toNat = false := by
            cases hq : M.testBit c.b.toNat with
            | false => rfl
            | true => exact absurd ⟨by rw [e]; exact hm, hq⟩ (hf c hc)
          have := key c.b.toNat (by omega) hx
          omega) (fun x hx hxm => by
        have := un x hx hxm
        have bx := wt.g x hx
        have ox := okf_at ok hx
        unfold Un at this
        unfold aloneF
        rcases this with ⟨q, r⟩ | ⟨q, r⟩ | ⟨q, r, _⟩ | ⟨q, _⟩
        · omega
        · rw [q]
          simp only [if_true, Bool.false_eq_true, if_false]
          rw [if_neg (by omega), if_neg (by omega)]
        · rw [q]
          simp only [show ¬ (3 : Int) = 2 by decide, if_false, if_true]
          rw [if_neg (by omega)]
        · rw [q]; simp)
      rcases first q with r | r
      · exact .inl r
      · exact .inr (.inl r)
    · rcases next_red (C := C) (h := h) (M := M) hj z with q | q
      · exact .inr (.inr (.inr ⟨q, by omega⟩))
      · rcases first q with r | r
        · exact .inl r
        · exact .inr (.inl r)
  · have e := next_on (C := C) hj hm z
    rw [ei, e]
    generalize G.getD j gp0 = g at *
    generalize h.a j = a at *
    generalize h.i j = i at *
    clear e ei
    unfold aloneF
    rcases u with rfl | ⟨rfl, u⟩ | ⟨rfl, u⟩ | ⟨rfl, u⟩
    · left; simp
    · simp only [show ¬ (1 : Int) = 2 by decide, show ¬ (1 : Int) = 3 by decide, if_false, if_true]
      by_cases d : i < g.lead
      · rw [if_pos d, if_pos rfl]
        exact .inr (.inl ⟨rfl, by have := ui.1 (by omega); omega⟩)
      · rw [if_neg d]; exact .inl rfl
    · simp only [show ¬ (3 : Int) = 2 by decide, if_false, if_true]
      by_cases d : i < g.amber
      · rw [if_pos d, if_pos rfl]
        exact .inr (.inr (.inl ⟨rfl, by have := ui.1 (by omega); omega⟩))
      · rw [if_neg d]
        exact .inr (.inr (.inr ⟨rfl, by have := wt.l0; omega⟩))
    · exact absurd rfl z
theorem wn_all {G : List Gp} {C : List Cf} {M : Nat} {h : F3} {ld lo cl : Int} {j : Nat} (hg : gridB G C = true) (hf : fitM C M) (ok : Okf G C h) (wt : Wt G C ld lo cl) (hj : j < G.length) (hm : M.testBit j = true) : ∀ k : Nat, Wn (G.getD j gp0) ld (ld + lo) cl (k : Int) ((stF G C M h k).a j) ((stF G C M h k).i j) := by
  intro k
  induction k with
  | zero =>
    have o := okf_at ok hj
    have b := wt.g j hj
    have c0 := wt.c0
    have l0 := wt.l0
    show Wn _ _ _ _ _ (h.a j) (h.i j)
    unfold Wn
    rcases o.2.2.2 with q | q | q | q
    · exact .inr (.inr (.inr ⟨q, by omega⟩))
    · exact .inl q
    · exact .inr (.inl ⟨q.1, by omega⟩)
    · exact .inr (.inr (.inl ⟨q.1, by omega⟩))
  | succ k ih =>
    have := wn_step hg hf (okf_st hg ok k) wt hj hm (by omega) (fun o ho hom => un_all hg ok wt ho hom k) ih
    rw [show ((k + 1 : Nat) : Int) = (k : Int) + 1 by omega]
    exact this
/-- Behind the wait all is settled, and stays so. -/
theorem settled_at {G : List Gp} {C : List Cf} {M : Nat} {h : F3} {ld lo cl : Int} (hg : gridB G C = true) (hf : fitM C M) (ok : Okf G C h) (wt : Wt G C ld lo cl) (k : Nat) (hk : 2 * ld + lo + cl ≤ (k : Int)) (j : Nat) (hj : j < G.length) : (stF G C M h k).a j = if M.testBit j = true then 2 else 0 := by
  have b := wt.g j hj
  have l0 := wt.l0
  have c0 := wt.c0
  have o := okf_at (okf_st (M := M) hg ok k) hj
  cases hm : M.testBit j with
  | true =>
    have := wn_all hg hf ok wt hj hm k
    unfold Wn at this
    rw [if_pos rfl]
    omega
  | false =>
    have := un_all hg ok wt hj hm k
    unfold Un at this
    rw [if_neg (by decide)]
    omega
end Go.Proofs.Ytbonmajnkbggcaa
namespace Go.Proofs.Ytbonmajnkbggcaa
open Go.RowKit
set_option linter.unusedVariables false


def FitP (C : List Cf) (M : Nat) (e : Ending) : Prop := ∃ b, e = .returned (.bool b) ∧ (b = true ↔ fitM C M)
set_option maxRecDepth 100000 in
set_option maxHeartbeats 4000000 in
theorem headsFits_any (G : List Gp) (C : List Cf) (vg vc : Value) (M : Nat) (w : World) (h1 : Fl 5 Gp.cs w vg G) (h2 : Fl 4 Cf.cs w vc C) (lC : C.length ≤ 4398046511000) (hM : M < 18446744073709551616) (hg : gridB G C = true) :
    Calls Try.prog 29 #[.agg #[vg, vc], .int .u64 (M : Int)] w fun e w' => FitP C M e ∧ Below w.heap.size w w' := by
  have l64 := grid_len hg
  have rng := grid_cfm hg
  obtain ⟨va, cg, rfl, -⟩ := h1.any
  obtain ⟨vb, cc, rfl, kC⟩ := h2.any
  clear h1 h2
  have B0 : Has (w.alloc (.cells #[.slice va G.length cg, .slice vb C.length cc] 25)) w.heap.size #[.slice va G.length cg, .slice vb C.length cc] := Has.new _ _ _ rfl
  have hb0 : Below w.heap.size w (w.alloc (.cells #[.slice va G.length cg, .slice vb C.length cc] 25)) := belN1
  go_enter Try.func29, Try.ntmps29
  go_wp2_with fail
  generalize (w.alloc (.cells #[.slice va G.length cg, .slice vb C.length cc] 25)) = W0 at *
  go_loopw [5] (fun t wr => ∃ i : Nat, i ≤ C.length ∧ t = .int .i64 (i : Int) ∧ Hid (∀ k (h : k < C.length), k < i → ¬ (M.testBit C[k].a.toNat = true ∧ M.testBit C[k].b.toNat = true)) ∧ Hid (Has wr w.heap.size #[.slice va G.length cg, .slice vb C.length cc]) ∧ Hid (Below w.heap.size w wr)) (fun t _ => C.length - (intOf t).toNat)
  case atStart => exact ⟨0, by omega, rfl, fun k _ h => absurd h (by omega), B0, hb0⟩
  case round =>
    clear B0 hb0
    obtain ⟨i, him, rfl, A', B', hb'⟩ := hrel
    have A := A'.out
    have B := B'.out
    have hb := hb'.out
    clear A' B' hb'
    obtain ⟨_, b1, _⟩ := id B
    by_cases ilt : i < C.length
    · obtain ⟨g, o, rfl, hg', P⟩ := kC.resolve_left (by intro e; rw [e] at ilt; simp at ilt)
      have p0 := (hb.cell (p := ⟨g, _, none⟩) hg').trans (P i ilt 0 _ rfl)
      have p1 := (hb.cell (p := ⟨g, _, none⟩) hg').trans (P i ilt 1 _ rfl)
      have p2 := (hb.cell (p := ⟨g, _, none⟩) hg').trans (P i ilt 2 _ rfl)
      have p3 := (hb.cell (p := ⟨g, _, none⟩) hg').trans (P i ilt 3 _ rfl)
      simp only [Nat.add_zero] at p0
      obtain ⟨m1, m2, m3⟩ := rng C[i] (List.getElem_mem ilt)
      have step : ¬ (M.testBit C[i].a.toNat = true ∧ M.testBit C[i].b.toNat = true) → Hid (∀ k (h : k < C.length), k < i + 1 → ¬ (M.testBit C[k].a.toNat = true ∧ M.testBit C[k].b.toNat = true)) := fun z k hk hki => by
        by_cases e : k = i
        · subst e; exact z
        · exact A k hk (by omega)
      obtain ⟨na, ea⟩ : ∃ n : Nat, C[i].a = (n : Int) := ⟨C[i].a.toNat, by omega⟩
      obtain ⟨nb, eb⟩ : ∃ n : Nat, C[i].b = (n : Int) := ⟨C[i].b.toNat, by omega⟩
      rw [ea, eb, Int.toNat_natCast, Int.toNat_natCast] at step
      rw [ea] at p0
      rw [eb] at p1
      have t1 : (i : Int) < (C.length : Int) := by omega
      have t0 : (0 : Int) ≤ (i : Int) := by omega
      have a0 : (0 : Int) ≤ (na : Int) := by omega
      have a1 : (na : Int) < 64 := by omega
      have a2 : min na 64 = na := by omega
      have a3 : ((na : Int)).toNat = na := by omega
      have a4 : IntKind.u64.wrap (na : Int) = (na : Int) := by rw [IntKind.wrap_u64]; omega
      have c0 : (0 : Int) ≤ (nb : Int) := by omega
      have c1 : (nb : Int) < 64 := by omega
      have c2 : min nb 64 = nb := by omega
      have c3 : ((nb : Int)).toNat = nb := by omega
      have c4 : IntKind.u64.wrap (nb : Int) = (nb : Int) := by rw [IntKind.wrap_u64]; omega
      have bad : M.testBit na = true → M.testBit nb = true → ¬ fitM C M := fun h1 h2 F => F C[i] (List.getElem_mem ilt) ⟨by rw [ea, Int.toNat_natCast]; exact h1, by rw [eb, Int.toNat_natCast]; exact h2⟩
      clear P kC rng A m1 m2 m3 ea eb p2 p3
      cases ha : M.testBit na with
      | false =>
        have nA := step (by rw [ha]; simp)
        have ea : (bits .and .u64 ((M : Int) / 2 ^ na) 1 == 1) = false := (bit1 M na hM).trans ha
        clear step ha bad
        go_wp2_with fail
        go_roundw
        case rel => exact ⟨i + 1, by omega, by go_num, nA, B, hb⟩
        case measure => simp [intOf]; omega
      | true =>
        cases hb2 : M.testBit nb with
        | false =>
          have nA := step (by rw [hb2]; simp)
          have ea : (bits .and .u64 ((M : Int) / 2 ^ na) 1 == 1) = true := (bit1 M na hM).trans ha
          have eb : (bits .and .u64 ((M : Int) / 2 ^ nb) 1 == 1) = false := (bit1 M nb hM).trans hb2
          clear step ha hb2 bad
          go_wp2_with fail
          go_roundw
          case rel => exact ⟨i + 1, by omega, by go_num, nA, B, hb⟩
          case measure => simp [intOf]; omega
        | true =>
          have ea : (bits .and .u64 ((M : Int) / 2 ^ na) 1 == 1) = true := (bit1 M na hM).trans ha
          have eb : (bits .and .u64 ((M : Int) / 2 ^ nb) 1 == 1) = true := (bit1 M nb hM).trans hb2
          have nF := bad ha hb2
          clear step ha hb2 bad
          go_wp2_with fail
          go_ret
          exact ⟨⟨false, rfl, (fun h => nomatch h), fun F => absurd F nF⟩, hb⟩
    · have t1 : ¬ (i : Int) < (C.length : Int) := by omega
      have F : fitM C M := fun c hc => by
        obtain ⟨k, hk, e⟩ := List.getElem_of_mem hc
        have := A k hk (by omega)
        rw [e] at this
        exact this
      clear A rng
      go_wp2_with fail
      go_ret
      exact ⟨⟨true, rfl, fun _ => F, fun _ => rfl⟩, hb⟩
end Go.Proofs.Ytbonmajnkbggcaa
namespace Go.Proofs.Ytbonmajnkbggcaa
open Go.RowKit
set_option linter.unusedVariables false


def mx (x y : Int) : Int := if y > x then y else x
theorem mx_l (x y : Int) : x ≤ mx x y := by unfold mx; split <;> omega
theorem mx_r (x y : Int) : y ≤ mx x y := by unfold mx; split <;> omega
theorem mx_u {x y b : Int} (h : x ≤ b) (k : y ≤ b) : mx x y ≤ b := by unfold mx; split <;> omega
/-- What HeadsWait has met so far. -/
structure W1 (G : List Gp) (i : Nat) (ld lo cl : Int) : Prop where
  g : ∀ j, j < i → j < G.length → (G.getD j gp0).lead ≤ ld ∧ (G.getD j gp0).min ≤ lo ∧ (G.getD j gp0).amber ≤ cl
  r : 0 ≤ ld ∧ ld ≤ 60 ∧ 0 ≤ lo ∧ lo ≤ 3600 ∧ 0 ≤ cl ∧ cl ≤ 3600
theorem W1.next {G : List Gp} {C : List Cf} (hg : gridB G C = true) {i : Nat} (hi : i < G.length) {ld lo cl : Int} (h : W1 G i ld lo cl) : W1 G (i + 1) (mx ld G[i].lead) (mx lo G[i].min) (mx cl G[i].amber) := by
  have eG : G.getD i gp0 = G[i] := by simp [List.getD_eq_getElem?_getD, hi]
  have hgp := grid_gp hg i hi
  unfold gpB timeB amberB at hgp
  simp only [Bool.and_eq_true, Bool.or_eq_true, decide_eq_true_eq] at hgp
  obtain ⟨r1, r2, r3, r4, r5, r6⟩ := h.r
  have m1 := mx_l ld G[i].lead
  have m2 := mx_l lo G[i].min
  have m3 := mx_l cl G[i].amber
  have m4 := mx_r ld G[i].lead
  have m5 := mx_r lo G[i].min
  have m6 := mx_r cl G[i].amber
  have u1 := mx_u r2 (show G[i].lead ≤ 60 by omega)
  have u2 := mx_u r4 (show G[i].min ≤ 3600 by omega)
  have u3 := mx_u r6 (show G[i].amber ≤ 3600 by omega)
  refine ⟨fun j hj hjl => ?_, by omega, u1, by omega, u2, by omega, u3⟩
  by_cases e : j = i
  · subst e; rw [eG]; exact ⟨m4, m5, m6⟩
  · have := h.g j (by omega) hjl
    omega
structure W2 (G : List Gp) (C : List Cf) (i : Nat) (ld lo cl : Int) : Prop where
  w : W1 G G.length ld lo cl
  c : ∀ k (h : k < C.length), k < i → C[k].ab ≤ cl ∧ C[k].ba ≤ cl
theorem W2.next {G : List Gp} {C : List Cf} (hg : gridB G C = true) {i : Nat} (hi : i < C.length) {ld lo cl : Int} (h : W2 G C i ld lo cl) : W2 G C (i + 1) ld lo (mx (mx cl C[i].ab) C[i].ba) := by
  have b := grid_cf hg i hi
  obtain ⟨r1, r2, r3, r4, r5, r6⟩ := h.w.r
  have m1 := mx_l cl C[i].ab
  have m2 := mx_r cl C[i].ab
  have m3 := mx_l (mx cl C[i].ab) C[i].ba
  have m4 := mx_r (mx cl C[i].ab) C[i].ba
  have u := mx_u (mx_u r6 (show C[i].ab ≤ 3600 by omega)) (show C[i].ba ≤ 3600 by omega)
  refine ⟨⟨fun j hj hjl => by have := h.w.g j hj hjl; omega, r1, r2, r3, r4, by omega, u⟩, fun k hk hki => ?_⟩
  by_cases e : k = i
  · subst e; exact ⟨by omega, by omega⟩
  · have := h.c k hk (by omega)
    omega
theorem W2.wt {G : List Gp} {C : List Cf} (hg : gridB G C = true) {ld lo cl : Int} (h : W2 G C C.length ld lo cl) : Wt G C ld lo cl := by
  obtain ⟨r1, r2, r3, r4, r5, r6⟩ := h.w.r
  refine ⟨fun j hj => ?_, fun c hc => ?_, r1, r5, r2, r4, r6⟩
  · have := h.w.g j hj hj
    have eG : G.getD j gp0 = G[j] := by simp [List.getD_eq_getElem?_getD, hj]
    have hgp := grid_gp hg j hj
    unfold gpB timeB amberB at hgp
    simp only [Bool.and_eq_true, Bool.or_eq_true, decide_eq_true_eq] at hgp
    rw [eG] at this ⊢
    omega
  · obtain ⟨k, hk, e⟩ := List.getElem_of_mem hc
    have := h.c k hk hk
    rw [e] at this
    exact this
set_option maxRecDepth 100000 in
set_option maxHeartbeats 4000000 in
theorem headsWait_any (G : List Gp) (C : List Cf) (vg vc : Value) (w : World) (h1 : Fl 5 Gp.cs w vg G) (h2 : Fl 4 Cf.cs w vc C) (lC : C.length ≤ 4398046511000) (hg : gridB G C = true) :
    Calls Try.prog 28 #[.agg #[vg, vc]] w fun e w' => (∃ ld lo cl, e = .returned (.int .i64 (2 * ld + lo + cl)) ∧ Wt G C ld lo cl ∧ 0 ≤ lo) ∧ Below w.heap.size w w' := by
  have l64 := grid_len hg
  obtain ⟨va, cg, rfl, kG⟩ := h1.any
  obtain ⟨vb, cc, rfl, kC⟩ := h2.any
  clear h1 h2
  have B0 : Has (w.alloc (.cells #[.slice va G.length cg, .slice vb C.length cc] 25)) w.heap.size #[.slice va G.length cg, .slice vb C.length cc] := Has.new _ _ _ rfl
  have hb0 : Below w.heap.size w (w.alloc (.cells #[.slice va G.length cg, .slice vb C.length cc] 25)) := belN1
  go_enter Try.func28, Try.ntmps28
  go_wp2_with fail
  generalize (w.alloc (.cells #[.slice va G.length cg, .slice vb C.length cc] 25)) = W0 at *
  go_loopw [3, 4, 5, 6] (fun x y z t wr => ∃ (i : Nat) (ld lo cl : Int), i ≤ G.length ∧ x = .int .i64 ld ∧ y = .int .i64 lo ∧ z = .int .i64 cl ∧ t = .int .i64 (i : Int) ∧ Hid (W1 G i ld lo cl) ∧ Hid (Has wr w.heap.size #[.slice va G.length cg, .slice vb C.length cc]) ∧ Hid (Below w.heap.size w wr)) (fun _ _ _ t _ => G.length - (intOf t).toNat)
  case atStart => exact ⟨0, 0, 0, 0, by omega, rfl, rfl, rfl, rfl, ⟨fun j h => absurd h (by omega), by omega⟩, B0, hb0⟩
  case round =>
    clear B0 hb0
    obtain ⟨i, ld, lo, cl, him, rfl, rfl, rfl, rfl, A', B', hb'⟩ := hrel
    have A := A'.out
    have B := B'.out
    have hb := hb'.out
    clear A' B' hb'
    obtain ⟨_, b1, _⟩ := id B
    by_cases ilt : i < G.length
    · obtain ⟨g, o, rfl, hg', P⟩ := kG.resolve_left (by intro e; rw [e] at ilt; simp at ilt)
      have p2 := (hb.cell (p := ⟨g, _, none⟩) hg').trans (P i ilt 2 _ rfl)
      have p3 := (hb.cell (p := ⟨g, _, none⟩) hg').trans (P i ilt 3 _ rfl)
      have p4 := (hb.cell (p := ⟨g, _, none⟩) hg').trans (P i ilt 4 _ rfl)
      have nA := A.next hg ilt
      generalize G[i].lead = x4 at *
      generalize G[i].min = x2 at *
      generalize G[i].amber = x3 at *
      have t1 : (i : Int) < (G.length : Int) := by omega
      have t0 : (0 : Int) ≤ (i : Int) := by omega
      clear P kG A kC
      go_wp2_with fail
      go_roundw
      case rel => exact ⟨i + 1, mx ld x4, mx lo x2, mx cl x3, by omega, rfl, rfl, rfl, by go_num, nA, B, hb⟩
      case measure => simp [intOf]; omega
    · have t1 : ¬ (i : Int) < (G.length : Int) := by omega
      obtain rfl : i = G.length := by omega
      go_wp2_with fail
      go_loopw [5, 7] (fun z t wr => ∃ (i : Nat) (cl : Int), i ≤ C.length ∧ z = .int .i64 cl ∧ t = .int .i64 (i : Int) ∧ Hid (W2 G C i ld lo cl) ∧ Hid (Has wr w.heap.size #[.slice va G.length cg, .slice vb C.length cc]) ∧ Hid (Below w.heap.size w wr)) (fun _ t _ => C.length - (intOf t).toNat)
      case atStart => exact ⟨0, cl, by omega, rfl, rfl, ⟨A, fun k _ h => absurd h (by omega)⟩, B, hb⟩
      case round =>
        clear A B hb b1 t1 him ilt
        obtain ⟨i, cl, him, rfl, rfl, A', B', hb'⟩ := hrel
        have A := A'.out
        have B := B'.out
        have hb := hb'.out
        clear A' B' hb'
        by_cases ilt : i < C.length
        · obtain ⟨g, o, rfl, hg', P⟩ := kC.resolve_left (by intro e; rw [e] at ilt; simp at ilt)
          have p2 := (hb.drew.cell (p := ⟨g, _, none⟩) hg').trans (P i ilt 2 _ rfl)
          have p3 := (hb.drew.cell (p := ⟨g, _, none⟩) hg').trans (P i ilt 3 _ rfl)
          have nA := A.next hg ilt
          obtain ⟨_, b1, _⟩ := id B
          generalize C[i].ab = xab at *
          generalize C[i].ba = xba at *
          have t1 : (i : Int) < (C.length : Int) := by omega
          have t0 : (0 : Int) ≤ (i : Int) := by omega
          clear P kC A kG
          go_upto_region 11 with fail
          clear b1
          refine wp_region_noPanic ?_
          refine wp_region_held_drew (S := fun w' => w'.cell? ⟨w.heap.size, 1, none⟩ = some (.slice (some ⟨g, o, none⟩) C.length cc) ∧ w'.cell? ⟨g, o + i * 4 + 2, none⟩ = some (.int .i64 xab) ∧ w'.cell? ⟨g, o + i * 4 + 3, none⟩ = some (.int .i64 xba)) (by kernel_rfl) ?_ (fun hHeld => ?_)
          · (try dsimp only)
            exact ⟨B.drew.2.1 1, p2, p3⟩
          refine wpAnyH_take (i := 0) (oi := { dst := some 46, op := Op.move (Operand.tmp 5), type := 3, pos := "headssafe.go:164", after := #[], guard := none }) (v := ?_) rfl (by kernel_rfl) (by kernel_rfl) (by kernel_rfl) (fun _ _ _ h => h) (Or.inl ⟨by rfl, ?_⟩) (by assumption) ?_
          rotate_left
          · intro wz hSz; (try dsimp only at hSz); go_simp; all_goals (with_reducible rfl)
          (try simp only [Act.put, List.setIfInBounds_toArray, List.set_cons_zero, List.set_cons_succ])
          refine wpAnyH_take (i := 1) (oi := { dst := some 47, op := Op.fieldAddr 25 (Operand.tmp 1) 1, type := 0, pos := "headssafe.go:164", after := #[], guard := none }) (v := ?_) rfl (by kernel_rfl) (by kernel_rfl) (by kernel_rfl) (fun _ _ _ h => h) (Or.inl ⟨by rfl, ?_⟩) (by assumption) ?_
          rotate_left
          · intro wz hSz; (try dsimp only at hSz); go_simp; all_goals (with_reducible rfl)
          (try simp only [Act.put, List.setIfInBounds_toArray, List.set_cons_zero, List.set_cons_succ])
          refine wpAnyH_take (i := 2) (oi := { dst := some 48, op := Op.load 23 (Operand.tmp 47), type := 23, pos := "headssafe.go:164", after := #[{ on := 1, ground := Ground.data }], guard := none }) (v := ?_) rfl (by kernel_rfl) (by kernel_rfl) (by kernel_rfl) (fun _ _ _ h => h) (Or.inl ⟨by rfl, ?_⟩) (by assumption) ?_
          rotate_left
          · intro wz hSz; (try dsimp only at hSz); go_simp; all_goals (with_reducible rfl)
          (try simp only [Act.put, List.setIfInBounds_toArray, List.set_cons_zero, List.set_cons_succ])
          refine wpAnyH_take (i := 3) (oi := { dst := some 49, op := Op.move (Operand.tmp 7), type := 3, pos := "headssafe.go:164", after := #[], guard := none }) (v := ?_) rfl (by kernel_rfl) (by kernel_rfl) (by kernel_rfl) (fun _ _ _ h => h) (Or.inl ⟨by rfl, ?_⟩) (by assumption) ?_
          rotate_left
          · intro wz hSz; (try dsimp only at hSz); go_simp; all_goals (with_reducible rfl)
          (try simp only [Act.put, List.setIfInBounds_toArray, List.set_cons_zero, List.set_cons_succ])
          refine wpAnyH_take (i := 4) (oi := { dst := some 50, op := Op.indexAddr 23 (Operand.tmp 48) (Operand.tmp 49), type := 0, pos := "headssafe.go:164", after := #[{ on := 2, ground := Ground.data }, { on := 3, ground := Ground.data }], guard := none }) (v := ?_) rfl (by kernel_rfl) (by kernel_rfl) (by kernel_rfl) (fun _ _ _ h => h) (Or.inl ⟨by rfl, ?_⟩) (by assumption) ?_
          rotate_left
          · intro wz hSz; (try dsimp only at hSz); go_simp; all_goals (with_reducible rfl)
          (try simp only [Act.put, List.setIfInBounds_toArray, List.set_cons_zero, List.set_cons_succ])
          refine wpAnyH_take (i := 5) (oi := { dst := some 51, op := Op.fieldAddr 49 (Operand.tmp 50) 2, type := 0, pos := "headssafe.go:164", after := #[{ on := 4, ground := Ground.data }], guard := none }) (v := ?_) rfl (by kernel_rfl) (by kernel_rfl) (by kernel_rfl) (fun _ _ _ h => h) (Or.inl ⟨by rfl, ?_⟩) (by assumption) ?_
          rotate_left
          · intro wz hSz; (try dsimp only at hSz); go_simp; all_goals (with_reducible rfl)
          (try simp only [Act.put, List.setIfInBounds_toArray, List.set_cons_zero, List.set_cons_succ])
          refine wpAnyH_take (i := 6) (oi := { dst := some 52, op := Op.load 3 (Operand.tmp 51), type := 3, pos := "headssafe.go:164", after := #[{ on := 5, ground := Ground.data }], guard := none }) (v := ?_) rfl (by kernel_rfl) (by kernel_rfl) (by kernel_rfl) (fun _ _ _ h => h) (Or.inl ⟨by rfl, ?_⟩) (by assumption) ?_
          rotate_left
          · intro wz hSz; (try dsimp only at hSz); go_simp; all_goals (with_reducible rfl)
          (try simp only [Act.put, List.setIfInBounds_toArray, List.set_cons_zero, List.set_cons_succ])
          refine wpAnyH_take (i := 7) (oi := { dst := some 53, op := Op.fieldAddr 25 (Operand.tmp 1) 1, type := 0, pos := "headssafe.go:164", after := #[], guard := none }) (v := ?_) rfl (by kernel_rfl) (by kernel_rfl) (by kernel_rfl) (fun _ _ _ h => h) (Or.inl ⟨by rfl, ?_⟩) (by assumption) ?_
          rotate_left
          · intro wz hSz; (try dsimp only at hSz); go_simp; all_goals (with_reducible rfl)
          (try simp only [Act.put, List.setIfInBounds_toArray, List.set_cons_zero, List.set_cons_succ])
          refine wpAnyH_take (i := 8) (oi := { dst := some 54, op := Op.load 23 (Operand.tmp 53), type := 23, pos := "headssafe.go:164", after := #[{ on := 7, ground := Ground.data }], guard := none }) (v := ?_) rfl (by kernel_rfl) (by kernel_rfl) (by kernel_rfl) (fun _ _ _ h => h) (Or.inl ⟨by rfl, ?_⟩) (by assumption) ?_
          rotate_left
          · intro wz hSz; (try dsimp only at hSz); go_simp; all_goals (with_reducible rfl)
          (try simp only [Act.put, List.setIfInBounds_toArray, List.set_cons_zero, List.set_cons_succ])
          refine wpAnyH_take (i := 9) (oi := { dst := some 55, op := Op.move (Operand.tmp 7), type := 3, pos := "headssafe.go:164", after := #[], guard := none }) (v := ?_) rfl (by kernel_rfl) (by kernel_rfl) (by kernel_rfl) (fun _ _ _ h => h) (Or.inl ⟨by rfl, ?_⟩) (by assumption) ?_
          rotate_left
          · intro wz hSz; (try dsimp only at hSz); go_simp; all_goals (with_reducible rfl)
          (try simp only [Act.put, List.setIfInBounds_toArray, List.set_cons_zero, List.set_cons_succ])
          refine wpAnyH_take (i := 10) (oi := { dst := some 56, op := Op.indexAddr 23 (Operand.tmp 54) (Operand.tmp 55), type := 0, pos := "headssafe.go:164", after := #[{ on := 8, ground := Ground.data }, { on := 9, ground := Ground.data }], guard := none }) (v := ?_) rfl (by kernel_rfl) (by kernel_rfl) (by kernel_rfl) (fun _ _ _ h => h) (Or.inl ⟨by rfl, ?_⟩) (by assumption) ?_
          rotate_left
          · intro wz hSz; (try dsimp only at hSz); go_simp; all_goals (with_reducible rfl)
          (try simp only [Act.put, List.setIfInBounds_toArray, List.set_cons_zero, List.set_cons_succ])
          refine wpAnyH_take (i := 11) (oi := { dst := some 57, op := Op.fieldAddr 49 (Operand.tmp 56) 3, type := 0, pos := "headssafe.go:164", after := #[{ on := 10, ground := Ground.data }], guard := none }) (v := ?_) rfl (by kernel_rfl) (by kernel_rfl) (by kernel_rfl) (fun _ _ _ h => h) (Or.inl ⟨by rfl, ?_⟩) (by assumption) ?_
          rotate_left
          · intro wz hSz; (try dsimp only at hSz); go_simp; all_goals (with_reducible rfl)
          (try simp only [Act.put, List.setIfInBounds_toArray, List.set_cons_zero, List.set_cons_succ])
          refine wpAnyH_take (i := 12) (oi := { dst := some 58, op := Op.load 3 (Operand.tmp 57), type := 3, pos := "headssafe.go:164", after := #[{ on := 11, ground := Ground.data }], guard := none }) (v := ?_) rfl (by kernel_rfl) (by kernel_rfl) (by kernel_rfl) (fun _ _ _ h => h) (Or.inl ⟨by rfl, ?_⟩) (by assumption) ?_
          rotate_left
          · intro wz hSz; (try dsimp only at hSz); go_simp; all_goals (with_reducible rfl)
          (try simp only [Act.put, List.setIfInBounds_toArray, List.set_cons_zero, List.set_cons_succ])
          refine wpAnyH_take (i := 13) (oi := { dst := some 59, op := Op.call { callee := Callee.builtin Builtin.max, args := #[Operand.tmp 46, Operand.tmp 52, Operand.tmp 58], argTypes := #[3, 3, 3] }, type := 3, pos := "headssafe.go:164", after := #[{ on := 0, ground := Ground.data }, { on := 6, ground := Ground.data }, { on := 12, ground := Ground.data }], guard := none }) (v := ?_) rfl (by kernel_rfl) (by kernel_rfl) (by kernel_rfl) (fun _ _ _ h => h) (Or.inl ⟨by rfl, ?_⟩) (by assumption) ?_
          rotate_left
          · intro wz hSz; (try dsimp only at hSz); go_simp; all_goals (with_reducible rfl)
          (try simp only [Act.put, List.setIfInBounds_toArray, List.set_cons_zero, List.set_cons_succ])
          refine wpAnyH_take (i := 14) (oi := { dst := some 5, op := Op.assign (Operand.tmp 59), type := 3, pos := "headssafe.go:164", after := #[{ on := 13, ground := Ground.data }, { on := 0, ground := Ground.phase }, { on := 1, ground := Ground.phase }, { on := 2, ground := Ground.phase }, { on := 3, ground := Ground.phase }, { on := 4, ground := Ground.phase }, { on := 5, ground := Ground.phase }, { on := 6, ground := Ground.phase }, { on := 7, ground := Ground.phase }, { on := 8, ground := Ground.phase }, { on := 9, ground := Ground.phase }, { on := 10, ground := Ground.phase }, { on := 11, ground := Ground.phase }, { on := 12, ground := Ground.phase }, { on := 13, ground := Ground.phase }], guard := none }) (v := ?_) rfl (by kernel_rfl) (by kernel_rfl) (by kernel_rfl) (fun _ _ _ h => h) (Or.inl ⟨by rfl, ?_⟩) (by assumption) ?_
          rotate_left
          · intro wz hSz; (try dsimp only at hSz); go_simp; all_goals (with_reducible rfl)
          (try simp only [Act.put, List.setIfInBounds_toArray, List.set_cons_zero, List.set_cons_succ])
          refine wpAnyH_done (by kernel_rfl) ?_ _
          refine NoPanic.normal ?_
          go_wp2_with fail
          go_roundw
          case rel => exact ⟨i + 1, mx (mx cl xab) xba, by omega, rfl, by go_num, nA, B.drew, hb.drew⟩
          case measure => simp [intOf]; omega
        · have t1 : ¬ (i : Int) < (C.length : Int) := by omega
          obtain rfl : i = C.length := by omega
          obtain ⟨_, b1, _⟩ := id B
          obtain ⟨r1, r2, r3, r4, r5, r6⟩ := A.w.r
          have w1 : IntKind.i64.wrap (2 * ld) = 2 * ld := wrap64 _ (by omega)
          have w2 : IntKind.i64.wrap (2 * ld + lo) = 2 * ld + lo := wrap64 _ (by omega)
          have w3 : IntKind.i64.wrap (2 * ld + lo + cl) = 2 * ld + lo + cl := wrap64 _ (by omega)
          clear kG kC
          go_wp2_with fail
          go_ret
          exact ⟨⟨ld, lo, cl, rfl, A.wt hg, r3⟩, hb⟩
end Go.Proofs.Ytbonmajnkbggcaa
namespace Go.Proofs.Ytbonmajnkbggcaa
open Go.RowKit
set_option linter.unusedVariables false


theorem lst_self {n : Nat} {A : List Int} (h : A.length = n) : lst64 n (fun k => A.getD k 0) = A := by
  unfold lst64
  subst h
  apply List.ext_getElem
  · simp
  · intro i h1 h2
    simp at h1
    simp [List.getD_eq_getElem?_getD, h1]
theorem setF_all {M : Nat} {f : Nat → Int} {n : Nat} (h : ∀ j, j < n → f j = if M.testBit j = true then 2 else 0) : setF M 0 (lst64 n f) = true := by
  have key : ∀ m, m ≤ n → setF M (n - m) ((lst64 n f).drop (n - m)) = true := by
    intro m
    induction m with
    | zero => intro _; exact setF_end M _ _ (by rw [lst_len]; omega)
    | succ m ih =>
      intro hm
      rw [setF_step M _ (n - (m + 1)) (by rw [lst_len]; omega), show n - (m + 1) + 1 = n - m by omega, ih (by omega), lst_get, h _ (by omega)]
      simp
  have := key n (Nat.le_refl _)
  simpa using this
set_option maxRecDepth 100000 in
set_option maxHeartbeats 4000000 in
theorem settle_bad (G : List Gp) (C : List Cf) (A I W : List Int) (M : Nat) (vg vc v1 v2 v3 : Value) (w : World) (h1 : Fl 5 Gp.cs w vg G) (h2 : Fl 4 Cf.cs w vc C) (h3 : Fl 1 n64 w v1 A) (h4 : Fl 1 n32 w v2 I) (h5 : Fl 1 n32 w v3 W) (lG : G.length ≤ 2932031007317) (lC : C.length ≤ 4398046511000) (lA : A.length ≤ 17592186044000) (lI : I.length ≤ 35184372088000) (lW : W.length ≤ 35184372088000) (okI : ∀ x ∈ I, inI32 x) (okW : ∀ x ∈ W, inI32 x) (hM : M < 18446744073709551616) (hsb : soundB G C A I W = false) :
    Calls Try.prog 8 #[.agg #[vg, vc], .agg #[v1, v2, v3], .int .u64 (M : Int)] w fun e w' => e = .returned (.bool true) ∧ Below w.heap.size w w' := by
  have hSo := fun (X : World) (hX : Below w.heap.size w X) => refSound_any G C A I W vg vc v1 v2 v3 X (h1.below hX) (h2.below hX) (h3.below hX) (h4.below hX) (h5.below hX) lG lC lA lI lW okI
  rw [hsb] at hSo
  obtain ⟨va, cg, rfl, -⟩ := h1.any
  obtain ⟨vb, cc, rfl, -⟩ := h2.any
  obtain ⟨vA, cA, rfl, -⟩ := h3.any
  obtain ⟨vI, cI, rfl, -⟩ := h4.any
  obtain ⟨vW, cW, rfl, -⟩ := h5.any
  have E0 : Has ((w.alloc (.cells #[.slice va G.length cg, .slice vb C.length cc] 25)).alloc (.cells #[.slice vA A.length cA, .slice vI I.length cI, .slice vW W.length cW] 37)) w.heap.size #[.slice va G.length cg, .slice vb C.length cc] := (Has.new _ _ _ rfl).alloc _
  have E1 : Has ((w.alloc (.cells #[.slice va G.length cg, .slice vb C.length cc] 25)).alloc (.cells #[.slice vA A.length cA, .slice vI I.length cI, .slice vW W.length cW] 37)) (w.heap.size + 1) #[.slice vA A.length cA, .slice vI I.length cI, .slice vW W.length cW] := Has.new _ _ _ (by simp)
  have hb0 : Below w.heap.size w ((w.alloc (.cells #[.slice va G.length cg, .slice vb C.length cc] 25)).alloc (.cells #[.slice vA A.length cA, .slice vI I.length cI, .slice vW W.length cW] 37)) := belA
  clear h1 h2 h3 h4 h5
  go_enter Try.func8, Try.ntmps8
  go_wp2_with (go_at_call 23; (with_reducible refine Calls.mono (hSo _ (by exact hb0)) ?_); rintro e y1 ⟨rfl, hy1⟩; have hb1 := bel_after hb0 hb0.size hy1; have E2 := E0.below hy1; have E3 := E1.below hy1; clear hy1)
  go_ret
  exact ⟨rfl, hb1⟩
set_option maxRecDepth 100000 in
set_option maxHeartbeats 4000000 in
theorem settle_ok (G : List Gp) (C : List Cf) (A I W : List Int) (M : Nat) (vg vc v1 v2 v3 : Value) (w : World) (h1 : Fl 5 Gp.cs w vg G) (h2 : Fl 4 Cf.cs w vc C) (h3 : Fl 1 n64 w v1 A) (h4 : Fl 1 n32 w v2 I) (h5 : Fl 1 n32 w v3 W) (lG : G.length ≤ 2932031007317) (lC : C.length ≤ 4398046511000) (lA : A.length ≤ 17592186044000) (lI : I.length ≤ 35184372088000) (lW : W.length ≤ 35184372088000) (okI : ∀ x ∈ I, inI32 x) (okW : ∀ x ∈ W, inI32 x) (hM : M < 18446744073709551616) (hg : gridB G C = true) (hf : fitsB G C A I W = true) :
    Calls Try.prog 8 #[.agg #[vg, vc], .agg #[v1, v2, v3], .int .u64 (M : Int)] w fun e w' => e = .returned (.bool true) ∧ Below w.heap.size w w' := by
  have hsb : soundB G C A I W = true := by unfold soundB; simp [*]
  have l64 := grid_len hg
  have hSo := fun (X : World) (hX : Below w.heap.size w X) => refSound_any G C A I W vg vc v1 v2 v3 X (h1.below hX) (h2.below hX) (h3.below hX) (h4.below hX) (h5.below hX) lG lC lA lI lW okI
  rw [hsb] at hSo
  have lens : A.length = G.length ∧ I.length = G.length ∧ W.length = G.length := by
    have := hf
    unfold fitsB at this
    simp only [Bool.and_eq_true, decide_eq_true_eq] at this
    exact ⟨this.1, this.2.1, this.2.2.1⟩
  obtain ⟨h0, eh0⟩ : ∃ h0 : F3, h0 = ⟨fun k => A.getD k 0, fun k => I.getD k 0, fun k => W.getD k 0⟩ := ⟨_, rfl⟩
  have s1 : Hid (lst64 G.length h0.a = A) := by show _ = _; rw [eh0]; exact lst_self lens.1
  have s2 : Hid (lst64 G.length h0.i = I) := by show _ = _; rw [eh0]; exact lst_self lens.2.1
  have s3 : Hid (lst64 G.length h0.w = W) := by show _ = _; rw [eh0]; exact lst_self lens.2.2
  have ok : Okf G C h0 := by unfold Okf; rw [s1.out, s2.out, s3.out]; exact ⟨hf, okI, okW⟩
  clear lens eh0 hf hsb
  have kW := fun (X : World) (hX : Below w.heap.size w X) => headsWait_any G C vg vc X (h1.below hX) (h2.below hX) lC hg
  have kF := fun (X : World) (hX : Below w.heap.size w X) => headsFits_any G C vg vc M X (h1.below hX) (h2.below hX) lC hM hg
  have kSt := fun (X : World) (hX : Below w.heap.size w X) (A I W : List Int) (u1 u2 u3 : Value) (f1 : Fl 1 n64 X u1 A) (f2 : Fl 1 n32 X u2 I) (f3 : Fl 1 n32 X u3 W) (la : A.length ≤ 17592186044000) (li : I.length ≤ 35184372088000) (lw : W.length ≤ 35184372088000) (oi : ∀ x ∈ I, inI32 x) (ow : ∀ x ∈ W, inI32 x) (ft : fitsB G C A I W = true) => step_ok G C A I W vg vc u1 u2 u3 M X (h1.below hX) (h2.below hX) f1 f2 f3 lG lC la li lw oi ow hM hg ft
  have kSe := fun (X : World) (hX : Below w.heap.size w X) (A I W : List Int) (u1 u2 u3 : Value) (f1 : Fl 1 n64 X u1 A) (f2 : Fl 1 n32 X u2 I) (f3 : Fl 1 n32 X u3 W) (la : A.length ≤ 17592186044000) (li : I.length ≤ 35184372088000) (lw : W.length ≤ 35184372088000) (oi : ∀ x ∈ I, inI32 x) (st : setB G C A I W M = true) => (settled_any G C A I W vg vc u1 u2 u3 M X (h1.below hX) (h2.below hX) f1 f2 f3 lG lC la li lw oi hM).mono (R' := fun e w' => e = .returned (.bool true) ∧ Below X.heap.size X w') (fun e w' h => by rw [st] at h; exact h)
  have hD := fun (X : World) (hX : Below w.heap.size w X) (N : Nat) (hN : w.heap.size ≤ N) => (⟨h3.below hX, h4.below hX, h5.below hX, fun e q hq => by have := h3.blk e q hq; omega, fun e q hq => by have := h4.blk e q hq; omega, fun e q hq => by have := h5.blk e q hq; omega⟩ : Hd3 X v1 v2 v3 A I W N N)
  obtain ⟨va, cg, rfl, -⟩ := h1.any
  obtain ⟨vb, cc, rfl, -⟩ := h2.any
  obtain ⟨vA, cA, rfl, -⟩ := h3.any
  obtain ⟨vI, cI, rfl, -⟩ := h4.any
  obtain ⟨vW, cW, rfl, -⟩ := h5.any
  have E0 : Has ((w.alloc (.cells #[.slice va G.length cg, .slice vb C.length cc] 25)).alloc (.cells #[.slice vA A.length cA, .slice vI I.length cI, .slice vW W.length cW] 37)) w.heap.size #[.slice va G.length cg, .slice vb C.length cc] := (Has.new _ _ _ rfl).alloc _
  have E1 : Has ((w.alloc (.cells #[.slice va G.length cg, .slice vb C.length cc] 25)).alloc (.cells #[.slice vA A.length cA, .slice vI I.length cI, .slice vW W.length cW] 37)) (w.heap.size + 1) #[.slice vA A.length cA, .slice vI I.length cI, .slice vW W.length cW] := Has.new _ _ _ (by simp)
  have hb0 : Below w.heap.size w ((w.alloc (.cells #[.slice va G.length cg, .slice vb C.length cc] 25)).alloc (.cells #[.slice vA A.length cA, .slice vI I.length cI, .slice vW W.length cW] 37)) := belA
  clear h1 h2 h3 h4 h5
  by_cases F : fitM C M
  case neg =>
    go_enter Try.func8, Try.ntmps8
    go_wp2_with (first
      | (go_at_call 23; (with_reducible refine Calls.mono (hSo _ (by exact hb0)) ?_); rintro e y1 ⟨rfl, hy1⟩; have hb1 := bel_after hb0 hb0.size hy1; have E2 := E0.below hy1; have E3 := E1.below hy1; obtain ⟨_, o2, _⟩ := id E2; clear hy1)
      | (go_at_call 28; (with_reducible refine Calls.mono (kW _ hb1) ?_); rintro e y2 ⟨⟨ld, lo, cl, rfl, wt, lo0⟩, hy2⟩; have hb2 := bel_after hb1 hb1.size hy2; have E4 := E2.below hy2; obtain ⟨_, o4, _⟩ := id E4; clear hy2)
      | (go_at_call 29; (with_reducible refine Calls.mono (kF _ hb2) ?_); rintro e y3 ⟨⟨b, rfl, hbF⟩, hy3⟩; have hb3 := bel_after hb2 hb2.size hy3; obtain rfl : b = false := (by cases b with | false => rfl | true => exact absurd (hbF.1 rfl) F); clear hy3))
    go_ret
    exact ⟨rfl, hb3⟩
  go_enter Try.func8, Try.ntmps8
  go_upto_region 6 with (first
    | (go_at_call 23; (with_reducible refine Calls.mono (hSo _ (by exact hb0)) ?_); rintro e y1 ⟨rfl, hy1⟩; have hb1 := bel_after hb0 hb0.size hy1; have E2 := E0.below hy1; have E3 := E1.below hy1; obtain ⟨_, o2, _⟩ := id E2; clear hy1)
    | (go_at_call 28; (with_reducible refine Calls.mono (kW _ hb1) ?_); rintro e y2 ⟨⟨ld, lo, cl, rfl, wt, lo0⟩, hy2⟩; have hb2 := bel_after hb1 hb1.size hy2; have E4 := E2.below hy2; have E5 := E3.below hy2; obtain ⟨_, o4, _⟩ := id E4; clear hy2)
    | (go_at_call 29; (with_reducible refine Calls.mono (kF _ hb2) ?_); rintro e y3 ⟨⟨b, rfl, hbF⟩, hy3⟩; have hb3 := bel_after hb2 hb2.size hy3; have E6 := E4.below hy3; have E7 := E5.below hy3; obtain rfl : b = true := hbF.2 F; clear hy3))
  clear o2 o4 E0 E1 E2 E3 E4 E5 hb0 hb1 hb2 kW kF hSo
  obtain ⟨_, o7, _⟩ := id E7
  clear hbF
  go_upto_region 7 with fail
  have N0 : Has (y3.alloc (.cells #[.slice vA A.length cA, .slice vI I.length cI, .slice vW W.length cW] 37)) y3.heap.size #[.slice vA A.length cA, .slice vI I.length cI, .slice vW W.length cW] := Has.new _ _ _ rfl
  have hb4 := hb3.alloc hb3.size (.cells #[.slice vA A.length cA, .slice vI I.length cI, .slice vW W.length cW] 37)
  have B0 := E6.alloc (.cells #[.slice vA A.length cA, .slice vI I.length cI, .slice vW W.length cW] 37)
  have zN : w.heap.size + 2 ≤ y3.heap.size := E7.1
  have D0 := hD _ hb4 y3.heap.size (by omega)
  generalize (y3.alloc (.cells #[.slice vA A.length cA, .slice vI I.length cI, .slice vW W.length cW] 37)) = Y at *
  generalize y3.heap.size = Nb at *
  clear o7 E6 E7 hb3 hD
  have wt' := wt
  obtain ⟨kn, ekn⟩ : ∃ kn : Nat, 2 * ld + lo + cl = (kn : Int) := ⟨(2 * ld + lo + cl).toNat, by have := wt.l0; have := wt.c0; omega⟩
  have hset : ∀ k, kn ≤ k → ∀ j, j < G.length → (stF G C M h0 k).a j = if M.testBit j = true then 2 else 0 := fun k hk j hj => settled_at hg F ok wt k (by omega) j hj
  have hkn : kn ≤ 7320 := by have := wt.big; omega
  clear wt wt' lo0
  rw [ekn]
  clear ekn
  have D1 : Hd3 Y (.slice vA A.length cA) (.slice vI I.length cI) (.slice vW W.length cW) (lst64 G.length (stF G C M h0 0).a) (lst64 G.length (stF G C M h0 0).i) (lst64 G.length (stF G C M h0 0).w) Nb Nb := by
    show Hd3 Y _ _ _ (lst64 G.length h0.a) (lst64 G.length h0.i) (lst64 G.length h0.w) Nb Nb
    rw [s1.out, s2.out, s3.out]; exact D0
  clear D0
  go_wp2_with fail
  go_loopw [10] (fun t wr => ∃ k : Nat, k ≤ kn ∧ t = .int .i64 (k : Int) ∧ ∃ (u1 u2 u3 : Value), Hid (Has wr w.heap.size #[.slice va G.length cg, .slice vb C.length cc]) ∧ Hid (Has wr Nb #[u1, u2, u3]) ∧ Hid (Hd3 wr u1 u2 u3 (lst64 G.length (stF G C M h0 k).a) (lst64 G.length (stF G C M h0 k).i) (lst64 G.length (stF G C M h0 k).w) Nb Nb) ∧ Hid (Below w.heap.size w wr)) (fun t _ => kn - (intOf t).toNat)
  case atStart => exact ⟨0, by omega, rfl, _, _, _, B0, N0, D1, hb4⟩
  case round =>
    clear B0 N0 D1 hb4
    obtain ⟨k, hkk, rfl, u1, u2, u3, B', Nn', D', hb'⟩ := hrel
    have B := B'.out
    have Nn := Nn'.out
    have D := D'.out
    have hb := hb'.out
    clear B' Nn' D' hb'
    by_cases klt : k < kn
    · have t1 : (k : Int) < (kn : Int) := by omega
      clear hset kSe
      obtain ⟨bA, eA, q1, -⟩ := D.a.nums
      obtain ⟨bI, eI, q2, -⟩ := D.i.nums
      obtain ⟨bW, eW, q3, -⟩ := D.w.nums
      rw [lst_len] at q1 q2 q3
      have cN := kSt wr hb (lst64 G.length (stF G C M h0 k).a) (lst64 G.length (stF G C M h0 k).i) (lst64 G.length (stF G C M h0 k).w) u1 u2 u3 D.a D.i D.w (by rw [lst_len]; omega) (by rw [lst_len]; omega) (by rw [lst_len]; omega) (okf_st hg ok (k)).2.1 (okf_st hg ok (k)).2.2 (okf_st hg ok (k)).1
      subst q1 q2 q3
      obtain ⟨_, o1, _⟩ := id B
      obtain ⟨_, o2, _⟩ := id Nn
      go_upto_region 12 with (go_at_call 19; (with_reducible refine Calls.mono cN ?_); rintro e w4 ⟨⟨r', s0, s1, rfl, a0, a1, a2, n1, n2, n3⟩, hb4⟩; have B4 := B.below hb4; have N4 := Nn.below hb4; have b4 := bel_after hb hb.size hb4; obtain ⟨_, x1, x2⟩ := id N4)
      have O : Only (fun q => q = Nb) w4 (((w4.setCell ⟨Nb, 0, none⟩ (.slice (some ⟨r', 0, none⟩) G.length G.length)).setCell ⟨Nb, 1, none⟩ (.slice (some ⟨s0, 0, none⟩) G.length G.length)).setCell ⟨Nb, 2, none⟩ (.slice (some ⟨s1, 0, none⟩) G.length G.length)) := ((only_of_set _ _ _ _).trans (only_of_set _ _ _ _)).trans (only_of_set _ _ _ _)
      have N5 : Has (((w4.setCell ⟨Nb, 0, none⟩ (.slice (some ⟨r', 0, none⟩) G.length G.length)).setCell ⟨Nb, 1, none⟩ (.slice (some ⟨s0, 0, none⟩) G.length G.length)).setCell ⟨Nb, 2, none⟩ (.slice (some ⟨s1, 0, none⟩) G.length G.length)) Nb #[.slice (some ⟨r', 0, none⟩) G.length G.length, .slice (some ⟨s0, 0, none⟩) G.length G.length, .slice (some ⟨s1, 0, none⟩) G.length G.length] := by simpa using ((N4.set 0 (by simp) (.slice (some ⟨r', 0, none⟩) G.length G.length)).set 1 (by simp) (.slice (some ⟨s0, 0, none⟩) G.length G.length)).set 2 (by simp) (.slice (some ⟨s1, 0, none⟩) G.length G.length)
      have B5 := B4.only O (by omega)
      have zw : wr.heap.size ≤ w4.heap.size := hb4.size
      have zN := Nn.1
      have T1 : T3 wr.heap.size w4 (.slice (some ⟨r', 0, none⟩) G.length G.length) (.slice (some ⟨s0, 0, none⟩) G.length G.length) (.slice (some ⟨s1, 0, none⟩) G.length G.length) G.length G.length G.length (valR G.length (stF G C M h0 (k + 1)).a) (v32 G.length (stF G C M h0 (k + 1)).i) (v32 G.length (stF G C M h0 (k + 1)).w) := t3_of a0 a1 a2 n1 n2 n3
      have T5 := T1.spared O (fun q h _ _ e => by omega)
      have b5 := bel_only b4 O (Nat.le_refl _) (fun q hq h => by omega)
      have D5 : Hd3 (((w4.setCell ⟨Nb, 0, none⟩ (.slice (some ⟨r', 0, none⟩) G.length G.length)).setCell ⟨Nb, 1, none⟩ (.slice (some ⟨s0, 0, none⟩) G.length G.length)).setCell ⟨Nb, 2, none⟩ (.slice (some ⟨s1, 0, none⟩) G.length G.length)) (.slice (some ⟨r', 0, none⟩) G.length G.length) (.slice (some ⟨s0, 0, none⟩) G.length G.length) (.slice (some ⟨s1, 0, none⟩) G.length G.length) (lst64 G.length (stF G C M h0 (k + 1)).a) (lst64 G.length (stF G C M h0 (k + 1)).i) (lst64 G.length (stF G C M h0 (k + 1)).w) Nb Nb :=
        ⟨T5.f1, T5.f2, T5.f3, fun _ q hq => by have := own_lt T5.o1 q hq; omega, fun _ q hq => by have := own_lt T5.o2 q hq; omega, fun _ q hq => by have := own_lt T5.o3 q hq; omega⟩
      clear T1 T5 B4 N4 b4 x1 x2 cN O a0 a1 a2 n1 n2 n3 o1 o2 B Nn D hb
      go_wp2_with fail
      go_roundw
      case rel => exact ⟨k + 1, by omega, by go_num, _, _, _, B5, N5, D5, b5⟩
      case measure => simp [intOf]; omega
    · have t1 : ¬ (k : Int) < (kn : Int) := by omega
      obtain rfl : k = kn := by omega
      go_wp2_with fail
      go_loopw [11] (fun t wr => ∃ i : Nat, i ≤ 3 ∧ t = .int .i64 (i : Int) ∧ ∃ (u1 u2 u3 : Value), Hid (Has wr w.heap.size #[.slice va G.length cg, .slice vb C.length cc]) ∧ Hid (Has wr Nb #[u1, u2, u3]) ∧ Hid (Hd3 wr u1 u2 u3 (lst64 G.length (stF G C M h0 (k + i)).a) (lst64 G.length (stF G C M h0 (k + i)).i) (lst64 G.length (stF G C M h0 (k + i)).w) Nb Nb) ∧ Hid (Below w.heap.size w wr)) (fun t _ => 3 - (intOf t).toNat)
      case atStart => exact ⟨0, by omega, rfl, _, _, _, B, Nn, D, hb⟩
      case round =>
        clear B Nn D hb t1
        clear u1 u2 u3
        obtain ⟨i, hii, rfl, u1, u2, u3, B', Nn', D', hb'⟩ := hrel
        have B := B'.out
        have Nn := Nn'.out
        have D := D'.out
        have hb := hb'.out
        clear B' Nn' D' hb'
        by_cases ilt : i < 3
        · have t1 : (i : Int) < 3 := by omega
          have hs := hset (k + i) (by omega)
          obtain ⟨bA, eA, q1, -⟩ := D.a.nums
          obtain ⟨bI, eI, q2, -⟩ := D.i.nums
          obtain ⟨bW, eW, q3, -⟩ := D.w.nums
          rw [lst_len] at q1 q2 q3
          have cSe := kSe wr hb (lst64 G.length (stF G C M h0 (k + i)).a) (lst64 G.length (stF G C M h0 (k + i)).i) (lst64 G.length (stF G C M h0 (k + i)).w) u1 u2 u3 D.a D.i D.w (by rw [lst_len]; omega) (by rw [lst_len]; omega) (by rw [lst_len]; omega) (okf_st hg ok (k + i)).2.1 (by unfold setB soundB; rw [hg, (okf_st hg ok (k + i)).1, setF_all hs]; rfl)
          have cSh := fun (X : World) (hX : Below wr.heap.size wr X) => show_any (lst64 G.length (stF G C M h0 (k + i)).a) u1 bI bW G.length eI G.length eW X (D.a.below hX) (by rw [lst_len]; omega)
          have hlet : ∀ g (h : g < G.length), ∃ h' : g < (showS (lst64 G.length (stF G C M h0 (k + i)).a)).size, ((showS (lst64 G.length (stF G C M h0 (k + i)).a))[g]'h').toNat = (if M.testBit g = true then 103 else 114) := fun g h => by
            refine ⟨by rw [showS_size, lst_len]; exact h, ?_⟩
            rw [showS_at _ _ _ (by rw [lst_len]; exact h), lst_get, hs g h]
            split <;> rfl
          have hsz : (showS (lst64 G.length (stF G C M h0 (k + i)).a)).size = G.length := by rw [showS_size, lst_len]
          subst q1 q2 q3
          generalize showS (lst64 G.length (stF G C M h0 (k + i)).a) = s at *
          obtain ⟨_, o1, _⟩ := id B
          obtain ⟨_, o2, _⟩ := id Nn
          go_upto_region 20 with (first
            | (go_at_call 14; (with_reducible refine Calls.mono cSe ?_); rintro e y5 ⟨rfl, hy5⟩; have Z0 := Below.refl wr.heap.size wr; have Z1 := bel_after Z0 (Nat.le_refl _) hy5; have N3 := Nn.below Z1; obtain ⟨_, o3, _⟩ := id N3; clear hy5 Z0)
            | (go_at_call 30; (with_reducible refine Calls.mono (cSh _ Z1) ?_); rintro e y6 ⟨rfl, hy6⟩; have Z2 := bel_after Z1 Z1.size hy6; clear hy6))
          have sI : (s.size : Int) = (G.length : Int) := by omega
          clear o1 o2 o3 N3 cSe cSh Z1 hs
          replace B := B.below Z2
          replace Nn := Nn.below Z2
          replace D := D.below Z2
          replace hb := bel_after hb hb.size Z2
          clear Z2
          go_wp2_with fail
          go_loopw [13] (fun t wr => ∃ g : Nat, g ≤ G.length ∧ t = .int .i64 (g : Int) ∧ Hid (Below y6.heap.size y6 wr)) (fun t _ => G.length - (intOf t).toNat)
          case atStart => exact ⟨0, by omega, rfl, Below.refl _ _⟩
          case round =>
            obtain ⟨g, hgl, rfl, bX'⟩ := hrel
            have bX := bX'.out
            clear bX'
            replace B := B.below bX
            replace Nn := Nn.below bX
            replace D := D.below bX
            replace hb := bel_after hb hb.size bX
            by_cases glt : g < G.length
            · obtain ⟨h', qg⟩ := hlet g glt
              have hI : (g : Int) < (s.size : Int) := by omega
              have hG : ¬ (g : Int) ≥ (s.size : Int) := by omega
              have hG2 : ¬ (s.size : Int) ≤ (g : Int) := by omega
              have g0 : (0 : Int) ≤ (g : Int) := by omega
              have g1 : (g : Int) < 64 := by omega
              have g2 : min g 64 = g := by omega
              have g3 : ((g : Int)).toNat = g := by omega
              have g4 : IntKind.u64.wrap (g : Int) = (g : Int) := by rw [IntKind.wrap_u64]; omega
              have t2 : (g : Int) < (G.length : Int) := by omega
              have eb := bit1 M g hM
              obtain ⟨_, o1, _⟩ := id B
              clear hlet kSt hset kSe D Nn hb
              cases hm : M.testBit g with
              | true =>
                rw [hm] at eb qg
                rw [if_pos rfl] at qg
                go_wp2_with fail
                go_roundw
                case rel => exact ⟨g + 1, by omega, by go_num, bX⟩
                case measure => simp [intOf]; omega
              | false =>
                rw [hm] at eb qg
                rw [if_neg (by decide)] at qg
                go_wp2_with fail
                go_roundw
                case rel => exact ⟨g + 1, by omega, by go_num, bX⟩
                case measure => simp [intOf]; omega
            · have t2 : ¬ (g : Int) < (G.length : Int) := by omega
              obtain ⟨_, o9, _⟩ := id B
              clear hlet hset kSe
              go_upto_region 25 with fail
              clear o9
              have cN := kSt wr hb (lst64 G.length (stF G C M h0 (k + i)).a) (lst64 G.length (stF G C M h0 (k + i)).i) (lst64 G.length (stF G C M h0 (k + i)).w) _ _ _ D.a D.i D.w (by rw [lst_len]; omega) (by rw [lst_len]; omega) (by rw [lst_len]; omega) (okf_st hg ok ((k + i))).2.1 (okf_st hg ok ((k + i))).2.2 (okf_st hg ok ((k + i))).1
              obtain ⟨_, o1, _⟩ := id B
              obtain ⟨_, o2, _⟩ := id Nn
              go_upto_region 26 with (go_at_call 19; (with_reducible refine Calls.mono cN ?_); rintro e w4 ⟨⟨r', s0, s1, rfl, a0, a1, a2, n1, n2, n3⟩, hb4⟩; have B4 := B.below hb4; have N4 := Nn.below hb4; have b4 := bel_after hb hb.size hb4; obtain ⟨_, x1, x2⟩ := id N4)
              have O : Only (fun q => q = Nb) w4 (((w4.setCell ⟨Nb, 0, none⟩ (.slice (some ⟨r', 0, none⟩) G.length G.length)).setCell ⟨Nb, 1, none⟩ (.slice (some ⟨s0, 0, none⟩) G.length G.length)).setCell ⟨Nb, 2, none⟩ (.slice (some ⟨s1, 0, none⟩) G.length G.length)) := ((only_of_set _ _ _ _).trans (only_of_set _ _ _ _)).trans (only_of_set _ _ _ _)
              have N5 : Has (((w4.setCell ⟨Nb, 0, none⟩ (.slice (some ⟨r', 0, none⟩) G.length G.length)).setCell ⟨Nb, 1, none⟩ (.slice (some ⟨s0, 0, none⟩) G.length G.length)).setCell ⟨Nb, 2, none⟩ (.slice (some ⟨s1, 0, none⟩) G.length G.length)) Nb #[.slice (some ⟨r', 0, none⟩) G.length G.length, .slice (some ⟨s0, 0, none⟩) G.length G.length, .slice (some ⟨s1, 0, none⟩) G.length G.length] := by simpa using ((N4.set 0 (by simp) (.slice (some ⟨r', 0, none⟩) G.length G.length)).set 1 (by simp) (.slice (some ⟨s0, 0, none⟩) G.length G.length)).set 2 (by simp) (.slice (some ⟨s1, 0, none⟩) G.length G.length)
              have B5 := B4.only O (by omega)
              have zw : wr.heap.size ≤ w4.heap.size := hb4.size
              have zN := Nn.1
              have T1 : T3 wr.heap.size w4 (.slice (some ⟨r', 0, none⟩) G.length G.length) (.slice (some ⟨s0, 0, none⟩) G.length G.length) (.slice (some ⟨s1, 0, none⟩) G.length G.length) G.length G.length G.length (valR G.length (stF G C M h0 ((k + i) + 1)).a) (v32 G.length (stF G C M h0 ((k + i) + 1)).i) (v32 G.length (stF G C M h0 ((k + i) + 1)).w) := t3_of a0 a1 a2 n1 n2 n3
              have T5 := T1.spared O (fun q h _ _ e => by omega)
              have b5 := bel_only b4 O (Nat.le_refl _) (fun q hq h => by omega)
              have D5 : Hd3 (((w4.setCell ⟨Nb, 0, none⟩ (.slice (some ⟨r', 0, none⟩) G.length G.length)).setCell ⟨Nb, 1, none⟩ (.slice (some ⟨s0, 0, none⟩) G.length G.length)).setCell ⟨Nb, 2, none⟩ (.slice (some ⟨s1, 0, none⟩) G.length G.length)) (.slice (some ⟨r', 0, none⟩) G.length G.length) (.slice (some ⟨s0, 0, none⟩) G.length G.length) (.slice (some ⟨s1, 0, none⟩) G.length G.length) (lst64 G.length (stF G C M h0 ((k + i) + 1)).a) (lst64 G.length (stF G C M h0 ((k + i) + 1)).i) (lst64 G.length (stF G C M h0 ((k + i) + 1)).w) Nb Nb :=
                ⟨T5.f1, T5.f2, T5.f3, fun _ q hq => by have := own_lt T5.o1 q hq; omega, fun _ q hq => by have := own_lt T5.o2 q hq; omega, fun _ q hq => by have := own_lt T5.o3 q hq; omega⟩
              clear T1 T5 B4 N4 b4 x1 x2 cN O a0 a1 a2 n1 n2 n3 o1 o2 B Nn D hb
              go_wp2_with fail
              go_roundw
              case rel => exact ⟨i + 1, by omega, by go_num, _, _, _, B5, N5, D5, b5⟩
              case measure => simp [intOf]; omega
        · have t1 : ¬ (i : Int) < 3 := by omega
          clear hset kSe kSt
          go_wp2_with fail
          go_ret
          exact ⟨rfl, hb⟩
end Go.Proofs.Ytbonmajnkbggcaa
