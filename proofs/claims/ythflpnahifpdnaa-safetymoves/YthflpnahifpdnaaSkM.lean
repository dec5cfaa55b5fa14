import Derived.Test.YthflpnahifpdnaaSfM
namespace Go.Proofs.Ythflpnahifpdnaa
open Go.RowKit
set_option linter.unusedVariables false

theorem beg_off {G : List Gp} {C : List Cf} {A W : List Int} {M : Nat} {f0 : Nat → Int} {j : Nat} (hj : M.testBit j = false) : ∀ m, begF G C A W M f0 m j = f0 j := by
  intro m
  induction m with
  | zero => rfl
  | succ m ih =>
    unfold begF
    by_cases hs : startB C A W M G.length (begF G C A W M f0 m) m = true
    · rw [if_pos hs]
      unfold updF
      by_cases e : j = m
      · subst e
        unfold startB at hs
        simp [hj] at hs
      · rw [if_neg e]; exact ih
    · rw [if_neg hs]; exact ih
theorem beg_start {G : List Gp} {C : List Cf} {A W : List Int} {M : Nat} {f0 : Nat → Int} {j : Nat} (hs : startB C A W M G.length (begF G C A W M f0 j) j = true) : ∀ d, begF G C A W M f0 (j + 1 + d) j = firstF (G.getD j gp0) := by
  intro d
  induction d with
  | zero =>
    show begF G C A W M f0 (j + 1) j = _
    unfold begF
    rw [if_pos hs]
    unfold updF
    rw [if_pos rfl]
  | succ d ih =>
    show begF G C A W M f0 ((j + 1 + d) + 1) j = _
    unfold begF
    by_cases h : startB C A W M G.length (begF G C A W M f0 (j + 1 + d)) (j + 1 + d) = true
    · rw [if_pos h]
      unfold updF
      rw [if_neg (by omega)]; exact ih
    · rw [if_neg h]; exact ih
/-- No row joins two that are wanted. -/
def fitM (C : List Cf) (M : Nat) : Prop := ∀ c ∈ C, ¬ (M.testBit c.a.toNat = true ∧ M.testBit c.b.toNat = true)
/-- One step, group by group. -/
theorem next_off {G : List Gp} {C : List Cf} {h : F3} {M j : Nat} (hj : j < G.length) (hm : M.testBit j = false) : (F3.next G C h M).a j = aloneF (G.getD j gp0) (h.a j) (h.i j) false := by
  unfold F3.next
  show nxF G C _ _ _ M j = _
  unfold nxF
  rw [beg_off hm]
  unfold alF
  rw [lst_getD hj, lst_getD hj, hm]
theorem next_on {G : List Gp} {C : List Cf} {h : F3} {M j : Nat} (hj : j < G.length) (hm : M.testBit j = true) (ha : h.a j ≠ 0) : (F3.next G C h M).a j = aloneF (G.getD j gp0) (h.a j) (h.i j) true := by
  unfold F3.next
  show nxF G C _ _ _ M j = _
  unfold nxF
  rcases beg_at (G := G) (C := C) (A := lst64 G.length h.a) (W := lst64 G.length h.w) (M := M) (f0 := alF G (lst64 G.length h.a) (lst64 G.length h.i) M) j G.length with q | ⟨q, _⟩
  · rw [q]
    unfold alF
    rw [lst_getD hj, lst_getD hj, hm]
  · rw [lst_getD hj] at q; exact absurd q ha
theorem next_red {G : List Gp} {C : List Cf} {h : F3} {M j : Nat} (hj : j < G.length) (ha : h.a j = 0) : (F3.next G C h M).a j = 0 ∨ (F3.next G C h M).a j = firstF (G.getD j gp0) := by
  unfold F3.next
  show nxF G C _ _ _ M j = 0 ∨ nxF G C _ _ _ M j = _
  unfold nxF
  rcases beg_at (G := G) (C := C) (A := lst64 G.length h.a) (W := lst64 G.length h.w) (M := M) (f0 := alF G (lst64 G.length h.a) (lst64 G.length h.i) M) j G.length with q | ⟨_, q⟩
  · left
    rw [q]
    unfold alF
    rw [lst_getD hj, ha]
    exact alone_red
  · exact .inr q
theorem next_go {G : List Gp} {C : List Cf} {h : F3} {M j : Nat} (hg : gridB G C = true) (hf : fitM C M) (hj : j < G.length) (hm : M.testBit j = true) (ha : h.a j = 0)
    (hw : ∀ c ∈ C, (c.b.toNat = j → c.ab ≤ h.w c.a.toNat) ∧ (c.a.toNat = j → c.ba ≤ h.w c.b.toNat))
    (hz : ∀ o, o < G.length → M.testBit o = false → aloneF (G.getD o gp0) (h.a o) (h.i o) false = 0) : (F3.next G C h M).a j = firstF (G.getD j gp0) := by
  have rng := grid_cfm hg
  have hne : ∀ (k : Nat) (hk : k < C.length), C[k].a.toNat ≠ C[k].b.toNat := fun i hi => by have := rng C[i] (List.getElem_mem hi); omega
  unfold F3.next
  show nxF G C _ _ _ M j = _
  unfold nxF
  obtain ⟨d, hd⟩ : ∃ d, G.length = j + 1 + d := ⟨G.length - (j + 1), by omega⟩
  have hs : startB C (lst64 G.length h.a) (lst64 G.length h.w) M G.length (begF G C (lst64 G.length h.a) (lst64 G.length h.w) M (alF G (lst64 G.length h.a) (lst64 G.length h.i) M) j) j = true := by
    unfold startB
    simp only [Bool.and_eq_true, decide_eq_true_eq, Bool.not_eq_true']
    refine ⟨by rw [lst_getD hj]; exact ha, hm, ?_, ?_⟩
    · rw [heldM_bit _ _ _ _ (Nat.le_refl _), List.take_length, List.any_eq_false]
      intro c hc
      have b := rng c hc
      have := hw c hc
      unfold holds atI
      rw [lst_getD (by omega), lst_getD (by omega)]
      simp only [Bool.or_eq_true, Bool.and_eq_true, decide_eq_true_eq, not_or, not_and]
      exact ⟨fun h1 h2 => by have := this.1 h2; omega, fun h1 h2 => by have := this.2 h2; omega⟩
    · rw [and_zero]
      rintro x ⟨hx1, hx2⟩
      rw [foM_bit j x hne C.length (Nat.le_refl _), List.take_length, List.any_eq_true] at hx1
      obtain ⟨c, hc, hp⟩ := hx1
      have b := rng c hc
      rw [litM_bit] at hx2
      simp only [Bool.and_eq_true, decide_eq_true_eq] at hx2
      unfold pairB at hp
      simp only [Bool.or_eq_true, Bool.and_eq_true, decide_eq_true_eq] at hp
      have hxm : M.testBit x = false := by
        cases hq : M.testBit x with
        | false => rfl
        | true =>
          exfalso
          rcases hp with ⟨h1, h2⟩ | ⟨h1, h2⟩
          · exact hf c hc ⟨by rw [← h1]; exact hm, by rw [h2]; exact hq⟩
          · exact hf c hc ⟨by rw [h2]; exact hq, by rw [← h1]; exact hm⟩
      apply hx2.2
      rw [beg_off hxm]
      unfold alF
      rw [lst_getD hx2.1, lst_getD hx2.1, hxm]
      exact hz x hx2.1 hxm
  have := beg_start hs d
  rw [← hd] at this
  exact this
/-- Again and again with one want. -/
def stF (G : List Gp) (C : List Cf) (M : Nat) (h : F3) : Nat → F3
  | 0 => h
  | k + 1 => F3.next G C (stF G C M h k) M
theorem okf_st {G : List Gp} {C : List Cf} {M : Nat} {h : F3} (hg : gridB G C = true) (ok : Okf G C h) : ∀ k, Okf G C (stF G C M h k)
  | 0 => ok
  | k + 1 => okf_next hg (okf_st hg ok k) M
theorem okf_at {G : List Gp} {C : List Cf} {h : F3} (ok : Okf G C h) {j : Nat} (hj : j < G.length) : 1 ≤ h.i j ∧ 0 ≤ h.w j ∧ (h.a j = 2 ↔ h.w j = 0) ∧ (h.a j = 0 ∨ h.a j = 2 ∨ (h.a j = 1 ∧ h.i j ≤ (G.getD j gp0).lead) ∨ (h.a j = 3 ∧ h.i j ≤ (G.getD j gp0).amber)) := by
  have o := ok.1
  unfold fitsB at o
  simp only [Bool.and_eq_true, decide_eq_true_eq] at o
  have := fitsF_get o.2.2.2.1 o.1 o.2.1 o.2.2.1 j hj
  rw [lst_get, lst_get, lst_get] at this
  rw [show G.getD j gp0 = G[j] by simp [List.getD_eq_getElem?_getD, hj]]
  unfold fitB at this
  simp only [Bool.and_eq_true, Bool.or_eq_true, decide_eq_true_eq, beq_iff_eq, decide_eq_decide] at this
  exact ⟨this.1, this.2.1, this.2.2.1, this.2.2.2⟩
/-- What the wait is made of. -/
structure Wt (G : List Gp) (C : List Cf) (ld lo cl : Int) : Prop where
  g : ∀ j, j < G.length → 0 ≤ (G.getD j gp0).lead ∧ (G.getD j gp0).lead ≤ ld ∧ 1 ≤ (G.getD j gp0).min ∧ (G.getD j gp0).min ≤ lo ∧ 0 ≤ (G.getD j gp0).amber ∧ (G.getD j gp0).amber ≤ cl
  c : ∀ c ∈ C, c.ab ≤ cl ∧ c.ba ≤ cl
  l0 : 0 ≤ ld
  c0 : 0 ≤ cl
  big : ld ≤ 60 ∧ lo ≤ 3600 ∧ cl ≤ 3600
theorem upF_at {x : Int} (h : 0 ≤ x) : (x < 2147483647 → upF x = x + 1) ∧ (2147483647 ≤ x → upF x ≥ 2147483647) ∧ upF x ≥ 1 := by
  unfold upF
  by_cases e : x = 2147483647
  · rw [if_pos e]; omega
  · rw [if_neg e, if_neg (by omega)]; omega
/-- A group that is not wanted: at which time it is what at the latest. -/
def Un (g : Gp) (ll cl t a i w : Int) : Prop :=
  (a = 1 ∧ (g.lead - i + 1) + g.min + t ≤ ll) ∨ (a = 2 ∧ 1 + t ≤ ll ∧ g.min - i + 1 + t ≤ ll) ∨ (a = 3 ∧ g.amber - i + 1 + t ≤ ll + cl ∧ (t - ll + 1 ≤ w ∨ 2147483647 ≤ w)) ∨ (a = 0 ∧ (t - ll + 1 ≤ w ∨ 2147483647 ≤ w))
theorem un_step {G : List Gp} {C : List Cf} {M : Nat} {h : F3} {ld lo cl t : Int} {j : Nat} (ok : Okf G C h) (wt : Wt G C ld lo cl) (hj : j < G.length) (hm : M.testBit j = false) (ht : 0 ≤ t) (u : Un (G.getD j gp0) (ld + lo) cl t (h.a j) (h.i j) (h.w j)) :
    Un (G.getD j gp0) (ld + lo) cl (t + 1) ((F3.next G C h M).a j) ((F3.next G C h M).i j) ((F3.next G C h M).w j) := by
  have e := next_off (C := C) (h := h) hj hm
  have o := okf_at ok hj
  have b := wt.g j hj
  have big := wt.big
  have ei : (F3.next G C h M).i j = (if (F3.next G C h M).a j = h.a j then upF (h.i j) else 1) := by
    show inF _ _ _ j = _
    unfold inF
    rw [lst_getD hj, lst_getD hj]; rfl
  have ew : (F3.next G C h M).w j = (if (F3.next G C h M).a j = 2 then 0 else upF (h.w j)) := by
    show awF _ _ j = _
    unfold awF
    rw [lst_getD hj]; rfl
  rw [ei, ew, e]
  have ui := upF_at (x := h.i j) (by omega)
  have uw := upF_at (x := h.w j) o.2.1
  generalize G.getD j gp0 = g at *
  generalize h.a j = a at *
  generalize h.i j = i at *
  generalize h.w j = w at *
  clear e ei ew ok
  unfold Un at u ⊢
  unfold aloneF
  rcases u with ⟨rfl, u⟩ | ⟨rfl, u1, u2⟩ | ⟨rfl, u1, u2⟩ | ⟨rfl, u1⟩
  · simp only [show ¬ (1 : Int) = 2 by decide, show ¬ (1 : Int) = 3 by decide, if_false, if_true]
    by_cases d : i < g.lead
    · rw [if_pos d, if_pos rfl, if_neg (by decide)]
      exact .inl ⟨rfl, by have := ui.1 (by omega); omega⟩
    · rw [if_neg d, if_neg (by decide), if_pos rfl]
      exact .inr (.inl ⟨rfl, by omega, by omega⟩)
  · simp only [if_true, Bool.false_eq_true, if_false]
    by_cases d : i < g.min
    · rw [if_pos d, if_pos rfl, if_pos rfl]
      exact .inr (.inl ⟨rfl, by omega, by have := ui.1 (by omega); omega⟩)
    · rw [if_neg d]
      have w0 : w = 0 := o.2.2.1.1 rfl
      have := uw.1 (by omega)
      by_cases d3 : 0 < g.amber
      · rw [if_pos d3, if_neg (by decide), if_neg (by decide)]
        exact .inr (.inr (.inl ⟨rfl, by omega, .inl (by omega)⟩))
      · rw [if_neg d3, if_neg (by decide), if_neg (by decide)]
        exact .inr (.inr (.inr ⟨rfl, .inl (by omega)⟩))
  · simp only [show ¬ (3 : Int) = 2 by decide, if_false, if_true]
    have hw : t + 1 - (ld + lo) + 1 ≤ upF w ∨ 2147483647 ≤ upF w := by
      by_cases q : w < 2147483647
      · have := uw.1 q; omega
      · exact .inr (uw.2.1 (by omega))
    by_cases d : i < g.amber
    · rw [if_pos d, if_pos rfl, if_neg (by decide)]
      exact .inr (.inr (.inl ⟨rfl, by have := ui.1 (by omega); omega, hw⟩))
    · rw [if_neg d, if_neg (by decide), if_neg (by decide)]
      exact .inr (.inr (.inr ⟨rfl, hw⟩))
  · simp only [show ¬ (0 : Int) = 2 by decide, show ¬ (0 : Int) = 3 by decide, show ¬ (0 : Int) = 1 by decide, if_false, if_true]
    have hw : t + 1 - (ld + lo) + 1 ≤ upF w ∨ 2147483647 ≤ upF w := by
      by_cases q : w < 2147483647
      · have := uw.1 q; omega
      · exact .inr (uw.2.1 (by omega))
    exact .inr (.inr (.inr ⟨trivial, hw⟩))
theorem un_all {G : List Gp} {C : List Cf} {M : Nat} {h : F3} {ld lo cl : Int} {j : Nat} (hg : gridB G C = true) (ok : Okf G C h) (wt : Wt G C ld lo cl) (hj : j < G.length) (hm : M.testBit j = false) : ∀ k : Nat, Un (G.getD j gp0) (ld + lo) cl (k : Int) ((stF G C M h k).a j) ((stF G C M h k).i j) ((stF G C M h k).w j) := by
  intro k
  induction k with
  | zero =>
    have o := okf_at ok hj
    have b := wt.g j hj
    have c0 := wt.c0
    have l0 := wt.l0
    show Un _ _ _ _ (h.a j) (h.i j) (h.w j)
    unfold Un
    have hw : h.a j ≠ 2 → 1 ≤ h.w j := fun q => by
      have := o.2.1
      have : h.w j ≠ 0 := fun z => q (o.2.2.1.2 z)
      omega
    rcases o.2.2.2 with q | q | q | q
    · exact .inr (.inr (.inr ⟨q, .inl (by have := hw (by omega); omega)⟩))
    · exact .inr (.inl ⟨q, by omega, by omega⟩)
    · exact .inl ⟨q.1, by omega⟩
    · exact .inr (.inr (.inl ⟨q.1, by omega, .inl (by have := hw (by omega); omega)⟩))
  | succ k ih =>
    have := un_step (okf_st hg ok k) wt hj hm (by omega) ih
    rw [show ((k + 1 : Nat) : Int) = (k : Int) + 1 by omega]
    exact this
/-- A group that is wanted. -/
def Wn (g : Gp) (ld ll cl t a i : Int) : Prop :=
  a = 2 ∨ (a = 1 ∧ (g.lead - i + 1) + t ≤ ld + ll + cl) ∨ (a = 3 ∧ g.amber - i + 1 + t ≤ cl) ∨ (a = 0 ∧ t < ll + cl)
theorem wn_step {G : List Gp} {C : List Cf} {M : Nat} {h : F3} {ld lo cl t : Int} {j : Nat} (hg : gridB G C = true) (hf : fitM C M) (ok : Okf G C h) (wt : Wt G C ld lo cl) (hj : j < G.length) (hm : M.testBit j = true) (ht : 0 ≤ t)
    (un : ∀ o, o < G.length → M.testBit o = false → Un (G.getD o gp0) (ld + lo) cl t (h.a o) (h.i o) (h.w o)) (u : Wn (G.getD j gp0) ld (ld + lo) cl t (h.a j) (h.i j)) :
    Wn (G.getD j gp0) ld (ld + lo) cl (t + 1) ((F3.next G C h M).a j) ((F3.next G C h M).i j) := by
  have o := okf_at ok hj
  have b := wt.g j hj
  have big := wt.big
  have rng := grid_cfm hg
  have c0 := wt.c0
  have ei : (F3.next G C h M).i j = (if (F3.next G C h M).a j = h.a j then upF (h.i j) else 1) := by
    show inF _ _ _ j = _
    unfold inF
    rw [lst_getD hj, lst_getD hj]; rfl
  have ui := upF_at (x := h.i j) (by omega)
  unfold Wn at u ⊢
  by_cases z : h.a j = 0
  · have lt : t < ld + lo + cl := by omega
    have first : (F3.next G C h M).a j = firstF (G.getD j gp0) → (F3.next G C h M).a j = 2 ∨ ((F3.next G C h M).a j = 1 ∧ ((G.getD j gp0).lead - (F3.next G C h M).i j + 1) + (t + 1) ≤ ld + (ld + lo) + cl) := fun q => by
      rw [ei, q, z]
      unfold firstF
      by_cases d : 0 < (G.getD j gp0).lead
      · rw [if_pos d, if_neg (by decide)]
        exact .inr ⟨rfl, by omega⟩
      · rw [if_neg d]; exact .inl rfl
    by_cases late : t = ld + lo + cl - 1
    · have q := next_go hg hf hj hm z (fun c hc => by
        have bc := rng c hc
        have wc := wt.c c hc
        have key : ∀ x, x < G.length → M.testBit x = false → cl ≤ h.w x := fun x hx hxm => by
          have := un x hx hxm
          have bx := wt.g x hx
          have ox := okf_at ok hx
          unfold Un at this
          omega
        refine ⟨fun e => ?_, fun e => ?_⟩
        · have hx : M.testBit c.a.toNat = false := by
            cases hq : M.testBit c.a.toNat with
            | false => rfl
            | true => exact absurd ⟨hq, by rw [e]; exact hm⟩ (hf c hc)
          have := key c.a.toNat (by omega) hx
          omega
        · have hx : M.testBit c.b.toNat = false := by
            cases hq : M.testBit c.b.toNat with
            | false => rfl
            | true => exact absurd ⟨by rw [e]; exact hm, hq⟩ (hf c hc)
          have := key c.b.toNat (by omega) hx
          omega) (fun x hx hxm => by
        have := un x hx hxm
        have bx := wt.g x hx
        have ox := okf_at ok hx
        unfold Un at this
        unfold aloneF
        rcases this with ⟨q, r⟩ | ⟨q, r⟩ | ⟨q, r, _⟩ | ⟨q, _⟩
        · omega
        · rw [q]
          simp only [if_true, Bool.false_eq_true, if_false]
          rw [if_neg (by omega), if_neg (by omega)]
        · rw [q]
          simp only [show ¬ (3 : Int) = 2 by decide, if_false, if_true]
          rw [if_neg (by omega)]
        · rw [q]; simp)
      rcases first q with r | r
      · exact .inl r
      · exact .inr (.inl r)
    · rcases next_red (C := C) (h := h) (M := M) hj z with q | q
      · exact .inr (.inr (.inr ⟨q, by omega⟩))
      · rcases first q with r | r
        · exact .inl r
        · exact .inr (.inl r)
  · have e := next_on (C := C) hj hm z
    rw [ei, e]
    generalize G.getD j gp0 = g at *
    generalize h.a j = a at *
    generalize h.i j = i at *
    clear e ei
    unfold aloneF
    rcases u with rfl | ⟨rfl, u⟩ | ⟨rfl, u⟩ | ⟨rfl, u⟩
    · left; simp
    · simp only [show ¬ (1 : Int) = 2 by decide, show ¬ (1 : Int) = 3 by decide, if_false, if_true]
      by_cases d : i < g.lead
      · rw [if_pos d, if_pos rfl]
        exact .inr (.inl ⟨rfl, by have := ui.1 (by omega); omega⟩)
      · rw [if_neg d]; exact .inl rfl
    · simp only [show ¬ (3 : Int) = 2 by decide, if_false, if_true]
      by_cases d : i < g.amber
      · rw [if_pos d, if_pos rfl]
        exact .inr (.inr (.inl ⟨rfl, by have := ui.1 (by omega); omega⟩))
      · rw [if_neg d]
        exact .inr (.inr (.inr ⟨rfl, by have := wt.l0; omega⟩))
    · exact absurd rfl z
theorem wn_all {G : List Gp} {C : List Cf} {M : Nat} {h : F3} {ld lo cl : Int} {j : Nat} (hg : gridB G C = true) (hf : fitM C M) (ok : Okf G C h) (wt : Wt G C ld lo cl) (hj : j < G.length) (hm : M.testBit j = true) : ∀ k : Nat, Wn (G.getD j gp0) ld (ld + lo) cl (k : Int) ((stF G C M h k).a j) ((stF G C M h k).i j) := by
  intro k
  induction k with
  | zero =>
    have o := okf_at ok hj
    have b := wt.g j hj
    have c0 := wt.c0
    have l0 := wt.l0
    show Wn _ _ _ _ _ (h.a j) (h.i j)
    unfold Wn
    rcases o.2.2.2 with q | q | q | q
    · exact .inr (.inr (.inr ⟨q, by omega⟩))
    · exact .inl q
    · exact .inr (.inl ⟨q.1, by omega⟩)
    · exact .inr (.inr (.inl ⟨q.1, by omega⟩))
  | succ k ih =>
    have := wn_step hg hf (okf_st hg ok k) wt hj hm (by omega) (fun o ho hom => un_all hg ok wt ho hom k) ih
    rw [show ((k + 1 : Nat) : Int) = (k : Int) + 1 by omega]
    exact this
/-- Behind the wait all is settled, and stays so. -/
theorem settled_at {G : List Gp} {C : List Cf} {M : Nat} {h : F3} {ld lo cl : Int} (hg : gridB G C = true) (hf : fitM C M) (ok : Okf G C h) (wt : Wt G C ld lo cl) (k : Nat) (hk : 2 * ld + lo + cl ≤ (k : Int)) (j : Nat) (hj : j < G.length) : (stF G C M h k).a j = if M.testBit j = true then 2 else 0 := by
  have b := wt.g j hj
  have l0 := wt.l0
  have c0 := wt.c0
  have o := okf_at (okf_st (M := M) hg ok k) hj
  cases hm : M.testBit j with
  | true =>
    have := wn_all hg hf ok wt hj hm k
    unfold Wn at this
    rw [if_pos rfl]
    omega
  | false =>
    have := un_all hg ok wt hj hm k
    unfold Un at this
    rw [if_neg (by decide)]
    omega
end Go.Proofs.Ythflpnahifpdnaa
