import Derived.Test.YthflpnahifpdnaaSkM
import Derived.Test.YthflpnahifpdnaaTabA
import Derived.Laws.Bits64
import Derived.Laws.Bits64b
import Derived.Test.YthflpnahifpdnaaGrC
import Derived.Laws.BitsAllLaws
import Derived.Test.YthflpnahifpdnaaKtA
import Derived.Test.YthflpnahifpdnaaRuC
import Derived.Test.YthflpnahifpdnaaCpH
import Derived.Test.YthflpnahifpdnaaRmA
import Derived.Test.YthflpnahifpdnaaSdB
import Derived.Test.YthflpnahifpdnaaStU
import Derived.Deep.RegionHeld3
import Derived.Maps.Own
import Derived.Maps.OwnOps
import Derived.Maps.RangeWalk
import Derived.DeepKeys4
import Derived.KernelRfl
import Derived.Deep.CutRange
import Derived.Maps.Views
import Derived.Laws.Cover1
import Derived.Test.YthflpnahifpdnaaOpT
import Derived.Test.YthflpnahifpdnaaBas
import Derived.Test.YthflpnahifpdnaaGrD
import Derived.Test.YthflpnahifpdnaaCpT
namespace Go.Proofs.Ythflpnahifpdnaa
open Go.RowKit
set_option linter.unusedVariables false

theorem beg_never {G : List Gp} {C : List Cf} {A W : List Int} {M : Nat} {f0 : Nat → Int} {j : Nat} (hs : startB C A W M G.length (begF G C A W M f0 j) j = false) : ∀ m, begF G C A W M f0 m j = f0 j := by
  intro m
  induction m with
  | zero => rfl
  | succ m ih =>
    unfold begF
    by_cases e : m = j
    · subst e
      rw [if_neg (by rw [hs]; decide)]
      exact ih
    · by_cases h : startB C A W M G.length (begF G C A W M f0 m) m = true
      · rw [if_pos h]
        unfold updF
        rw [if_neg (by omega)]; exact ih
      · rw [if_neg h]; exact ih
/-- A foe that is away long enough and goes. -/
def Free (G : List Gp) (h : F3) (o : Nat) (v : Int) : Prop := v ≤ h.w o ∧ aloneF (G.getD o gp0) (h.a o) (h.i o) false = 0
/-- What is red and wanted starts, if all foes let it. -/
theorem next_free {G : List Gp} {C : List Cf} {h : F3} {M j : Nat} (hg : gridB G C = true) (hf : fitM C M) (hj : j < G.length) (hm : M.testBit j = true) (ha : h.a j = 0)
    (hw : ∀ c ∈ C, (c.b.toNat = j → Free G h c.a.toNat c.ab) ∧ (c.a.toNat = j → Free G h c.b.toNat c.ba)) : (F3.next G C h M).a j = firstF (G.getD j gp0) := by
  have rng := grid_cfm hg
  have hne : ∀ (k : Nat) (hk : k < C.length), C[k].a.toNat ≠ C[k].b.toNat := fun i hi => by have := rng C[i] (List.getElem_mem hi); omega
  unfold F3.next
  show nxF G C _ _ _ M j = _
  unfold nxF
  obtain ⟨d, hd⟩ : ∃ d, G.length = j + 1 + d := ⟨G.length - (j + 1), by omega⟩
  have hs : startB C (lst64 G.length h.a) (lst64 G.length h.w) M G.length (begF G C (lst64 G.length h.a) (lst64 G.length h.w) M (alF G (lst64 G.length h.a) (lst64 G.length h.i) M) j) j = true := by
    unfold startB
    simp only [Bool.and_eq_true, decide_eq_true_eq, Bool.not_eq_true']
    refine ⟨by rw [lst_getD hj]; exact ha, hm, ?_, ?_⟩
    · rw [heldM_bit _ _ _ _ (Nat.le_refl _), List.take_length, List.any_eq_false]
      intro c hc
      have b := rng c hc
      have := hw c hc
      unfold holds atI
      rw [lst_getD (by omega), lst_getD (by omega)]
      simp only [Bool.or_eq_true, Bool.and_eq_true, decide_eq_true_eq, not_or, not_and]
      exact ⟨fun h1 h2 => by have := (this.1 h2).1; omega, fun h1 h2 => by have := (this.2 h2).1; omega⟩
    · rw [and_zero]
      rintro x ⟨hx1, hx2⟩
      rw [foM_bit j x hne C.length (Nat.le_refl _), List.take_length, List.any_eq_true] at hx1
      obtain ⟨c, hc, hp⟩ := hx1
      have b := rng c hc
      have hwc := hw c hc
      rw [litM_bit] at hx2
      simp only [Bool.and_eq_true, decide_eq_true_eq] at hx2
      unfold pairB at hp
      simp only [Bool.or_eq_true, Bool.and_eq_true, decide_eq_true_eq] at hp
      have hxm : M.testBit x = false := by
        cases hq : M.testBit x with
        | false => rfl
        | true =>
          exfalso
          rcases hp with ⟨h1, h2⟩ | ⟨h1, h2⟩
          · exact hf c hc ⟨by rw [← h1]; exact hm, by rw [h2]; exact hq⟩
          · exact hf c hc ⟨by rw [h2]; exact hq, by rw [← h1]; exact hm⟩
      apply hx2.2
      rw [beg_off hxm]
      unfold alF
      rw [lst_getD hx2.1, lst_getD hx2.1, hxm]
      rcases hp with ⟨h1, h2⟩ | ⟨h1, h2⟩
      · have := (hwc.2 h1.symm).2
        rw [h2] at this; exact this
      · have := (hwc.1 h1.symm).2
        rw [h2] at this; exact this
  have := beg_start hs d
  rw [← hd] at this
  exact this
/-- A foe that holds another back. -/
def Bars (G : List Gp) (h : F3) (M : Nat) (o : Nat) (v : Int) : Prop := h.w o < v ∨ (M.testBit o = false ∧ aloneF (G.getD o gp0) (h.a o) (h.i o) false ≠ 0)
theorem next_barred {G : List Gp} {C : List Cf} {h : F3} {M j : Nat} (hg : gridB G C = true) (hj : j < G.length) (ha : h.a j = 0) {c : Cf} (hc : c ∈ C)
    (hw : (c.b.toNat = j ∧ Bars G h M c.a.toNat c.ab) ∨ (c.a.toNat = j ∧ Bars G h M c.b.toNat c.ba)) : (F3.next G C h M).a j = 0 := by
  have rng := grid_cfm hg
  have b := rng c hc
  have hne : ∀ (k : Nat) (hk : k < C.length), C[k].a.toNat ≠ C[k].b.toNat := fun i hi => by have := rng C[i] (List.getElem_mem hi); omega
  unfold F3.next
  show nxF G C _ _ _ M j = _
  unfold nxF
  have lit : ∀ x, x < G.length → M.testBit x = false → aloneF (G.getD x gp0) (h.a x) (h.i x) false ≠ 0 → pairB j x c = true →
      ¬ (foM C j C.length &&& litM (begF G C (lst64 G.length h.a) (lst64 G.length h.w) M (alF G (lst64 G.length h.a) (lst64 G.length h.i) M) j) G.length = 0) := by
    intro x hx hxm hal hp hz
    rw [and_zero] at hz
    apply hz x
    constructor
    · rw [foM_bit j x hne C.length (Nat.le_refl _), List.take_length, List.any_eq_true]
      exact ⟨c, hc, hp⟩
    · rw [litM_bit, beg_off hxm]
      unfold alF
      rw [lst_getD hx, lst_getD hx, hxm]
      simp only [Bool.and_eq_true, decide_eq_true_eq]
      exact ⟨hx, hal⟩
  have hs : startB C (lst64 G.length h.a) (lst64 G.length h.w) M G.length (begF G C (lst64 G.length h.a) (lst64 G.length h.w) M (alF G (lst64 G.length h.a) (lst64 G.length h.i) M) j) j = false := by
    unfold startB
    have key : (heldM (lst64 G.length h.w) C C.length).testBit j = true ∨ ¬ (foM C j C.length &&& litM (begF G C (lst64 G.length h.a) (lst64 G.length h.w) M (alF G (lst64 G.length h.a) (lst64 G.length h.i) M) j) G.length = 0) := by
      rcases hw with ⟨e, q | ⟨q1, q2⟩⟩ | ⟨e, q | ⟨q1, q2⟩⟩
      · left
        rw [heldM_bit _ _ _ _ (Nat.le_refl _), List.take_length, List.any_eq_true]
        refine ⟨c, hc, ?_⟩
        unfold holds atI
        rw [lst_getD (by omega), lst_getD (by omega)]
        simp [q, e]
      · right
        exact lit c.a.toNat (by omega) q1 q2 (by unfold pairB; simp [e])
      · left
        rw [heldM_bit _ _ _ _ (Nat.le_refl _), List.take_length, List.any_eq_true]
        refine ⟨c, hc, ?_⟩
        unfold holds atI
        rw [lst_getD (by omega), lst_getD (by omega)]
        simp [q, e]
      · right
        exact lit c.b.toNat (by omega) q1 q2 (by unfold pairB; simp [e])
    rcases key with q | q
    · simp [q]
    · simp [q]
  rw [beg_never hs]
  unfold alF
  rw [lst_getD hj, ha]
  exact alone_red
theorem next_i {G : List Gp} {C : List Cf} {h : F3} {M j : Nat} (hj : j < G.length) : (F3.next G C h M).i j = (if (F3.next G C h M).a j = h.a j then upF (h.i j) else 1) := by
  show inF _ _ _ j = _
  unfold inF
  rw [lst_getD hj, lst_getD hj]; rfl
theorem next_w {G : List Gp} {C : List Cf} {h : F3} {M j : Nat} (hj : j < G.length) : (F3.next G C h M).w j = (if (F3.next G C h M).a j = 2 then 0 else upF (h.w j)) := by
  show awF _ _ j = _
  unfold awF
  rw [lst_getD hj]; rfl

/-! A move from one mask to another, all greens that go being old enough. -/
structure Rst (G : List Gp) (F M : Nat) (h : F3) : Prop where
  a : ∀ j, j < G.length → h.a j = if F.testBit j = true then 2 else 0
  old : ∀ j, j < G.length → F.testBit j = true → M.testBit j = false → (G.getD j gp0).min ≤ h.i j
theorem grid_g {G : List Gp} {C : List Cf} (hg : gridB G C = true) {j : Nat} (hj : j < G.length) : 1 ≤ (G.getD j gp0).min ∧ (G.getD j gp0).min ≤ 3600 ∧ 0 ≤ (G.getD j gp0).amber ∧ (G.getD j gp0).amber ≤ 60 ∧ 0 ≤ (G.getD j gp0).lead ∧ (G.getD j gp0).lead ≤ 60 := by
  have e : G.getD j gp0 = G[j] := by simp [List.getD_eq_getElem?_getD, hj]
  simp only [gridB, Bool.and_eq_true, List.all_eq_true] at hg
  have := hg.2.1 _ (List.getElem_mem hj)
  rw [e]
  simp [gpB, timeB, amberB] at this
  omega
/-- A group that goes. -/
def Lo (g : Gp) (k a i w : Int) : Prop := (k = 0 ∧ a = 2 ∧ g.min ≤ i ∧ w = 0) ∨ (1 ≤ k ∧ k ≤ g.amber ∧ a = 3 ∧ i = k ∧ w = k) ∨ (1 ≤ k ∧ g.amber < k ∧ a = 0 ∧ w = k)
theorem lo_all {G : List Gp} {C : List Cf} {F M : Nat} {h : F3} {j : Nat} (hg : gridB G C = true) (ok : Okf G C h) (r : Rst G F M h) (hj : j < G.length) (hF : F.testBit j = true) (hm : M.testBit j = false) : ∀ k : Nat, k < 1000000 → Lo (G.getD j gp0) (k : Int) ((stF G C M h k).a j) ((stF G C M h k).i j) ((stF G C M h k).w j) := by
  intro k
  have g := grid_g hg hj
  induction k with
  | zero =>
    intro _
    have o := okf_at ok hj
    have ha := r.a j hj
    rw [hF, if_pos rfl] at ha
    exact .inl ⟨rfl, ha, r.old j hj hF hm, o.2.2.1.1 ha⟩
  | succ k ih =>
    intro hk
    have u := ih (by omega)
    show Lo _ _ ((F3.next G C (stF G C M h k) M).a j) ((F3.next G C (stF G C M h k) M).i j) ((F3.next G C (stF G C M h k) M).w j)
    have e := next_off (C := C) (h := stF G C M h k) hj hm
    rw [next_i hj, next_w hj, e]
    generalize (stF G C M h k).a j = a at *
    generalize (stF G C M h k).i j = i at *
    generalize (stF G C M h k).w j = w at *
    generalize G.getD j gp0 = x at *
    clear e ih
    have c : ((k + 1 : Nat) : Int) = (k : Int) + 1 := by omega
    rw [c]
    unfold Lo at u ⊢
    unfold aloneF
    rcases u with ⟨u0, rfl, u1, u2⟩ | ⟨u0, u1, rfl, u2, u3⟩ | ⟨u0, u1, rfl, u2⟩
    · simp only [if_true, Bool.false_eq_true, if_false]
      rw [if_neg (by omega)]
      have := (upF_at (x := w) (by omega)).1 (by omega)
      by_cases d : 0 < x.amber
      · rw [if_pos d, if_neg (by decide), if_neg (by decide)]
        exact .inr (.inl ⟨by omega, by omega, rfl, by omega, by omega⟩)
      · rw [if_neg d, if_neg (by decide), if_neg (by decide)]
        exact .inr (.inr ⟨by omega, by omega, rfl, by omega⟩)
    · simp only [show ¬ (3 : Int) = 2 by decide, if_false, if_true]
      have h1 := (upF_at (x := w) (by omega)).1 (by omega)
      have h2 := (upF_at (x := i) (by omega)).1 (by omega)
      by_cases d : i < x.amber
      · rw [if_pos d, if_pos rfl, if_neg (by decide)]
        exact .inr (.inl ⟨by omega, by omega, rfl, by omega, by omega⟩)
      · rw [if_neg d, if_neg (by decide), if_neg (by decide)]
        exact .inr (.inr ⟨by omega, by omega, rfl, by omega⟩)
    · simp only [show ¬ (0 : Int) = 2 by decide, show ¬ (0 : Int) = 3 by decide, show ¬ (0 : Int) = 1 by decide, if_false, if_true]
      have h1 := (upF_at (x := w) (by omega)).1 (by omega)
      exact .inr (.inr ⟨by omega, by omega, trivial, by omega⟩)
/-- A group that is red and stays so. -/
theorem red_all {G : List Gp} {C : List Cf} {F M : Nat} {h : F3} {j : Nat} (hg : gridB G C = true) (ok : Okf G C h) (r : Rst G F M h) (hj : j < G.length) (hF : F.testBit j = false) (hm : M.testBit j = false) : ∀ k : Nat, (stF G C M h k).a j = 0 ∧ (h.w j + (k : Int) ≤ (stF G C M h k).w j ∨ 2147483647 ≤ (stF G C M h k).w j) := by
  intro k
  induction k with
  | zero =>
    have ha := r.a j hj
    rw [hF, if_neg (by decide)] at ha
    exact ⟨ha, .inl (by show h.w j + ((0 : Nat) : Int) ≤ h.w j; omega)⟩
  | succ k ih =>
    have o := okf_at (okf_st (M := M) hg ok k) hj
    show (F3.next G C (stF G C M h k) M).a j = 0 ∧ (_ ≤ (F3.next G C (stF G C M h k) M).w j ∨ _ ≤ (F3.next G C (stF G C M h k) M).w j)
    have e := next_off (C := C) (h := stF G C M h k) hj hm
    rw [ih.1, alone_red] at e
    rw [next_w hj, e, if_neg (by decide)]
    refine ⟨rfl, ?_⟩
    have u := upF_at (x := (stF G C M h k).w j) o.2.1
    have := ih.2
    by_cases q : (stF G C M h k).w j < 2147483647
    · have := u.1 q; omega
    · exact .inr (u.2.1 (by omega))
theorem green_all {G : List Gp} {C : List Cf} {F M : Nat} {h : F3} {j : Nat} (r : Rst G F M h) (hj : j < G.length) (hF : F.testBit j = true) (hm : M.testBit j = true) : ∀ k : Nat, (stF G C M h k).a j = 2 := by
  intro k
  induction k with
  | zero => have ha := r.a j hj; rw [hF, if_pos rfl] at ha; exact ha
  | succ k ih =>
    show (F3.next G C (stF G C M h k) M).a j = 2
    rw [next_on (C := C) hj hm (by omega), ih]
    unfold aloneF
    simp
/-- How long the foes of j keep it: W is enough. -/
def Enough (G : List Gp) (C : List Cf) (F : Nat) (h : F3) (j : Nat) (W : Int) : Prop :=
  ∀ c ∈ C, (c.b.toNat = j → if F.testBit c.a.toNat = true then (G.getD c.a.toNat gp0).amber ≤ W ∧ c.ab ≤ W else c.ab ≤ W + h.w c.a.toNat) ∧ (c.a.toNat = j → if F.testBit c.b.toNat = true then (G.getD c.b.toNat gp0).amber ≤ W ∧ c.ba ≤ W else c.ba ≤ W + h.w c.b.toNat)
theorem free_at {G : List Gp} {C : List Cf} {F M : Nat} {h : F3} (hg : gridB G C = true) (ok : Okf G C h) (r : Rst G F M h) {k : Nat} (hk : k < 1000000) {o : Nat} {v : Int} (ho : o < G.length) (hm : M.testBit o = false) (hv : v ≤ 3600) (hw : if F.testBit o = true then (G.getD o gp0).amber ≤ (k : Int) ∧ v ≤ (k : Int) else v ≤ (k : Int) + h.w o) : Free G (stF G C M h k) o v := by
  have g := grid_g hg ho
  unfold Free
  cases hF : F.testBit o with
  | true =>
    rw [hF, if_pos rfl] at hw
    have := lo_all hg ok r ho hF hm k hk
    unfold Lo at this
    unfold aloneF
    rcases this with ⟨u0, u1, u2, u3⟩ | ⟨u0, u1, u2, u3, u4⟩ | ⟨u0, u1, u2, u3⟩
    · rw [u1]
      refine ⟨by omega, ?_⟩
      simp only [if_true, Bool.false_eq_true, if_false]
      rw [if_neg (by omega), if_neg (by omega)]
    · rw [u2]
      refine ⟨by omega, ?_⟩
      simp only [show ¬ (3 : Int) = 2 by decide, if_false, if_true]
      rw [if_neg (by omega)]
    · rw [u2]
      exact ⟨by omega, by simp⟩
  | false =>
    rw [hF, if_neg (by decide)] at hw
    have := red_all hg ok r ho hF hm k
    rw [this.1]
    exact ⟨by omega, alone_red⟩
/-- A group that comes: at the latest. -/
theorem up_all {G : List Gp} {C : List Cf} {F M : Nat} {h : F3} {j : Nat} {W : Nat} (hg : gridB G C = true) (hf : fitM C M) (ok : Okf G C h) (r : Rst G F M h) (hj : j < G.length) (hF : F.testBit j = false) (hm : M.testBit j = true) (en : Enough G C F h j (W : Int)) : ∀ k : Nat, k < 1000000 → ((stF G C M h k).a j = 0 ∧ k ≤ W) ∨ ((stF G C M h k).a j = 1 ∧ (k : Int) - W ≤ (stF G C M h k).i j) ∨ (stF G C M h k).a j = 2 := by
  intro k
  have g := grid_g hg hj
  have rng := grid_cfm hg
  have h3 : ∀ c ∈ C, c.ab ≤ 3600 ∧ c.ba ≤ 3600 := fun c hc => by
    obtain ⟨i, hi, e⟩ := List.getElem_of_mem hc
    have := grid_cf hg i hi
    rw [e] at this
    omega
  induction k with
  | zero =>
    intro _
    have ha := r.a j hj
    rw [hF, if_neg (by decide)] at ha
    exact .inl ⟨ha, by omega⟩
  | succ k ih =>
    intro hk
    have u := ih (by omega)
    show ((F3.next G C (stF G C M h k) M).a j = 0 ∧ _) ∨ ((F3.next G C (stF G C M h k) M).a j = 1 ∧ _ ≤ (F3.next G C (stF G C M h k) M).i j) ∨ (F3.next G C (stF G C M h k) M).a j = 2
    have first : (stF G C M h k).a j = 0 → (F3.next G C (stF G C M h k) M).a j = firstF (G.getD j gp0) → k ≤ W → ((F3.next G C (stF G C M h k) M).a j = 1 ∧ ((k + 1 : Nat) : Int) - W ≤ (F3.next G C (stF G C M h k) M).i j) ∨ (F3.next G C (stF G C M h k) M).a j = 2 := fun z q hkW => by
      rw [next_i hj, q, z]
      unfold firstF
      by_cases d : 0 < (G.getD j gp0).lead
      · rw [if_pos d, if_neg (by decide)]
        exact .inl ⟨rfl, by omega⟩
      · rw [if_neg d]; exact .inr rfl
    rcases u with ⟨z, u⟩ | ⟨z, u⟩ | z
    · by_cases late : k = W
      · have q := next_free (C := C) (h := stF G C M h k) hg hf hj hm z (fun c hc => by
          have b := rng c hc
          have e := en c hc
          rw [← late] at e
          have h33 := h3 c hc
          refine ⟨fun e1 => ?_, fun e1 => ?_⟩
          · have hx : M.testBit c.a.toNat = false := by
              cases hq : M.testBit c.a.toNat with
              | false => rfl
              | true => exact absurd ⟨hq, by rw [e1]; exact hm⟩ (hf c hc)
            exact free_at hg ok r (by omega) (by omega) hx h33.1 (e.1 e1)
          · have hx : M.testBit c.b.toNat = false := by
              cases hq : M.testBit c.b.toNat with
              | false => rfl
              | true => exact absurd ⟨by rw [e1]; exact hm, hq⟩ (hf c hc)
            exact free_at hg ok r (by omega) (by omega) hx h33.2 (e.2 e1))
        exact .inr (first z q u)
      · rcases next_red (C := C) (h := stF G C M h k) (M := M) hj z with q | q
        · exact .inl ⟨q, by omega⟩
        · exact .inr (first z q u)
    · have o := okf_at (okf_st (M := M) hg ok k) hj
      have ui := upF_at (x := (stF G C M h k).i j) (by omega)
      right
      rw [next_i hj, next_on (C := C) hj hm (by omega), z]
      unfold aloneF
      simp only [show ¬ (1 : Int) = 2 by decide, show ¬ (1 : Int) = 3 by decide, if_false, if_true]
      by_cases d : (stF G C M h k).i j < (G.getD j gp0).lead
      · rw [if_pos d, if_pos rfl]
        exact .inl ⟨rfl, by have := ui.1 (by omega); omega⟩
      · rw [if_neg d]; exact .inr rfl
    · right; right
      rw [next_on (C := C) hj hm (by omega), z]
      unfold aloneF
      simp
/-- A foe that keeps j for W steps. -/
def Keeps (G : List Gp) (C : List Cf) (F M : Nat) (j : Nat) (W : Int) : Prop :=
  W = 0 ∨ ∃ c ∈ C, (c.b.toNat = j ∧ F.testBit c.a.toNat = true ∧ M.testBit c.a.toNat = false ∧ (W = (G.getD c.a.toNat gp0).amber ∨ W = c.ab)) ∨ (c.a.toNat = j ∧ F.testBit c.b.toNat = true ∧ M.testBit c.b.toNat = false ∧ (W = (G.getD c.b.toNat gp0).amber ∨ W = c.ba))
theorem bars_at {G : List Gp} {C : List Cf} {F M : Nat} {h : F3} (hg : gridB G C = true) (ok : Okf G C h) (r : Rst G F M h) {k : Nat} (hk : k < 1000000) {o : Nat} {v W : Int} (ho : o < G.length) (hF : F.testBit o = true) (hm : M.testBit o = false) (hW : W = (G.getD o gp0).amber ∨ W = v) (lt : (k : Int) < W) : Bars G (stF G C M h k) M o v := by
  have g := grid_g hg ho
  unfold Bars
  have := lo_all hg ok r ho hF hm k hk
  unfold Lo at this
  rcases hW with e | e
  · right
    refine ⟨hm, ?_⟩
    unfold aloneF
    rcases this with ⟨u0, u1, u2, u3⟩ | ⟨u0, u1, u2, u3, u4⟩ | ⟨u0, u1, u2, u3⟩
    · rw [u1]
      simp only [if_true, Bool.false_eq_true, if_false]
      rw [if_neg (by omega), if_pos (by omega)]
      decide
    · rw [u2]
      simp only [show ¬ (3 : Int) = 2 by decide, if_false, if_true]
      rw [if_pos (by omega)]
      decide
    · omega
  · left
    omega
/-- .. at the soonest. -/
theorem soon_all {G : List Gp} {C : List Cf} {F M : Nat} {h : F3} {j : Nat} {W : Nat} (hg : gridB G C = true) (ok : Okf G C h) (r : Rst G F M h) (hj : j < G.length) (hF : F.testBit j = false) (hm : M.testBit j = true) (ke : Keeps G C F M j (W : Int)) : ∀ k : Nat, k < 1000000 → ((stF G C M h k).a j = 0) ∨ ((stF G C M h k).a j = 1 ∧ (stF G C M h k).i j ≤ (k : Int) - W) ∨ ((stF G C M h k).a j = 2 ∧ (W : Int) + (G.getD j gp0).lead < (k : Int)) := by
  intro k
  have g := grid_g hg hj
  have rng := grid_cfm hg
  induction k with
  | zero =>
    intro _
    have ha := r.a j hj
    rw [hF, if_neg (by decide)] at ha
    exact .inl ha
  | succ k ih =>
    intro hk
    have u := ih (by omega)
    have o := okf_at (okf_st (M := M) hg ok k) hj
    show ((F3.next G C (stF G C M h k) M).a j = 0) ∨ ((F3.next G C (stF G C M h k) M).a j = 1 ∧ (F3.next G C (stF G C M h k) M).i j ≤ _) ∨ ((F3.next G C (stF G C M h k) M).a j = 2 ∧ _)
    rcases u with z | ⟨z, u⟩ | ⟨z, u⟩
    · by_cases lt : k < W
      · left
        rcases ke with q | ⟨c, hc, q⟩
        · omega
        · have b := rng c hc
          refine next_barred hg hj z hc ?_
          rcases q with ⟨e1, e2, e3, e4⟩ | ⟨e1, e2, e3, e4⟩
          · exact .inl ⟨e1, bars_at hg ok r (by omega) (by omega) e2 e3 e4 (by omega)⟩
          · exact .inr ⟨e1, bars_at hg ok r (by omega) (by omega) e2 e3 e4 (by omega)⟩
      · rcases next_red (C := C) (h := stF G C M h k) (M := M) hj z with q | q
        · exact .inl q
        · right
          rw [next_i hj, q, z]
          unfold firstF
          by_cases d : 0 < (G.getD j gp0).lead
          · rw [if_pos d, if_neg (by decide)]
            exact .inl ⟨rfl, by omega⟩
          · rw [if_neg d]; exact .inr ⟨rfl, by omega⟩
    · have ui := upF_at (x := (stF G C M h k).i j) (by omega)
      right
      rw [next_i hj, next_on (C := C) hj hm (by omega), z]
      unfold aloneF
      simp only [show ¬ (1 : Int) = 2 by decide, show ¬ (1 : Int) = 3 by decide, if_false, if_true]
      by_cases d : (stF G C M h k).i j < (G.getD j gp0).lead
      · rw [if_pos d, if_pos rfl]
        exact .inl ⟨rfl, by have := ui.1 (by omega); omega⟩
      · rw [if_neg d]; exact .inr ⟨rfl, by omega⟩
    · right; right
      refine ⟨?_, by omega⟩
      rw [next_on (C := C) hj hm (by omega), z]
      unfold aloneF
      simp
end Go.Proofs.Ythflpnahifpdnaa
namespace Go.Proofs.Ythflpnahifpdnaa
open Go.RowKit
set_option linter.unusedVariables false


/-- Is a number in a mask? -/
def hasN (M : Nat) (g : Int) : Bool := decide (0 ≤ g) && (decide (g < 64) && M.testBit g.toNat)
theorem zbit1 (M k : Nat) (h : M < 18446744073709551616) : (bits .and .u64 ((M : Int) / 2 ^ k) 1 == 1) = M.testBit k := by
  have e : ((M : Int) / 2 ^ k) = ((M / 2 ^ k : Nat) : Int) := by simp
  have t : bits .and .u64 ((M / 2 ^ k : Nat) : Int) 1 = ((M / 2 ^ k &&& 1 : Nat) : Int) := bits_and_u64_nat (M / 2 ^ k) 1 (Nat.lt_of_le_of_lt (Nat.div_le_self _ _) h) (by decide)
  rw [e, t, Nat.and_one_is_mod, Nat.testBit_eq_decide_div_mod_eq]
  rcases Nat.mod_two_eq_zero_or_one (M / 2 ^ k) with h | h <;> rw [h] <;> rfl
theorem bit64 (M : Nat) (h : M < 18446744073709551616) : M.testBit 64 = false := Nat.testBit_lt_two_pow h
theorem hasS_eq (M : Nat) (g : Int) (hM : M < 18446744073709551616) (hg : -9223372036854775808 ≤ g ∧ g ≤ 9223372036854775807) : (bits .and .u64 ((M : Int) / 2 ^ min (IntKind.u64.wrap g).toNat 64) 1 == 1) = hasN M g := by
  rw [zbit1 M _ hM, IntKind.wrap_u64]
  unfold hasN
  by_cases h0 : 0 ≤ g
  · by_cases h1 : g < 64
    · have e : min (g % 18446744073709551616).toNat 64 = g.toNat := by omega
      rw [e]; simp [h0, h1]
    · have e : min (g % 18446744073709551616).toNat 64 = 64 := by omega
      rw [e, bit64 M hM]; simp [h1]
  · have e : min (g % 18446744073709551616).toNat 64 = 64 := by omega
    rw [e, bit64 M hM]; simp [h0]
theorem allOf_eq (n : Nat) : IntKind.u64.wrap (IntKind.u64.wrap (2 ^ min n 64) - 1) = ((2 ^ min n 64 - 1 : Nat) : Int) := by
  rw [IntKind.wrap_u64, IntKind.wrap_u64]
  have hp : 1 ≤ 2 ^ min n 64 := Nat.one_le_two_pow
  by_cases h : n < 64
  · have e : min n 64 = n := by omega
    rw [e] at hp ⊢
    have hl : 2 ^ n < 18446744073709551616 := Nat.lt_of_lt_of_le (Nat.pow_lt_pow_right (by decide) h) (by decide)
    have e2 : ((2 : Int) ^ n) = ((2 ^ n : Nat) : Int) := by simp
    rw [e2]; omega
  · have e : min n 64 = 64 := by omega
    rw [e]; decide
theorem allOf_lt (n : Nat) : 2 ^ min n 64 - 1 < 18446744073709551616 := by
  have h : 2 ^ min n 64 ≤ 2 ^ 64 := Nat.pow_le_pow_right (by decide) (Nat.min_le_right _ _)
  have e : 2 ^ 64 = 18446744073709551616 := by decide
  have hp : 1 ≤ 2 ^ min n 64 := Nat.one_le_two_pow
  omega
theorem hasN_and (M n : Nat) (g : Int) : hasN (M &&& (2 ^ min n 64 - 1)) g = (hasN M g && decide (g < (n : Int))) := by
  unfold hasN
  rw [Nat.testBit_and, Nat.testBit_two_pow_sub_one]
  by_cases h0 : 0 ≤ g
  · by_cases h1 : g < 64
    · have e : decide (g.toNat < min n 64) = decide (g < (n : Int)) := by
        apply Bool.eq_iff_iff.2; simp only [decide_eq_true_eq]; omega
      rw [e]; simp [h0, h1]
    · simp [h1]
  · simp [h0]
/-- Is a row's conflict in the mask? -/
def hit (n M : Nat) (c : Cf) : Bool := (hasN M c.a && decide (c.a < (n : Int))) && (hasN M c.b && decide (c.b < (n : Int)))
def clashF (n M : Nat) : List Cf → Int × Int × Bool
  | [] => (-1, -1, false)
  | c :: cs => if hit n M c = true then (c.a, c.b, true) else clashF n M cs
theorem clashF_step (n M : Nat) (C : List Cf) (k : Nat) (h : k < C.length) : clashF n M (C.drop k) = if hit n M C[k] = true then (C[k].a, C[k].b, true) else clashF n M (C.drop (k + 1)) := by
  rw [List.drop_eq_getElem_cons h]; rfl
theorem clashF_end (n M : Nat) (C : List Cf) (k : Nat) (h : C.length ≤ k) : clashF n M (C.drop k) = (-1, -1, false) := by
  rw [List.drop_eq_nil_of_le h]; rfl
set_option maxRecDepth 100000 in
theorem hasS_any (M : Nat) (g : Int) (w : World) (hM : M < 18446744073709551616) (hg : -9223372036854775808 ≤ g ∧ g ≤ 9223372036854775807) :
    Calls Try.prog 34 #[.int .u64 (M : Int), .int .i64 g] w fun e w' => e = .returned (.bool (hasN M g)) ∧ w' = w := by
  have e := hasS_eq M g hM hg
  go_enter Try.func34, Try.ntmps34
  go_wp2
  go_ret
  exact ⟨rfl, rfl⟩
set_option maxRecDepth 100000 in
theorem allOf_any (n : Nat) (a : Option Addr) (c : Nat) (w : World) (hn : n ≤ 2932031007317) :
    Calls Try.prog 33 #[.slice a n c] w fun e w' => e = .returned (.int .u64 ((2 ^ min n 64 - 1 : Nat) : Int)) ∧ w' = w := by
  have e := allOf_eq n
  go_enter Try.func33, Try.ntmps33
  go_wp2
  go_ret
  exact ⟨rfl, rfl⟩
end Go.Proofs.Ythflpnahifpdnaa
namespace Go.Proofs.Ythflpnahifpdnaa
open Go.RowKit
set_option linter.unusedVariables false


theorem hasN_andNot (F T : Nat) (g : Int) (hT : T < 18446744073709551616) : hasN (F &&& (18446744073709551615 - T)) g = (hasN F g && !hasN T g) := by
  unfold hasN
  by_cases h0 : 0 ≤ g
  · by_cases h1 : g < 64
    · have e : (18446744073709551615 - T).testBit g.toNat = !T.testBit g.toNat := by
        have := Nat.testBit_two_pow_sub_succ (x := T) (n := 64) (by simpa using hT) g.toNat
        have e2 : 2 ^ 64 - (T + 1) = 18446744073709551615 - T := by omega
        rw [e2] at this
        rw [this]
        have h2 : g.toNat < 64 := by omega
        simp [h2]
      rw [Nat.testBit_and, e]; simp [h0, h1]
    · simp [h1]
  · simp [h0]
/-- Does group k lose its green? -/
def loses (F T : Nat) (k : Nat) : Bool := hasN F (k : Int) && !hasN T (k : Int)
def holdF (F T : Nat) : List Gp → Nat → Int → Int
  | [], _, n => n
  | g :: gs, k, n => holdF F T gs (k + 1) (if loses F T k = true then (if n < g.min - 1 then g.min - 1 else n) else n)
theorem holdF_step (F T : Nat) (G : List Gp) (k : Nat) (n : Int) (h : k < G.length) : holdF F T (G.drop k) k n = holdF F T (G.drop (k + 1)) (k + 1) (if loses F T k = true then (if n < G[k].min - 1 then G[k].min - 1 else n) else n) := by
  rw [List.drop_eq_getElem_cons h]; rfl
theorem holdF_end (F T : Nat) (G : List Gp) (k : Nat) (n : Int) (h : G.length ≤ k) : holdF F T (G.drop k) k n = n := by
  rw [List.drop_eq_nil_of_le h]; rfl
theorem grid_min {G : List Gp} {C : List Cf} (h : gridB G C = true) (k : Nat) (hk : k < G.length) : 1 ≤ G[k].min ∧ G[k].min ≤ 3600 ∧ 0 ≤ G[k].amber ∧ G[k].amber ≤ 60 ∧ 0 ≤ G[k].lead ∧ G[k].lead ≤ 60 := by
  simp [gridB] at h
  have := h.2.1 G[k] (List.getElem_mem hk)
  simp [gpB, timeB, amberB] at this
  omega
def holdV (G : List Gp) (C : List Cf) (F T : Nat) : Int × Int := if gridB G C = true then (holdF F T G 0 0, 0) else (0, 70)

set_option maxRecDepth 100000 in
set_option maxHeartbeats 4000000 in
theorem hold_any (G : List Gp) (C : List Cf) (vg vc : Value) (F T : Nat) (w : World) (hF : F < 18446744073709551616) (hT : T < 18446744073709551616) (h1 : Fl 5 Gp.cs w vg G) (h2 : Fl 4 Cf.cs w vc C) (lG : G.length ≤ 2932031007317) (lC : C.length ≤ 4398046511000) :
    Calls Try.prog 18 #[.agg #[vg, vc], .int .u64 (F : Int), .int .u64 (T : Int)] w fun e w' => e = .returned (.tuple #[.int .i64 (holdV G C F T).1, .int .i64 (holdV G C F T).2]) ∧ Below w.heap.size w w' := by
  have hGr := fun (W : World) (hW : Below w.heap.size w W) => grid_any G C vg vc W (h1.below hW) (h2.below hW) lG lC
  obtain ⟨va, cg, rfl, kG⟩ := h1.any
  clear h1 h2
  have hM : bits .andNot .u64 (F : Int) (T : Int) = ((F &&& (18446744073709551615 - T) : Nat) : Int) := u64_andNot_nat F T hF hT
  have hMl : F &&& (18446744073709551615 - T) < 18446744073709551616 := Nat.lt_of_le_of_lt Nat.and_le_left hF
  have hN := fun g => hasN_andNot F T g hT
  generalize F &&& (18446744073709551615 - T) = D at *
  cases eg : gridB G C with
  | false =>
    have eV : holdV G C F T = (0, 70) := by simp [holdV, eg]
    rw [eg] at hGr
    rw [eV]
    clear eV eg
    go_enter Try.func18, Try.ntmps18
    go_wp2_with (go_at_call 36; (with_reducible refine Calls.mono (hGr _ (by exact belN1)) ?_); rintro e w1 ⟨rfl, hb1⟩; have hbM := bel_after belN1 (by simp) hb1; clear hb1)
    exact bodyPost_ret (v := .tuple #[.int .i64 0, .int .i64 70]) (by simp [results, Try.results18, go_sem]) rfl ⟨rfl, hbM⟩
  | true =>
    have mins := fun k hk => grid_min eg k hk
    generalize hA : (holdV G C F T).1 = A
    have eV : holdV G C F T = (A, 0) := by rw [← hA]; simp [holdV, eg]
    have hA0 : holdF F T (G.drop 0) 0 0 = A := by rw [← hA]; simp [holdV, eg]
    rw [eg] at hGr
    have eV2 : (holdV G C F T).2 = 0 := by rw [eV]
    rw [eV2]
    clear hA eV eg eV2
    go_enter Try.func18, Try.ntmps18
    go_wp2_with (go_at_call 36; (with_reducible refine Calls.mono (hGr _ (by exact belN1)) ?_); rintro e w1 ⟨rfl, hb1⟩; have B1 : Has w1 w.heap.size #[.slice va G.length cg, vc] := (Has.new w _ _ rfl).below hb1; have hbM := bel_after belN1 (by simp) hb1; obtain ⟨_, y1, _⟩ := id B1; clear hb1)
    go_loopw [8, 17] (fun tn tk wr => ∃ (k : Nat) (n : Int), k ≤ G.length ∧ tk = .int .i64 (k : Int) ∧ tn = .int .i64 n ∧ Hid (holdF F T (G.drop k) k n = A) ∧ Hid (Has wr w.heap.size #[.slice va G.length cg, vc]) ∧ Hid (Below w.heap.size w wr)) (fun _ tk _ => G.length - (intOf tk).toNat)
    case atStart => exact ⟨0, 0, by omega, rfl, rfl, hA0, B1, hbM⟩
    case round =>
      clear B1 hbM y1 hA0 hGr
      obtain ⟨k, n, hkl, rfl, rfl, hs, B, hb⟩ := hrel
      obtain ⟨_, b1, _⟩ := id B.out
      by_cases hlt : k < G.length
      · obtain ⟨g, o, rfl, hg, P⟩ := kG.resolve_left (by intro e; rw [e] at hlt; simp at hlt)
        have p0 := (hb.out.cell (p := ⟨g, _, none⟩) hg).trans (P k hlt 0 _ rfl)
        have p1 := (hb.out.cell (p := ⟨g, _, none⟩) hg).trans (P k hlt 1 _ rfl)
        have p2 := (hb.out.cell (p := ⟨g, _, none⟩) hg).trans (P k hlt 2 _ rfl)
        have p3 := (hb.out.cell (p := ⟨g, _, none⟩) hg).trans (P k hlt 3 _ rfl)
        have p4 := (hb.out.cell (p := ⟨g, _, none⟩) hg).trans (P k hlt 4 _ rfl)
        simp only [Nat.add_zero] at p0
        have hs' := hs.out
        rw [holdF_step F T G k n hlt] at hs'
        have mn := mins k hlt
        have t1 : (k : Int) < (G.length : Int) := by omega
        have t0 : (0 : Int) ≤ (k : Int) := by omega
        have t2 : k + 1 ≤ G.length := hlt
        clear P kG hs mins
        generalize G[k].name = x0 at *
        generalize G[k].sort = x1 at *
        generalize G[k].min = x2 at *
        generalize G[k].amber = x3 at *
        generalize G[k].lead = x4 at *
        have wm : IntKind.i64.wrap (x2 - 1) = x2 - 1 := wrap64 _ (by omega)
        clear mn
        have hbN : Below w.heap.size w (wr.alloc (.cells #[.string x0, .int .i64 x1, .int .i64 x2, .int .i64 x3, .int .i64 x4] 58)) := hb.out.alloc hb.out.size _
        have BN : Has (wr.alloc (.cells #[.string x0, .int .i64 x1, .int .i64 x2, .int .i64 x3, .int .i64 x4] 58)) w.heap.size #[.slice (some ⟨g, o, none⟩) G.length cg, vc] := B.out.alloc (.cells #[.string x0, .int .i64 x1, .int .i64 x2, .int .i64 x3, .int .i64 x4] 58)
        have hH := fun (W : World) => hasS_any D (k : Int) W hMl (by omega)
        have eh : hasN D (k : Int) = loses F T k := hN (k : Int)
        rw [eh] at hH
        clear eh
        cases el : loses F T k with
        | true =>
          rw [el] at hH
          have hs2 : Hid (holdF F T (G.drop (k + 1)) (k + 1) (if n < x2 - 1 then x2 - 1 else n) = A) := by show _ = _; rw [← hs', el]; simp
          clear hs' el
          go_wp2_with (go_at_call 34; (with_reducible refine Calls.mono (hH _) ?_); rintro e w2 ⟨rfl, rfl⟩)
          go_roundw
          case rel => exact ⟨k + 1, _, by omega, by go_num, rfl, hs2, BN, hbN⟩
          case measure => simp [intOf]; omega
        | false =>
          rw [el] at hH
          have hs2 : Hid (holdF F T (G.drop (k + 1)) (k + 1) (n) = A) := by show _ = _; rw [← hs', el]; simp
          clear hs' el
          go_wp2_with (go_at_call 34; (with_reducible refine Calls.mono (hH _) ?_); rintro e w2 ⟨rfl, rfl⟩)
          go_roundw
          case rel => exact ⟨k + 1, _, by omega, by go_num, rfl, hs2, BN, hbN⟩
          case measure => simp [intOf]; omega

      · have t1 : ¬ (k : Int) < (G.length : Int) := by omega
        have hA' : n = A := by rw [← hs.out]; exact (holdF_end F T G k n (by omega)).symm
        subst hA'
        clear hs kG mins
        go_wp2
        exact bodyPost_ret (v := .tuple #[.int .i64 n, .int .i64 0]) (by simp [results, Try.results18, go_sem]) rfl ⟨rfl, hb.out⟩
end Go.Proofs.Ythflpnahifpdnaa
namespace Go.Proofs.Ythflpnahifpdnaa
open Go.RowKit
set_option linter.unusedVariables false


/-- How long group g waits for the group x, which is number o. -/
def waitV (x : Gp) (C : List Cf) (o g : Int) : Int := if (interF C o g).2 = true then (if x.amber > (interF C o g).1 then x.amber else (interF C o g).1) else 0
/-- What gridB says of an intergreen. -/
theorem inter_in {n : Nat} : ∀ (C : List Cf) (p : Option Cf) (a b : Int), rowsB n p C = true → 0 ≤ (interF C a b).1 ∧ (interF C a b).1 ≤ 3600
  | [], _, _, _, _ => by simp [interF]
  | c :: cs, p, a, b, h => by
    simp [rowsB, cfB, timeB] at h
    have ih := inter_in cs (some c) a b h.2
    unfold interF
    split
    · simp; omega
    · split
      · simp; omega
      · exact ih
theorem wait_in {G : List Gp} {C : List Cf} (h : gridB G C = true) (k : Nat) (hk : k < G.length) (o g : Int) : 0 ≤ waitV G[k] C o g ∧ waitV G[k] C o g ≤ 3600 := by
  have h1 := grid_min h k hk
  have h2 : rowsB G.length none C = true := by simp [gridB] at h; exact h.2.2
  have h3 := inter_in C none o g h2
  unfold waitV
  split
  · split <;> omega
  · omega
end Go.Proofs.Ythflpnahifpdnaa
namespace Go.Proofs.Ythflpnahifpdnaa
open Go.RowKit
set_option linter.unusedVariables false


def wF (C : List Cf) (F T : Nat) (all : Bool) (g : Int) : List Gp → Nat → Int → Int
  | [], _, w => w
  | x :: xs, o, w => wF C F T all g xs (o + 1) (if (all || loses F T o) = true then (if w < waitV x C (o : Int) g then waitV x C (o : Int) g else w) else w)
theorem wF_step (C : List Cf) (F T : Nat) (all : Bool) (g : Int) (G : List Gp) (o : Nat) (w : Int) (h : o < G.length) : wF C F T all g (G.drop o) o w = wF C F T all g (G.drop (o + 1)) (o + 1) (if (all || loses F T o) = true then (if w < waitV G[o] C (o : Int) g then waitV G[o] C (o : Int) g else w) else w) := by
  rw [List.drop_eq_getElem_cons h]; rfl
theorem wF_end (C : List Cf) (F T : Nat) (all : Bool) (g : Int) (G : List Gp) (o : Nat) (w : Int) (h : G.length ≤ o) : wF C F T all g (G.drop o) o w = w := by
  rw [List.drop_eq_nil_of_le h]; rfl
/-- The tick at which group k is through. -/
def atV (G : List Gp) (C : List Cf) (F T : Nat) (all : Bool) (x : Gp) (k : Nat) : Int := if loses T F k = true then 1 + wF C F T all (k : Int) G 0 0 + x.lead else if loses F T k = true then 1 + x.amber else 0
def mvF (G : List Gp) (C : List Cf) (F T : Nat) (all : Bool) : List Gp → Nat → Int → Int
  | [], _, n => n
  | x :: xs, k, n => mvF G C F T all xs (k + 1) (if n < atV G C F T all x k then atV G C F T all x k else n)
theorem mvF_step (G : List Gp) (C : List Cf) (F T : Nat) (all : Bool) (k : Nat) (n : Int) (h : k < G.length) : mvF G C F T all (G.drop k) k n = mvF G C F T all (G.drop (k + 1)) (k + 1) (if n < atV G C F T all G[k] k then atV G C F T all G[k] k else n) := by
  rw [List.drop_eq_getElem_cons h]; rfl
theorem mvF_end (G : List Gp) (C : List Cf) (F T : Nat) (all : Bool) (k : Nat) (n : Int) (h : G.length ≤ k) : mvF G C F T all (G.drop k) k n = n := by
  rw [List.drop_eq_nil_of_le h]; rfl
end Go.Proofs.Ythflpnahifpdnaa
namespace Go.Proofs.Ythflpnahifpdnaa
open Go.RowKit
set_option linter.unusedVariables false


def spanV (G : List Gp) (C : List Cf) (F T : Nat) (all : Bool) : Int × Int := if gridB G C = true then (if ((clashF G.length F C).2.2 || (clashF G.length T C).2.2) = true then (0, 60) else (mvF G C F T all G 0 0, 0)) else (0, 70)

end Go.Proofs.Ythflpnahifpdnaa
namespace Go.Proofs.Ythflpnahifpdnaa
open Go.RowKit
set_option linter.unusedVariables false

/-- Two numbers changed with one another. -/
def tau (i j k : Nat) : Nat := if k = i then j else if k = j then i else k
theorem tau_tau (i j k : Nat) : tau i j (tau i j k) = k := by
  unfold tau; split <;> (try split) <;> (try split) <;> omega
theorem tau_lt {i j k n : Nat} (hi : i < n) (hj : j < n) (hk : k < n) : tau i j k < n := by
  unfold tau; split <;> (try split) <;> omega
theorem tau_inj {i j a b : Nat} (h : tau i j a = tau i j b) : a = b := by
  rw [← tau_tau i j a, h, tau_tau]

/-! The greatest of a list's numbers. -/
def fm (h : Gp → Nat → Option Int) : List Gp → Nat → Int → Int
  | [], _, n => n
  | x :: xs, k, n => fm h xs (k + 1) (match h x k with | some v => (if n < v then v else n) | none => n)
theorem fm_max (h : Gp → Nat → Option Int) : ∀ (G : List Gp) (o : Nat) (n : Int), n ≤ fm h G o n ∧ (∀ (i : Nat) (hi : i < G.length) (v : Int), h G[i] (o + i) = some v → v ≤ fm h G o n) ∧
    (fm h G o n = n ∨ ∃ (i : Nat) (hi : i < G.length), h G[i] (o + i) = some (fm h G o n))
  | [], o, n => ⟨by simp [fm], fun i hi => by simp at hi, .inl rfl⟩
  | x :: xs, o, n => by
    obtain ⟨h1, h2, h3⟩ := fm_max h xs (o + 1) (match h x o with | some v => (if n < v then v else n) | none => n)
    have e : fm h (x :: xs) o n = fm h xs (o + 1) (match h x o with | some v => (if n < v then v else n) | none => n) := rfl
    rw [e]
    refine ⟨?_, fun i hi v hv => ?_, ?_⟩
    · refine Int.le_trans ?_ h1
      split
      · split <;> omega
      · omega
    · cases i with
      | zero =>
        simp only [List.getElem_cons_zero, Nat.add_zero] at hv
        refine Int.le_trans ?_ h1
        rw [hv]
        show v ≤ if n < v then v else n
        split <;> omega
      | succ i =>
        refine h2 i (by simpa using hi) v ?_
        rw [show o + 1 + i = o + (i + 1) by omega]
        simpa using hv
    · rcases h3 with h3 | ⟨i, hi, h3⟩
      · rw [h3]
        cases hx : h x o with
        | none => exact .inl rfl
        | some v =>
          by_cases hnv : n < v
          · exact .inr ⟨0, by simp, by simp [hx, hnv]⟩
          · exact .inl (by simp [hnv])
      · exact .inr ⟨i + 1, by simpa using hi, by rw [show o + (i + 1) = o + 1 + i by omega]; simpa using h3⟩
theorem fm_turn (h h' : Gp → Nat → Option Int) (G G' : List Gp) (i j : Nat) (hi : i < G.length) (hj : j < G.length) (hl : G'.length = G.length) (he : ∀ (k : Nat) (h1 : k < G'.length) (h2 : tau i j k < G.length), h' G'[k] k = h G[tau i j k] (tau i j k)) : fm h' G' 0 0 = fm h G 0 0 := by
  obtain ⟨a1, a2, a3⟩ := fm_max h G 0 0
  obtain ⟨b1, b2, b3⟩ := fm_max h' G' 0 0
  refine Int.le_antisymm ?_ ?_
  · rcases b3 with e | ⟨k, hk, e⟩
    · omega
    · rw [Nat.zero_add, he k hk (tau_lt hi hj (by omega))] at e
      exact a2 (tau i j k) (tau_lt hi hj (by omega)) _ (by rw [Nat.zero_add]; exact e)
  · rcases a3 with e | ⟨k, hk, e⟩
    · omega
    · have hk' : tau i j k < G'.length := by rw [hl]; exact tau_lt hi hj hk
      have := he (tau i j k) hk' (by rw [tau_tau]; exact hk)
      simp only [tau_tau] at this
      refine b2 (tau i j k) hk' _ ?_
      rw [Nat.zero_add, this]
      rw [Nat.zero_add] at e
      exact e
theorem wF_fm (C : List Cf) (F T : Nat) (all : Bool) (g : Int) : ∀ (G : List Gp) (o : Nat) (w : Int), wF C F T all g G o w = fm (fun x o => if (all || loses F T o) = true then some (waitV x C (o : Int) g) else none) G o w
  | [], _, _ => rfl
  | x :: xs, o, w => by
    unfold wF fm
    rw [wF_fm C F T all g xs]
    congr 1
    cases (all || loses F T o) <;> rfl
theorem mvF_fm (G : List Gp) (C : List Cf) (F T : Nat) (all : Bool) : ∀ (L : List Gp) (k : Nat) (n : Int), mvF G C F T all L k n = fm (fun x k => some (atV G C F T all x k)) L k n
  | [], _, _ => rfl
  | x :: xs, k, n => by
    unfold mvF fm
    rw [mvF_fm G C F T all xs]
theorem holdF_fm (F T : Nat) : ∀ (G : List Gp) (o : Nat) (w : Int), holdF F T G o w = fm (fun x o => if loses F T o = true then some (x.min - 1) else none) G o w
  | [], _, _ => rfl
  | x :: xs, o, w => by
    unfold holdF fm
    rw [holdF_fm F T xs]
    congr 1
    cases loses F T o <;> rfl

/-! Rows. -/
theorem ord_trans {a b c : Cf} (h : ordB a b = true) (h' : ordB b c = true) : ordB a c = true := by
  simp [ordB] at *; omega
theorem rows_pair (n : Nat) : ∀ (L : List Cf) (p : Option Cf), rowsB n p L = true ↔ (∀ c ∈ L, cfB n c = true) ∧ L.Pairwise (fun c d => ordB c d = true) ∧ ∀ c, L.head? = some c → ordP p c = true
  | [], p => by simp [rowsB]
  | c :: cs, p => by
    unfold rowsB
    rw [Bool.and_eq_true, Bool.and_eq_true, rows_pair n cs (some c)]
    constructor
    · rintro ⟨⟨h1, h2⟩, h3, h4, h5⟩
      refine ⟨fun d hd => ?_, ?_, fun d hd => ?_⟩
      · rcases List.mem_cons.1 hd with rfl | hd
        · exact h1
        · exact h3 d hd
      · refine List.Pairwise.cons (fun d hd => ?_) h4
        cases cs with
        | nil => simp at hd
        | cons e es =>
          have he : ordB c e = true := h5 e rfl
          rcases List.mem_cons.1 hd with rfl | hd
          · exact he
          · exact ord_trans he ((List.pairwise_cons.1 h4).1 d hd)
      · simp at hd; rw [← hd]; exact h2
    · rintro ⟨h1, h2, h3⟩
      obtain ⟨h4, h5⟩ := List.pairwise_cons.1 h2
      refine ⟨⟨h1 c (by simp), h3 c rfl⟩, fun d hd => h1 d (by simp [hd]), h5, fun d hd => ?_⟩
      cases cs with
      | nil => simp at hd
      | cons e es => simp at hd; rw [← hd]; exact h4 e (by simp)
/-- Rows in order, each pair once, its lesser number first. -/
structure Srt (n : Nat) (L : List Cf) : Prop where
  ok : ∀ c ∈ L, cfB n c = true
  ord : L.Pairwise (fun c d => ordB c d = true)
theorem Srt.of {n : Nat} {L : List Cf} (h : rowsB n none L = true) : Srt n L := ⟨((rows_pair n L none).1 h).1, ((rows_pair n L none).1 h).2.1⟩
theorem Srt.to {n : Nat} {L : List Cf} (h : Srt n L) : rowsB n none L = true := (rows_pair n L none).2 ⟨h.ok, h.ord, fun _ _ => rfl⟩
theorem cf_in {n : Nat} {c : Cf} (h : cfB n c = true) : 0 ≤ c.a ∧ c.a < c.b ∧ c.b < (n : Int) ∧ 0 ≤ c.ab ∧ c.ab ≤ 3600 ∧ 0 ≤ c.ba ∧ c.ba ≤ 3600 := by
  simp [cfB, timeB] at h; omega
theorem inter_mem {n : Nat} : ∀ {L : List Cf}, Srt n L → ∀ c ∈ L, interF L c.a c.b = (c.ab, true) ∧ interF L c.b c.a = (c.ba, true)
  | [], _, c, h => by simp at h
  | d :: L, hs, c, h => by
    have hd := cf_in (hs.ok d (by simp))
    have hc := cf_in (hs.ok c h)
    rcases List.mem_cons.1 h with rfl | h
    · unfold interF
      rw [if_pos ⟨rfl, rfl⟩, if_neg (by omega), if_pos ⟨rfl, rfl⟩]
      exact ⟨rfl, rfl⟩
    · have ho := (List.pairwise_cons.1 hs.ord).1 c h
      simp [ordB] at ho
      have ih := inter_mem (L := L) ⟨fun e he => hs.ok e (by simp [he]), (List.pairwise_cons.1 hs.ord).2⟩ c h
      unfold interF
      rw [if_neg (by omega), if_neg (by omega), if_neg (by omega), if_neg (by omega)]
      exact ih
theorem inter_some : ∀ {L : List Cf} {a b : Int}, (interF L a b).2 = true → ∃ c ∈ L, (c.a = a ∧ c.b = b ∧ interF L a b = (c.ab, true)) ∨ (c.a = b ∧ c.b = a ∧ interF L a b = (c.ba, true))
  | [], a, b, h => by simp [interF] at h
  | d :: L, a, b, h => by
    unfold interF at h ⊢
    by_cases h1 : d.a = a ∧ d.b = b
    · rw [if_pos h1]; exact ⟨d, by simp, .inl ⟨h1.1, h1.2, rfl⟩⟩
    · rw [if_neg h1] at h ⊢
      by_cases h2 : d.a = b ∧ d.b = a
      · rw [if_pos h2]; exact ⟨d, by simp, .inr ⟨h2.1, h2.2, rfl⟩⟩
      · rw [if_neg h2] at h ⊢
        obtain ⟨c, hc, hh⟩ := inter_some h
        exact ⟨c, by simp [hc], hh⟩
theorem inter_no : ∀ {L : List Cf} {a b : Int}, (interF L a b).2 = false → interF L a b = (0, false)
  | [], a, b, h => rfl
  | d :: L, a, b, h => by
    unfold interF at h ⊢
    by_cases h1 : d.a = a ∧ d.b = b
    · rw [if_pos h1] at h; simp at h
    · rw [if_neg h1] at h ⊢
      by_cases h2 : d.a = b ∧ d.b = a
      · rw [if_pos h2] at h; simp at h
      · rw [if_neg h2] at h ⊢
        exact inter_no h
theorem inter_sym : ∀ (L : List Cf) (a b : Int), (interF L a b).2 = (interF L b a).2
  | [], a, b => rfl
  | d :: L, a, b => by
    have ih := inter_sym L a b
    unfold interF
    (repeat' split) <;> first | rfl | exact ih | (exfalso; omega)
theorem inter_self {n : Nat} {L : List Cf} (hs : Srt n L) (a : Int) : interF L a a = (0, false) := by
  refine inter_no ?_
  cases h : (interF L a a).2 with
  | false => rfl
  | true =>
    obtain ⟨c, hc, hh⟩ := inter_some h
    have := cf_in (hs.ok c hc)
    rcases hh with hh | hh <;> omega

/-! The turned rows. -/
def rowT (C : List Cf) (i j a b : Nat) : List Cf := if (interF C (tau i j a : Nat) (tau i j b : Nat)).2 = true then [⟨a, b, (interF C (tau i j a : Nat) (tau i j b : Nat)).1, (interF C (tau i j b : Nat) (tau i j a : Nat)).1⟩] else []
def innT (C : List Cf) (i j a : Nat) : Nat → List Cf
  | 0 => []
  | k + 1 => innT C i j a k ++ (if a < k then rowT C i j a k else [])
def outT (C : List Cf) (i j n : Nat) : Nat → List Cf
  | 0 => []
  | a + 1 => outT C i j n a ++ innT C i j a n
theorem mem_inn (C : List Cf) (i j a : Nat) (c : Cf) : ∀ k, c ∈ innT C i j a k ↔ ∃ b, b < k ∧ a < b ∧ c ∈ rowT C i j a b
  | 0 => by simp [innT]
  | k + 1 => by
    unfold innT
    rw [List.mem_append, mem_inn C i j a c k]
    constructor
    · rintro (⟨b, h1, h2, h3⟩ | h)
      · exact ⟨b, by omega, h2, h3⟩
      · split at h
        · rename_i hk; exact ⟨k, by omega, hk, h⟩
        · simp at h
    · rintro ⟨b, h1, h2, h3⟩
      rcases Nat.lt_or_ge b k with hb | hb
      · exact .inl ⟨b, hb, h2, h3⟩
      · obtain rfl : b = k := by omega
        rw [if_pos h2]; exact .inr h3
theorem mem_out (C : List Cf) (i j n : Nat) (c : Cf) : ∀ m, c ∈ outT C i j n m ↔ ∃ a b, a < m ∧ b < n ∧ a < b ∧ c ∈ rowT C i j a b
  | 0 => by simp [outT]
  | m + 1 => by
    unfold outT
    rw [List.mem_append, mem_out C i j n c m, mem_inn]
    constructor
    · rintro (⟨a, b, h1, h2, h3, h4⟩ | ⟨b, h1, h2, h3⟩)
      · exact ⟨a, b, by omega, h2, h3, h4⟩
      · exact ⟨m, b, by omega, h1, h2, h3⟩
    · rintro ⟨a, b, h1, h2, h3, h4⟩
      rcases Nat.lt_or_ge a m with ha | ha
      · exact .inl ⟨a, b, ha, h2, h3, h4⟩
      · obtain rfl : a = m := by omega
        exact .inr ⟨b, h2, h3, h4⟩
theorem row_ab {C : List Cf} {i j a b : Nat} {c : Cf} (h : c ∈ rowT C i j a b) : (interF C (tau i j a : Nat) (tau i j b : Nat)).2 = true ∧ c = ⟨a, b, (interF C (tau i j a : Nat) (tau i j b : Nat)).1, (interF C (tau i j b : Nat) (tau i j a : Nat)).1⟩ := by
  unfold rowT at h
  split at h
  · rename_i h1; exact ⟨h1, List.mem_singleton.1 h⟩
  · simp at h
theorem inn_ord (C : List Cf) (i j a : Nat) : ∀ k, (innT C i j a k).Pairwise (fun c d => ordB c d = true)
  | 0 => List.Pairwise.nil
  | k + 1 => by
    unfold innT
    refine List.pairwise_append.2 ⟨inn_ord C i j a k, ?_, fun c hc d hd => ?_⟩
    · split
      · unfold rowT; split <;> simp
      · exact List.Pairwise.nil
    · obtain ⟨b, h1, h2, h3⟩ := (mem_inn C i j a c k).1 hc
      split at hd
      · have e1 := (row_ab h3).2
        have e2 := (row_ab hd).2
        rw [e1, e2]; simp [ordB]; omega
      · simp at hd
theorem out_ord (C : List Cf) (i j n : Nat) : ∀ m, (outT C i j n m).Pairwise (fun c d => ordB c d = true)
  | 0 => List.Pairwise.nil
  | m + 1 => by
    unfold outT
    refine List.pairwise_append.2 ⟨out_ord C i j n m, inn_ord C i j m n, fun c hc d hd => ?_⟩
    obtain ⟨a, b, h1, h2, h3, h4⟩ := (mem_out C i j n c m).1 hc
    obtain ⟨b', h5, h6, h7⟩ := (mem_inn C i j m d n).1 hd
    rw [(row_ab h4).2, (row_ab h7).2]; simp [ordB]; omega
theorem interI {n : Nat} {L : List Cf} (hs : Srt n L) (a b : Int) : 0 ≤ (interF L a b).1 ∧ (interF L a b).1 ≤ 3600 := by
  cases h : (interF L a b).2 with
  | false => rw [inter_no h]; simp
  | true =>
    obtain ⟨c, hc, hh⟩ := inter_some h
    have := cf_in (hs.ok c hc)
    rcases hh with ⟨_, _, e⟩ | ⟨_, _, e⟩ <;> rw [e] <;> omega
theorem out_srt {n : Nat} {C : List Cf} (hs : Srt n C) (i j : Nat) : Srt n (outT C i j n n) := by
  refine ⟨fun c hc => ?_, out_ord C i j n n⟩
  obtain ⟨a, b, h1, h2, h3, h4⟩ := (mem_out C i j n c n).1 hc
  rw [(row_ab h4).2]
  have i1 := interI hs (tau i j a : Nat) (tau i j b : Nat)
  have i2 := interI hs (tau i j b : Nat) (tau i j a : Nat)
  simp [cfB, timeB]; omega
/-- The turned rows' intergreens. -/
theorem inter_out {n : Nat} {C : List Cf} (hs : Srt n C) (i j a b : Nat) (ha : a < n) (hb : b < n) : interF (outT C i j n n) (a : Int) (b : Int) = interF C (tau i j a : Nat) (tau i j b : Nat) := by
  have ho := out_srt hs i j
  have key : ∀ a b : Nat, a < n → b < n → a < b → interF (outT C i j n n) (a : Int) (b : Int) = interF C (tau i j a : Nat) (tau i j b : Nat) ∧ interF (outT C i j n n) (b : Int) (a : Int) = interF C (tau i j b : Nat) (tau i j a : Nat) := by
    intro a b ha hb hab
    cases h : (interF C (tau i j a : Nat) (tau i j b : Nat)).2 with
    | true =>
      have hr : (⟨a, b, (interF C (tau i j a : Nat) (tau i j b : Nat)).1, (interF C (tau i j b : Nat) (tau i j a : Nat)).1⟩ : Cf) ∈ outT C i j n n := (mem_out C i j n _ n).2 ⟨a, b, ha, hb, hab, by unfold rowT; rw [if_pos h]; simp⟩
      have hm := inter_mem ho _ hr
      have h' := h
      rw [inter_sym] at h'
      exact ⟨hm.1.trans (Prod.ext rfl h.symm), hm.2.trans (Prod.ext rfl h'.symm)⟩
    | false =>
      have h' := h
      rw [inter_sym] at h'
      have hn : (interF (outT C i j n n) (a : Int) (b : Int)).2 = false := by
        cases h2 : (interF (outT C i j n n) (a : Int) (b : Int)).2 with
        | false => rfl
        | true =>
          obtain ⟨c, hc, hh⟩ := inter_some h2
          obtain ⟨a', b', q1, q2, q3, q4⟩ := (mem_out C i j n c n).1 hc
          obtain ⟨r1, r2⟩ := row_ab q4
          rw [r2] at hh
          simp only at hh
          rcases hh with ⟨e1, e2, _⟩ | ⟨e1, e2, _⟩
          · obtain rfl : a' = a := by omega
            obtain rfl : b' = b := by omega
            rw [r1] at h; cases h
          · omega
      have hn' := hn
      rw [inter_sym] at hn'
      exact ⟨(inter_no hn).trans (inter_no h).symm, (inter_no hn').trans (inter_no h').symm⟩
  rcases Nat.lt_trichotomy a b with h | h | h
  · exact (key a b ha hb h).1
  · subst h; rw [inter_self ho, inter_self hs]
  · exact (key b a hb ha h).2
/-- As many rows. -/
theorem len_le {α β : Type} (f : α → β) : ∀ (L : List α) (M : List β), L.Pairwise (fun x y => f x ≠ f y) → (∀ x ∈ L, f x ∈ M) → L.length ≤ M.length
  | [], M, _, _ => by simp
  | x :: L, M, hp, hm => by
    obtain ⟨h1, h2⟩ := List.pairwise_cons.1 hp
    obtain ⟨M1, M2, rfl⟩ := List.append_of_mem (hm x (by simp))
    have := len_le f L (M1 ++ M2) h2 (fun y hy => by
      have := hm y (by simp [hy])
      rcases List.mem_append.1 this with h | h
      · exact List.mem_append.2 (.inl h)
      · rcases List.mem_cons.1 h with h | h
        · exact absurd h.symm (h1 y hy)
        · exact List.mem_append.2 (.inr h))
    simp at this ⊢; omega
def prT (i j : Nat) (c : Cf) : Nat × Nat := (min (tau i j c.a.toNat) (tau i j c.b.toNat), max (tau i j c.a.toNat) (tau i j c.b.toNat))
theorem srt_ne {n : Nat} {L : List Cf} (hs : Srt n L) (i j : Nat) : L.Pairwise (fun c d => prT i j c ≠ prT i j d) := by
  refine hs.ord.imp_of_mem (fun {c d} hc hd ho he => ?_)
  have h1 := cf_in (hs.ok c hc)
  have h2 := cf_in (hs.ok d hd)
  simp [ordB] at ho
  unfold prT at he
  obtain ⟨e1, e2⟩ := Prod.mk.inj he
  have hab : (tau i j c.a.toNat = tau i j d.a.toNat ∧ tau i j c.b.toNat = tau i j d.b.toNat) ∨ (tau i j c.a.toNat = tau i j d.b.toNat ∧ tau i j c.b.toNat = tau i j d.a.toNat) := by omega
  rcases hab with ⟨q1, q2⟩ | ⟨q1, q2⟩
  · have r1 := tau_inj q1
    have r2 := tau_inj q2
    omega
  · have r1 := tau_inj q1
    have r2 := tau_inj q2
    omega
theorem out_len {n : Nat} {C : List Cf} (hs : Srt n C) {i j : Nat} (hi : i < n) (hj : j < n) : (outT C i j n n).length = C.length := by
  have ho := out_srt hs i j
  refine Nat.le_antisymm ?_ ?_
  · have := len_le (prT i j) (outT C i j n n) (C.map fun c => (c.a.toNat, c.b.toNat)) (srt_ne ho i j) (fun c hc => ?_)
    · simpa using this
    · obtain ⟨a, b, h1, h2, h3, h4⟩ := (mem_out C i j n c n).1 hc
      obtain ⟨r1, r2⟩ := row_ab h4
      obtain ⟨d, hd, hh⟩ := inter_some r1
      have hd' := cf_in (hs.ok d hd)
      rw [List.mem_map]
      refine ⟨d, hd, ?_⟩
      rw [r2]
      unfold prT
      simp only [Int.toNat_natCast]
      rcases hh with ⟨e1, e2, _⟩ | ⟨e1, e2, _⟩ <;> (refine Prod.ext ?_ ?_ <;> simp only <;> omega)
  · have := len_le (prT i j) C ((outT C i j n n).map fun c => (c.a.toNat, c.b.toNat)) (srt_ne hs i j) (fun c hc => ?_)
    · simpa using this
    · have hc' := cf_in (hs.ok c hc)
      have hm := inter_mem hs c hc
      have la : c.a.toNat < n := by omega
      have lb : c.b.toNat < n := by omega
      have ta := tau_lt hi hj la
      have tb := tau_lt hi hj lb
      have hne : tau i j c.a.toNat ≠ tau i j c.b.toNat := fun e => by have := tau_inj e; omega
      have ea : ((c.a.toNat : Nat) : Int) = c.a := by omega
      have eb : ((c.b.toNat : Nat) : Int) = c.b := by omega
      rw [List.mem_map]
      rcases Nat.lt_or_gt_of_ne hne with h | h
      · have hr : (interF C (tau i j (tau i j c.a.toNat) : Nat) (tau i j (tau i j c.b.toNat) : Nat)).2 = true := by rw [tau_tau, tau_tau, ea, eb, hm.1]
        refine ⟨_, (mem_out C i j n _ n).2 ⟨tau i j c.a.toNat, tau i j c.b.toNat, ta, tb, h, by unfold rowT; rw [if_pos hr]; exact List.mem_singleton.2 rfl⟩, ?_⟩
        unfold prT
        simp only [Int.toNat_natCast]
        refine Prod.ext ?_ ?_ <;> simp only <;> omega
      · have hr : (interF C (tau i j (tau i j c.b.toNat) : Nat) (tau i j (tau i j c.a.toNat) : Nat)).2 = true := by rw [tau_tau, tau_tau, ea, eb, hm.2]
        refine ⟨_, (mem_out C i j n _ n).2 ⟨tau i j c.b.toNat, tau i j c.a.toNat, tb, ta, h, by unfold rowT; rw [if_pos hr]; exact List.mem_singleton.2 rfl⟩, ?_⟩
        unfold prT
        simp only [Int.toNat_natCast]
        refine Prod.ext ?_ ?_ <;> simp only <;> omega
/-- A clash. -/
theorem clash_any' (n M : Nat) : ∀ (L : List Cf), (clashF n M L).2.2 = true ↔ ∃ c ∈ L, hit n M c = true
  | [] => by simp [clashF]
  | c :: L => by
    unfold clashF
    by_cases h : hit n M c = true
    · rw [if_pos h]; simp [h]
    · rw [if_neg h, clash_any' n M L]; simp [h]
theorem clash_out {n M M' : Nat} {C : List Cf} (hs : Srt n C) {i j : Nat} (hi : i < n) (hj : j < n) (hM : ∀ k, k < n → hasN M' (k : Int) = hasN M (tau i j k : Nat)) : (clashF n M' (outT C i j n n)).2.2 = (clashF n M C).2.2 := by
  rw [Bool.eq_iff_iff, clash_any', clash_any']
  constructor
  · rintro ⟨c, hc, hh⟩
    obtain ⟨a, b, h1, h2, h3, h4⟩ := (mem_out C i j n c n).1 hc
    obtain ⟨r1, r2⟩ := row_ab h4
    rw [r2] at hh
    simp only [hit, hM a h1, hM b h2, Bool.and_eq_true] at hh
    obtain ⟨d, hd, h5⟩ := inter_some r1
    have hd' := cf_in (hs.ok d hd)
    refine ⟨d, hd, ?_⟩
    simp only [hit, Bool.and_eq_true, decide_eq_true_eq]
    rcases h5 with ⟨e1, e2, _⟩ | ⟨e1, e2, _⟩
    · rw [e1, e2]; exact ⟨⟨hh.1.1, by have := tau_lt hi hj h1; omega⟩, hh.2.1, by have := tau_lt hi hj h2; omega⟩
    · rw [e1, e2]; exact ⟨⟨hh.2.1, by have := tau_lt hi hj h2; omega⟩, hh.1.1, by have := tau_lt hi hj h1; omega⟩
  · rintro ⟨c, hc, hh⟩
    have hc' := cf_in (hs.ok c hc)
    have hm := inter_mem hs c hc
    have la : c.a.toNat < n := by omega
    have lb : c.b.toNat < n := by omega
    have ta := tau_lt hi hj la
    have tb := tau_lt hi hj lb
    have ea : ((c.a.toNat : Nat) : Int) = c.a := by omega
    have eb : ((c.b.toNat : Nat) : Int) = c.b := by omega
    have hne : tau i j c.a.toNat ≠ tau i j c.b.toNat := fun e => by have := tau_inj e; omega
    have m1 := hM _ ta
    have m2 := hM _ tb
    rw [tau_tau, ea] at m1
    rw [tau_tau, eb] at m2
    simp only [hit, Bool.and_eq_true, decide_eq_true_eq] at hh
    rcases Nat.lt_or_gt_of_ne hne with h | h
    · have hr : (interF C (tau i j (tau i j c.a.toNat) : Nat) (tau i j (tau i j c.b.toNat) : Nat)).2 = true := by rw [tau_tau, tau_tau, ea, eb, hm.1]
      refine ⟨_, (mem_out C i j n _ n).2 ⟨tau i j c.a.toNat, tau i j c.b.toNat, ta, tb, h, by unfold rowT; rw [if_pos hr]; exact List.mem_singleton.2 rfl⟩, ?_⟩
      simp only [hit, m1, m2, Bool.and_eq_true, decide_eq_true_eq]
      exact ⟨⟨hh.1.1, by omega⟩, hh.2.1, by omega⟩
    · have hr : (interF C (tau i j (tau i j c.b.toNat) : Nat) (tau i j (tau i j c.a.toNat) : Nat)).2 = true := by rw [tau_tau, tau_tau, ea, eb, hm.2]
      refine ⟨_, (mem_out C i j n _ n).2 ⟨tau i j c.b.toNat, tau i j c.a.toNat, tb, ta, h, by unfold rowT; rw [if_pos hr]; exact List.mem_singleton.2 rfl⟩, ?_⟩
      simp only [hit, m1, m2, Bool.and_eq_true, decide_eq_true_eq]
      exact ⟨⟨hh.2.1, by omega⟩, hh.1.1, by omega⟩

/-! All together. -/
def turnG (G : List Gp) (i j : Nat) (hi : i < G.length) (hj : j < G.length) : List Gp := (G.set i G[j]).set j G[i]
theorem turnG_len (G : List Gp) (i j : Nat) (hi : i < G.length) (hj : j < G.length) : (turnG G i j hi hj).length = G.length := by simp [turnG]
theorem turnG_get (G : List Gp) (i j : Nat) (hi : i < G.length) (hj : j < G.length) (k : Nat) (h1 : k < (turnG G i j hi hj).length) (h2 : tau i j k < G.length) : (turnG G i j hi hj)[k] = G[tau i j k] := by
  have hk : k < G.length := by rw [turnG_len] at h1; exact h1
  show ((G.set i G[j]).set j G[i])[k]'(by simpa using hk) = _
  rw [List.getElem_set]
  by_cases ej : j = k
  · subst ej
    rw [if_pos rfl]
    have e : tau i j j = i := by unfold tau; split <;> (try split) <;> omega
    simp only [e]
  · rw [if_neg ej, List.getElem_set]
    by_cases ei : i = k
    · subst ei
      rw [if_pos rfl]
      have e : tau i j i = j := by unfold tau; rw [if_pos rfl]
      simp only [e]
    · rw [if_neg ei]
      have e : tau i j k = k := by unfold tau; rw [if_neg (fun h => ei h.symm), if_neg (fun h => ej h.symm)]
      simp only [e]
theorem grid_parts {G : List Gp} {C : List Cf} (h : gridB G C = true) : G.length ≤ 64 ∧ (∀ x ∈ G, gpB x = true) ∧ Srt G.length C := by
  simp only [gridB, Bool.and_eq_true, decide_eq_true_eq, List.all_eq_true] at h
  exact ⟨h.1, h.2.1, Srt.of h.2.2⟩
theorem grid_turn {G : List Gp} {C : List Cf} (h : gridB G C = true) {i j : Nat} (hi : i < G.length) (hj : j < G.length) : gridB (turnG G i j hi hj) (outT C i j G.length G.length) = true := by
  obtain ⟨h1, h2, h3⟩ := grid_parts h
  simp only [gridB, Bool.and_eq_true, decide_eq_true_eq, List.all_eq_true]
  refine ⟨by rw [turnG_len]; exact h1, fun x hx => ?_, by rw [turnG_len]; exact (out_srt h3 i j).to⟩
  obtain ⟨k, hk, rfl⟩ := List.getElem_of_mem hx
  rw [turnG_get G i j hi hj k hk (tau_lt hi hj (by rw [turnG_len] at hk; exact hk))]
  exact h2 _ (List.getElem_mem _)
theorem hold_turn {G : List Gp} {C : List Cf} (h : gridB G C = true) {i j F T F' T' : Nat} (hi : i < G.length) (hj : j < G.length) (hF : ∀ k, k < G.length → hasN F' (k : Int) = hasN F (tau i j k : Nat)) (hT : ∀ k, k < G.length → hasN T' (k : Int) = hasN T (tau i j k : Nat)) : holdV (turnG G i j hi hj) (outT C i j G.length G.length) F' T' = holdV G C F T := by
  unfold holdV
  rw [if_pos h, if_pos (grid_turn h hi hj), holdF_fm, holdF_fm]
  congr 1
  refine fm_turn _ _ G _ i j hi hj (turnG_len G i j hi hj) (fun k h1 h2 => ?_)
  have hk : k < G.length := by rw [turnG_len] at h1; exact h1
  simp only [turnG_get G i j hi hj k h1 h2, loses, hF k hk, hT k hk]
  rfl
theorem span_turn {G : List Gp} {C : List Cf} (h : gridB G C = true) {i j F T F' T' : Nat} (all : Bool) (hi : i < G.length) (hj : j < G.length) (hF : ∀ k, k < G.length → hasN F' (k : Int) = hasN F (tau i j k : Nat)) (hT : ∀ k, k < G.length → hasN T' (k : Int) = hasN T (tau i j k : Nat)) : spanV (turnG G i j hi hj) (outT C i j G.length G.length) F' T' all = spanV G C F T all := by
  obtain ⟨h1, h2, h3⟩ := grid_parts h
  unfold spanV
  rw [if_pos h, if_pos (grid_turn h hi hj), turnG_len, clash_out h3 hi hj hF, clash_out h3 hi hj hT]
  have hw : ∀ (k : Nat), k < G.length → wF (outT C i j G.length G.length) F' T' all (k : Int) (turnG G i j hi hj) 0 0 = wF C F T all (tau i j k : Nat) G 0 0 := by
    intro k hk
    rw [wF_fm, wF_fm]
    refine fm_turn _ _ G _ i j hi hj (turnG_len G i j hi hj) (fun o g1 g2 => ?_)
    have ho : o < G.length := by rw [turnG_len] at g1; exact g1
    simp only [turnG_get G i j hi hj o g1 g2, loses, hF o ho, hT o ho, waitV, inter_out h3 i j o k ho hk]
    rfl
  have hm : mvF (turnG G i j hi hj) (outT C i j G.length G.length) F' T' all (turnG G i j hi hj) 0 0 = mvF G C F T all G 0 0 := by
    rw [mvF_fm, mvF_fm]
    refine fm_turn _ _ G _ i j hi hj (turnG_len G i j hi hj) (fun k g1 g2 => ?_)
    have hk : k < G.length := by rw [turnG_len] at g1; exact g1
    simp only [turnG_get G i j hi hj k g1 g2, atV, loses, hF k hk, hT k hk, hw k hk]
    rfl
  rw [hm]
end Go.Proofs.Ythflpnahifpdnaa
namespace Go.Proofs.Ythflpnahifpdnaa
open Go.RowKit
set_option linter.unusedVariables false

theorem hasN_bit {M j : Nat} (h : j < 64) : hasN M (j : Int) = M.testBit j := by
  unfold hasN
  simp
  omega
theorem loses_iff {F T k : Nat} (h : k < 64) : loses F T k = true ↔ F.testBit k = true ∧ T.testBit k = false := by
  unfold loses
  rw [hasN_bit h, hasN_bit h]
  simp
theorem fit_clash {G : List Gp} {C : List Cf} {M : Nat} (hg : gridB G C = true) (h : (clashF G.length M C).2.2 = false) : fitM C M := by
  intro c hc hb
  have rng := grid_cfm hg c hc
  have h64 := grid_len hg
  have : (clashF G.length M C).2.2 = true := (clash_any' _ _ C).2 ⟨c, hc, by
    unfold hit
    have e1 : c.a = ((c.a.toNat : Nat) : Int) := by omega
    have e2 : c.b = ((c.b.toNat : Nat) : Int) := by omega
    rw [e1, e2, hasN_bit (by omega), hasN_bit (by omega), hb.1, hb.2]
    simp
    omega⟩
  rw [h] at this
  cases this
theorem gd {G : List Gp} {j : Nat} (hj : j < G.length) : G.getD j gp0 = G[j] := by simp [List.getD_eq_getElem?_getD, hj]
/-- The wait of a group. -/
theorem wait_parts (G : List Gp) (C : List Cf) (F T : Nat) (all : Bool) (j : Nat) (h64 : G.length ≤ 64) : 0 ≤ wF C F T all (j : Int) G 0 0 ∧ (∀ o (ho : o < G.length), (all = true ∨ (F.testBit o = true ∧ T.testBit o = false)) → waitV G[o] C (o : Int) (j : Int) ≤ wF C F T all (j : Int) G 0 0) ∧
    (wF C F T all (j : Int) G 0 0 = 0 ∨ ∃ (o : Nat) (ho : o < G.length), (all = true ∨ (F.testBit o = true ∧ T.testBit o = false)) ∧ waitV G[o] C (o : Int) (j : Int) = wF C F T all (j : Int) G 0 0) := by
  rw [wF_fm]
  obtain ⟨h1, h2, h3⟩ := fm_max (fun x o => if (all || loses F T o) = true then some (waitV x C (o : Int) (j : Int)) else none) G 0 0
  have key : ∀ o, o < G.length → ((all || loses F T o) = true ↔ (all = true ∨ (F.testBit o = true ∧ T.testBit o = false))) := fun o ho => by
    rw [Bool.or_eq_true, loses_iff (by omega)]
  refine ⟨h1, fun o ho hq => h2 o ho _ ?_, ?_⟩
  · simp only [Nat.zero_add]
    rw [if_pos ((key o ho).2 hq)]
  · rcases h3 with h3 | ⟨o, ho, h3⟩
    · exact .inl h3
    · right
      simp only [Nat.zero_add] at h3
      by_cases q : (all || loses F T o) = true
      · rw [if_pos q] at h3
        exact ⟨o, ho, (key o ho).1 q, by injection h3⟩
      · rw [if_neg q] at h3; cases h3
theorem wait_row {G : List Gp} {C : List Cf} (hg : gridB G C = true) {c : Cf} (hc : c ∈ C) : waitV (G.getD c.a.toNat gp0) C (c.a.toNat : Int) (c.b.toNat : Int) = (if (G.getD c.a.toNat gp0).amber > c.ab then (G.getD c.a.toNat gp0).amber else c.ab) ∧ waitV (G.getD c.b.toNat gp0) C (c.b.toNat : Int) (c.a.toNat : Int) = (if (G.getD c.b.toNat gp0).amber > c.ba then (G.getD c.b.toNat gp0).amber else c.ba) := by
  have rng := grid_cfm hg c hc
  have im := inter_mem (grid_parts hg).2.2 c hc
  have e1 : ((c.a.toNat : Nat) : Int) = c.a := by omega
  have e2 : ((c.b.toNat : Nat) : Int) = c.b := by omega
  unfold waitV
  rw [e1, e2, im.1, im.2]
  exact ⟨by simp, by simp⟩
theorem wait_some {G : List Gp} {C : List Cf} (hg : gridB G C = true) {o j : Nat} {x : Gp} (h : waitV x C (o : Int) (j : Int) ≠ 0) : ∃ c ∈ C, (c.a.toNat = o ∧ c.b.toNat = j ∧ (waitV x C (o : Int) (j : Int) = x.amber ∨ waitV x C (o : Int) (j : Int) = c.ab)) ∨ (c.a.toNat = j ∧ c.b.toNat = o ∧ (waitV x C (o : Int) (j : Int) = x.amber ∨ waitV x C (o : Int) (j : Int) = c.ba)) := by
  unfold waitV at h ⊢
  by_cases q : (interF C (o : Int) (j : Int)).2 = true
  · obtain ⟨c, hc, hh⟩ := inter_some q
    refine ⟨c, hc, ?_⟩
    rw [if_pos q]
    rcases hh with ⟨e1, e2, e3⟩ | ⟨e1, e2, e3⟩
    · refine .inl ⟨by omega, by omega, ?_⟩
      rw [e3]
      by_cases d : x.amber > c.ab
      · rw [if_pos d]; exact .inl rfl
      · rw [if_neg d]; exact .inr rfl
    · refine .inr ⟨by omega, by omega, ?_⟩
      rw [e3]
      by_cases d : x.amber > c.ba
      · rw [if_pos d]; exact .inl rfl
      · rw [if_neg d]; exact .inr rfl
  · rw [if_neg q] at h
    exact absurd rfl h
theorem enough_wait {G : List Gp} {C : List Cf} {F T : Nat} {all : Bool} {h : F3} (hg : gridB G C = true) (hf : fitM C T) {j : Nat} (hj : T.testBit j = true) (hr : ∀ o, o < G.length → F.testBit o = false → all = true ∨ 3600 ≤ h.w o) (h0 : ∀ o, o < G.length → 0 ≤ h.w o) : Enough G C F h j (((wF C F T all (j : Int) G 0 0).toNat : Nat) : Int) := by
  obtain ⟨w0, w1, -⟩ := wait_parts G C F T all j (grid_len hg)
  have eW : (((wF C F T all (j : Int) G 0 0).toNat : Nat) : Int) = wF C F T all (j : Int) G 0 0 := by omega
  rw [eW]
  intro c hc
  have rng := grid_cfm hg c hc
  have row := wait_row hg hc
  obtain ⟨i, hi, e⟩ := List.getElem_of_mem hc
  have bd := grid_cf hg i hi
  rw [e] at bd
  constructor
  · intro ej
    have hx : T.testBit c.a.toNat = false := by
      cases hq : T.testBit c.a.toNat with
      | false => rfl
      | true => exact absurd ⟨hq, by rw [ej]; exact hj⟩ (hf c hc)
    have lo : c.a.toNat < G.length := by omega
    have r1 := row.1
    rw [ej, gd lo] at r1
    rw [gd lo]
    cases hF : F.testBit c.a.toNat with
    | true =>
      rw [if_pos rfl]
      have := w1 c.a.toNat lo (.inr ⟨hF, hx⟩)
      rw [r1] at this
      split at this <;> omega
    | false =>
      rw [if_neg (by decide)]
      have z := h0 c.a.toNat lo
      rcases hr c.a.toNat lo hF with q | q
      · have := w1 c.a.toNat lo (.inl q)
        rw [r1] at this
        split at this <;> omega
      · omega
  · intro ej
    have hx : T.testBit c.b.toNat = false := by
      cases hq : T.testBit c.b.toNat with
      | false => rfl
      | true => exact absurd ⟨by rw [ej]; exact hj, hq⟩ (hf c hc)
    have lo : c.b.toNat < G.length := by omega
    have r1 := row.2
    rw [ej, gd lo] at r1
    rw [gd lo]
    cases hF : F.testBit c.b.toNat with
    | true =>
      rw [if_pos rfl]
      have := w1 c.b.toNat lo (.inr ⟨hF, hx⟩)
      rw [r1] at this
      split at this <;> omega
    | false =>
      rw [if_neg (by decide)]
      have z := h0 c.b.toNat lo
      rcases hr c.b.toNat lo hF with q | q
      · have := w1 c.b.toNat lo (.inl q)
        rw [r1] at this
        split at this <;> omega
      · omega
theorem keeps_wait {G : List Gp} {C : List Cf} {F T : Nat} (hg : gridB G C = true) (j : Nat) : Keeps G C F T j (((wF C F T false (j : Int) G 0 0).toNat : Nat) : Int) := by
  obtain ⟨w0, -, w2⟩ := wait_parts G C F T false j (grid_len hg)
  have eW : (((wF C F T false (j : Int) G 0 0).toNat : Nat) : Int) = wF C F T false (j : Int) G 0 0 := by omega
  rw [eW]
  by_cases z : wF C F T false (j : Int) G 0 0 = 0
  · exact .inl z
  right
  rcases w2 with w2 | ⟨o, ho, w2, w3⟩
  · exact absurd w2 z
  obtain ⟨f1, f2⟩ : F.testBit o = true ∧ T.testBit o = false := by
    rcases w2 with w2 | w2
    · cases w2
    · exact w2
  obtain ⟨c, hc, hh⟩ := wait_some (x := G[o]) (o := o) (j := j) hg (by rw [w3]; exact z)
  rw [w3] at hh
  refine ⟨c, hc, ?_⟩
  rcases hh with ⟨e1, e2, e3⟩ | ⟨e1, e2, e3⟩
  · left
    rw [e1, gd ho]
    exact ⟨e2, f1, f2, e3⟩
  · right
    rw [e2, gd ho]
    exact ⟨e1, f1, f2, e3⟩
theorem mv_parts (G : List Gp) (C : List Cf) (F T : Nat) (all : Bool) : 0 ≤ mvF G C F T all G 0 0 ∧ (∀ j (hj : j < G.length), atV G C F T all G[j] j ≤ mvF G C F T all G 0 0) ∧ (mvF G C F T all G 0 0 = 0 ∨ ∃ (j : Nat) (hj : j < G.length), atV G C F T all G[j] j = mvF G C F T all G 0 0) := by
  rw [mvF_fm]
  obtain ⟨h1, h2, h3⟩ := fm_max (fun x k => some (atV G C F T all x k)) G 0 0
  refine ⟨h1, fun j hj => h2 j hj _ (by simp), ?_⟩
  rcases h3 with h3 | ⟨j, hj, h3⟩
  · exact .inl h3
  · right
    simp only [Nat.zero_add] at h3
    exact ⟨j, hj, by injection h3⟩
/-- What the span is at most. -/
theorem wait_le {G : List Gp} {C : List Cf} {F T : Nat} {all : Bool} (hg : gridB G C = true) (j : Nat) : wF C F T all (j : Int) G 0 0 ≤ 3600 := by
  obtain ⟨w0, -, w2⟩ := wait_parts G C F T all j (grid_len hg)
  rcases w2 with w2 | ⟨o, ho, w2, w3⟩
  · omega
  by_cases z : wF C F T all (j : Int) G 0 0 = 0
  · omega
  have g := grid_g hg ho
  rw [gd ho] at g
  obtain ⟨c, hc, hh⟩ := wait_some (x := G[o]) (o := o) (j := j) hg (by rw [w3]; exact z)
  obtain ⟨i, hi, e⟩ := List.getElem_of_mem hc
  have bd := grid_cf hg i hi
  rw [e] at bd
  rw [w3] at hh
  omega
theorem mv_le {G : List Gp} {C : List Cf} {F T : Nat} {all : Bool} (hg : gridB G C = true) : mvF G C F T all G 0 0 ≤ 3661 := by
  obtain ⟨-, -, h3⟩ := mv_parts G C F T all
  rcases h3 with h3 | ⟨j, hj, h3⟩
  · omega
  rw [← h3]
  have g := grid_g hg hj
  rw [gd hj] at g
  have w := wait_le (F := F) (T := T) (all := all) hg j
  unfold atV
  split
  · omega
  · split <;> omega
/-- Behind the span all is settled. -/
theorem move_upto {G : List Gp} {C : List Cf} {F T : Nat} {all : Bool} {h : F3} (hg : gridB G C = true) (hf : fitM C T) (ok : Okf G C h) (r : Rst G F T h) (hr : ∀ o, o < G.length → F.testBit o = false → all = true ∨ 3600 ≤ h.w o) {k : Nat} (hk : k < 1000000) (le : mvF G C F T all G 0 0 ≤ (k : Int)) (j : Nat) (hj : j < G.length) : (stF G C T h k).a j = if T.testBit j = true then 2 else 0 := by
  have h64 := grid_len hg
  have o := okf_at (okf_st (M := T) hg ok k) hj
  have g := grid_g hg hj
  have a1 := (mv_parts G C F T all).2.1 j hj
  unfold atV at a1
  rw [gd hj] at o g
  cases hT : T.testBit j with
  | true =>
    rw [if_pos rfl]
    cases hF : F.testBit j with
    | true => exact green_all r hj hF hT k
    | false =>
      rw [if_pos ((loses_iff (by omega)).2 ⟨hT, hF⟩)] at a1
      have w0 := (wait_parts G C F T all j h64).1
      have u := up_all hg hf ok r hj hF hT (enough_wait (all := all) hg hf hT hr (fun o ho => (okf_at ok ho).2.1)) k hk
      omega
  | false =>
    rw [if_neg (by decide)]
    cases hF : F.testBit j with
    | true =>
      rw [if_neg (fun q => by have := (loses_iff (by omega)).1 q; rw [hT] at this; simp at this), if_pos ((loses_iff (by omega)).2 ⟨hF, hT⟩)] at a1
      have u := lo_all hg ok r hj hF hT k hk
      rw [gd hj] at u
      unfold Lo at u
      omega
    | false => exact (red_all hg ok r hj hF hT k).1
/-- .. and not sooner. -/
theorem move_exact {G : List Gp} {C : List Cf} {F T : Nat} {h : F3} (hg : gridB G C = true) (ok : Okf G C h) (r : Rst G F T h) {k : Nat} (hk : k < 1000000) (hs : ∀ j, j < G.length → (stF G C T h k).a j = if T.testBit j = true then 2 else 0) : mvF G C F T false G 0 0 ≤ (k : Int) := by
  have h64 := grid_len hg
  obtain ⟨-, -, h3⟩ := mv_parts G C F T false
  rcases h3 with h3 | ⟨j, hj, h3⟩
  · omega
  rw [← h3]
  have g := grid_g hg hj
  rw [gd hj] at g
  have s := hs j hj
  unfold atV
  by_cases q : loses T F j = true
  · rw [if_pos q]
    have q' := (loses_iff (by omega)).1 q
    rw [q'.1, if_pos rfl] at s
    have w0 := (wait_parts G C F T false j h64).1
    have u := soon_all hg ok r hj q'.2 q'.1 (keeps_wait hg j) k hk
    rw [gd hj] at u
    omega
  · rw [if_neg q]
    by_cases q2 : loses F T j = true
    · rw [if_pos q2]
      have q' := (loses_iff (by omega)).1 q2
      rw [q'.2, if_neg (by decide)] at s
      have u := lo_all hg ok r hj q'.1 q'.2 k hk
      rw [gd hj] at u
      unfold Lo at u
      omega
    · rw [if_neg q2]; omega
end Go.Proofs.Ythflpnahifpdnaa
namespace Go.Proofs.Ythflpnahifpdnaa
open Go.RowKit
set_option linter.unusedVariables false

/-- Heads that have shown a mask for long. -/
def rsF (M : Nat) : F3 := ⟨fun j => if M.testBit j = true then 2 else 0, fun _ => 10000, fun j => if M.testBit j = true then 0 else 10000⟩
theorem own_sl {w : World} {base e size n : Nat} {v : Value} {xs : List Value} (h : w.ownsRow base e size v n xs) : ∃ a c, v = .slice a n c := by
  rcases h.2 with ⟨h0, h1⟩ | ⟨g, cap, cur, h1, _⟩
  · exact ⟨none, 0, by rw [h0, h1]⟩
  · exact ⟨_, _, h1⟩
structure R3 (w : World) (T : Array Value) (wr : World) (v1 v2 v3 : Value) (n1 n2 n3 : Nat) (f : F3) : Prop where
  bx : Has wr (w.heap.size + 2) #[v1, v2, v3]
  tb : Has wr w.heap.size T
  rs : Has wr (w.heap.size + 1) #[.slice none 0 0, .slice none 0 0, .slice none 0 0]
  bl : Below w.heap.size w wr
  o1 : wr.ownsRow (w.heap.size + 3) 3 1 v1 n1 (valR n1 f.a)
  o2 : wr.ownsRow (w.heap.size + 3) 21 1 v2 n2 (v32 n2 f.i)
  o3 : wr.ownsRow (w.heap.size + 3) 21 1 v3 n3 (v32 n3 f.w)
  d12 : ∀ q, v1.ownBlock = some q → v2.ownBlock ≠ some q
  d13 : ∀ q, v1.ownBlock = some q → v3.ownBlock ≠ some q
  d23 : ∀ q, v2.ownBlock = some q → v3.ownBlock ≠ some q
theorem R3.app1 {w V y : World} {T : Array Value} {v1 v2 v3 : Value} {n1 n2 n3 g' c' : Nat} {f : F3} {x : Int} (h : R3 w T V v1 v2 v3 n1 n2 n3 f) (O : Only (fun q => v1.ownBlock = some q) V y) (at' : v1.ownBlock = some g' ∨ V.heap.size ≤ g')
    (o : y.ownsRow (w.heap.size + 3) 3 1 (.slice (some ⟨g', 0, none⟩) (n1 + 1) c') (n1 + 1) (valR n1 f.a ++ [.int .i64 x])) (ex : x = f.a n1) : R3 w T (y.setCell ⟨w.heap.size + 2, 0, none⟩ (.slice (some ⟨g', 0, none⟩) (n1 + 1) c')) (.slice (some ⟨g', 0, none⟩) (n1 + 1) c') v2 v3 (n1 + 1) n2 n3 f := by
  have lo : ∀ q, v1.ownBlock = some q → w.heap.size + 3 ≤ q := fun q hq => (own_lt h.o1 q hq).1
  have Os : Only (fun q => q = w.heap.size + 2) y (y.setCell ⟨w.heap.size + 2, 0, none⟩ (.slice (some ⟨g', 0, none⟩) (n1 + 1) c')) := only_of_set _ _ _ _
  have hg : w.heap.size + 3 ≤ g' := (own_lt o g' rfl).1
  subst ex
  rw [valR_snoc] at o
  have e2 : ∀ q, v1.ownBlock = some q → v2.ownBlock ≠ some q := h.d12
  have k2 : v2.ownBlock ≠ some g' := fun hz => by
    rcases at' with q | q
    · exact e2 g' q hz
    · have := (own_lt h.o2 g' hz).2; omega
  have p2 := own_only2 (own_only2 h.o2 O (fun q hq hz => e2 q hz hq)) Os (fun q hq hz => by have := (own_lt h.o2 q hq).1; omega)
  have e3 : ∀ q, v1.ownBlock = some q → v3.ownBlock ≠ some q := h.d13
  have k3 : v3.ownBlock ≠ some g' := fun hz => by
    rcases at' with q | q
    · exact e3 g' q hz
    · have := (own_lt h.o3 g' hz).2; omega
  have p3 := own_only2 (own_only2 h.o3 O (fun q hq hz => e3 q hz hq)) Os (fun q hq hz => by have := (own_lt h.o3 q hq).1; omega)
  exact ⟨(by simpa using (h.bx.only O (fun hz => by have := lo _ hz; omega)).set 0 (by simp) (.slice (some ⟨g', 0, none⟩) (n1 + 1) c')), (h.tb.only O (fun hz => by have := lo _ hz; omega)).only Os (by omega), (h.rs.only O (fun hz => by have := lo _ hz; omega)).only Os (by omega), bel_only (bel_only h.bl O (Nat.le_refl _) (fun q hq hz => by have := lo _ hz; omega)) Os (Nat.le_refl _) (fun q hq hz => by omega), own_only2 o Os (fun q hq hz => by have e : g' = q := (by injection hq); omega), p2, p3, fun q hq => by have e : g' = q := (by injection hq); subst e; exact k2, fun q hq => by have e : g' = q := (by injection hq); subst e; exact k3, h.d23⟩
theorem R3.app2 {w V y : World} {T : Array Value} {v1 v2 v3 : Value} {n1 n2 n3 g' c' : Nat} {f : F3} {x : Int} (h : R3 w T V v1 v2 v3 n1 n2 n3 f) (O : Only (fun q => v2.ownBlock = some q) V y) (at' : v2.ownBlock = some g' ∨ V.heap.size ≤ g')
    (o : y.ownsRow (w.heap.size + 3) 21 1 (.slice (some ⟨g', 0, none⟩) (n2 + 1) c') (n2 + 1) (v32 n2 f.i ++ [.int .i32 x])) (ex : x = f.i n2) : R3 w T (y.setCell ⟨w.heap.size + 2, 1, none⟩ (.slice (some ⟨g', 0, none⟩) (n2 + 1) c')) v1 (.slice (some ⟨g', 0, none⟩) (n2 + 1) c') v3 n1 (n2 + 1) n3 f := by
  have lo : ∀ q, v2.ownBlock = some q → w.heap.size + 3 ≤ q := fun q hq => (own_lt h.o2 q hq).1
  have Os : Only (fun q => q = w.heap.size + 2) y (y.setCell ⟨w.heap.size + 2, 1, none⟩ (.slice (some ⟨g', 0, none⟩) (n2 + 1) c')) := only_of_set _ _ _ _
  have hg : w.heap.size + 3 ≤ g' := (own_lt o g' rfl).1
  subst ex
  rw [v32_snoc] at o
  have e1 : ∀ q, v2.ownBlock = some q → v1.ownBlock ≠ some q := fun q hq hz => h.d12 q hz hq
  have k1 : v1.ownBlock ≠ some g' := fun hz => by
    rcases at' with q | q
    · exact e1 g' q hz
    · have := (own_lt h.o1 g' hz).2; omega
  have p1 := own_only2 (own_only2 h.o1 O (fun q hq hz => e1 q hz hq)) Os (fun q hq hz => by have := (own_lt h.o1 q hq).1; omega)
  have e3 : ∀ q, v2.ownBlock = some q → v3.ownBlock ≠ some q := h.d23
  have k3 : v3.ownBlock ≠ some g' := fun hz => by
    rcases at' with q | q
    · exact e3 g' q hz
    · have := (own_lt h.o3 g' hz).2; omega
  have p3 := own_only2 (own_only2 h.o3 O (fun q hq hz => e3 q hz hq)) Os (fun q hq hz => by have := (own_lt h.o3 q hq).1; omega)
  exact ⟨(by simpa using (h.bx.only O (fun hz => by have := lo _ hz; omega)).set 1 (by simp) (.slice (some ⟨g', 0, none⟩) (n2 + 1) c')), (h.tb.only O (fun hz => by have := lo _ hz; omega)).only Os (by omega), (h.rs.only O (fun hz => by have := lo _ hz; omega)).only Os (by omega), bel_only (bel_only h.bl O (Nat.le_refl _) (fun q hq hz => by have := lo _ hz; omega)) Os (Nat.le_refl _) (fun q hq hz => by omega), p1, own_only2 o Os (fun q hq hz => by have e : g' = q := (by injection hq); omega), p3, fun q hq hz => by have e : g' = q := (by injection hz); subst e; exact k1 hq, h.d13, fun q hq => by have e : g' = q := (by injection hq); subst e; exact k3⟩
theorem R3.app3 {w V y : World} {T : Array Value} {v1 v2 v3 : Value} {n1 n2 n3 g' c' : Nat} {f : F3} {x : Int} (h : R3 w T V v1 v2 v3 n1 n2 n3 f) (O : Only (fun q => v3.ownBlock = some q) V y) (at' : v3.ownBlock = some g' ∨ V.heap.size ≤ g')
    (o : y.ownsRow (w.heap.size + 3) 21 1 (.slice (some ⟨g', 0, none⟩) (n3 + 1) c') (n3 + 1) (v32 n3 f.w ++ [.int .i32 x])) (ex : x = f.w n3) : R3 w T (y.setCell ⟨w.heap.size + 2, 2, none⟩ (.slice (some ⟨g', 0, none⟩) (n3 + 1) c')) v1 v2 (.slice (some ⟨g', 0, none⟩) (n3 + 1) c') n1 n2 (n3 + 1) f := by
  have lo : ∀ q, v3.ownBlock = some q → w.heap.size + 3 ≤ q := fun q hq => (own_lt h.o3 q hq).1
  have Os : Only (fun q => q = w.heap.size + 2) y (y.setCell ⟨w.heap.size + 2, 2, none⟩ (.slice (some ⟨g', 0, none⟩) (n3 + 1) c')) := only_of_set _ _ _ _
  have hg : w.heap.size + 3 ≤ g' := (own_lt o g' rfl).1
  subst ex
  rw [v32_snoc] at o
  have e1 : ∀ q, v3.ownBlock = some q → v1.ownBlock ≠ some q := fun q hq hz => h.d13 q hz hq
  have k1 : v1.ownBlock ≠ some g' := fun hz => by
    rcases at' with q | q
    · exact e1 g' q hz
    · have := (own_lt h.o1 g' hz).2; omega
  have p1 := own_only2 (own_only2 h.o1 O (fun q hq hz => e1 q hz hq)) Os (fun q hq hz => by have := (own_lt h.o1 q hq).1; omega)
  have e2 : ∀ q, v3.ownBlock = some q → v2.ownBlock ≠ some q := fun q hq hz => h.d23 q hz hq
  have k2 : v2.ownBlock ≠ some g' := fun hz => by
    rcases at' with q | q
    · exact e2 g' q hz
    · have := (own_lt h.o2 g' hz).2; omega
  have p2 := own_only2 (own_only2 h.o2 O (fun q hq hz => e2 q hz hq)) Os (fun q hq hz => by have := (own_lt h.o2 q hq).1; omega)
  exact ⟨(by simpa using (h.bx.only O (fun hz => by have := lo _ hz; omega)).set 2 (by simp) (.slice (some ⟨g', 0, none⟩) (n3 + 1) c')), (h.tb.only O (fun hz => by have := lo _ hz; omega)).only Os (by omega), (h.rs.only O (fun hz => by have := lo _ hz; omega)).only Os (by omega), bel_only (bel_only h.bl O (Nat.le_refl _) (fun q hq hz => by have := lo _ hz; omega)) Os (Nat.le_refl _) (fun q hq hz => by omega), p1, p2, own_only2 o Os (fun q hq hz => by have e : g' = q := (by injection hq); omega), h.d12, fun q hq hz => by have e : g' = q := (by injection hz); subst e; exact k1 hq, fun q hq hz => by have e : g' = q := (by injection hz); subst e; exact k2 hq⟩
set_option maxRecDepth 100000 in
set_option maxHeartbeats 4000000 in
theorem rested_any (n : Nat) (va : Option Addr) (cg : Nat) (vc : Value) (M : Nat) (w : World) (hM : M < 18446744073709551616) (h64 : n ≤ 64) :
    Calls Try.prog 13 #[.agg #[.slice va n cg, vc], .int .u64 (M : Int)] w fun e w' => (∃ u1 u2 u3 : Value, e = .returned (.agg #[u1, u2, u3]) ∧ Fl 1 n64 w' u1 (lst64 n (rsF M).a) ∧ Fl 1 n32 w' u2 (lst64 n (rsF M).i) ∧ Fl 1 n32 w' u3 (lst64 n (rsF M).w)) ∧ Below w.heap.size w w' := by
  obtain ⟨ti, hi, hi0, hi1, hi2⟩ := info_parts info3'
  obtain ⟨tj, hj, hj0, hj1, hj2⟩ := info_parts info21
  have R0 : R3 w #[.slice va n cg, vc] (((w.alloc (.cells #[.slice va n cg, vc] 25)).alloc (.cells #[.slice none 0 0, .slice none 0 0, .slice none 0 0] 37)).alloc (.cells #[.slice none 0 0, .slice none 0 0, .slice none 0 0] 37)) (.slice none 0 0) (.slice none 0 0) (.slice none 0 0) 0 0 0 (rsF M) :=
    ⟨Has.new _ _ _ (by simp), ((Has.new _ _ _ rfl).alloc _).alloc _, (Has.new _ _ _ (by simp)).alloc _, (((Below.refl _ _).alloc (Nat.le_refl _) _).alloc (by simp) _).alloc (by simp; omega) _, World.ownsRow_nil _ _ _ _, World.ownsRow_nil _ _ _ _, World.ownsRow_nil _ _ _ _, (fun q h => by cases h), (fun q h => by cases h), (fun q h => by cases h)⟩
  go_enter Try.func13, Try.ntmps13
  go_upto_region 2 with fail
  generalize (((w.alloc (.cells #[.slice va n cg, vc] 25)).alloc (.cells #[.slice none 0 0, .slice none 0 0, .slice none 0 0] 37)).alloc (.cells #[.slice none 0 0, .slice none 0 0, .slice none 0 0] 37)) = W0 at *
  go_wp2_with fail
  go_loopw [6] (fun t wr => ∃ (k : Nat) (u1 u2 u3 : Value), k ≤ n ∧ t = .int .i64 (k : Int) ∧ Hid (R3 w #[.slice va n cg, vc] wr u1 u2 u3 k k k (rsF M))) (fun t _ => n - (intOf t).toNat)
  case atStart => exact ⟨0, _, _, _, by omega, rfl, R0⟩
  case round =>
    clear R0
    obtain ⟨k, u1, u2, u3, hkl, rfl, R'⟩ := hrel
    have R := R'.out
    clear R'
    obtain ⟨_, b1, _⟩ := id R.tb
    by_cases hlt : k < n
    · have t0 : (0 : Int) ≤ (k : Int) := by omega
      have t1 : (k : Int) < (n : Int) := by omega
      have t2 : min k 64 = k := by omega
      have t3 : ((k : Int)).toNat = k := by omega
      have t4 : (k : Int) < 64 := by omega
      have e := bit1 M k hM
      cases d : M.testBit k with
      | true =>
        rw [d] at e
        obtain ⟨_, x1, _⟩ := id R.bx
        go_upto_region 11 with (at_builtin; (refine wpList_append_mine _ rfl _ _ 34 rfl (w.heap.size + 3) 3 ti _ 1 8 Try.underlying34 hi hi0 hi1 hi2 rfl (by decide) u1 k (valR k (rsF M).a) rfl (own_bel R.o1 belN1) ⟨wr.heap.size, 0, none⟩ 1 1 [.int .i64 2] rfl rfl (cells_at (W := wr) rfl _ _) (all_one rfl) (by decide) (by unfold maxLen; omega) (by omega) (by have := R.bx.1; simp; omega) ?_); intro g1 c1 y1 n1 gr1 at1 _ _; have O1 := only_of_grown gr1; have HY1 := R.bx.only O1 (fun h => by have := (own_lt R.o1 _ h).1; omega); obtain ⟨_, z1, _⟩ := id HY1)
        have R1 := R.app1 O1 (at1.elim .inl (fun q => .inr (by simp at q; omega))) n1 (by show _ = (rsF M).a k; simp [rsF, d])
        clear x1 z1 HY1 O1 gr1 at1 n1 R
        generalize (y1.setCell ⟨w.heap.size + 2, 0, none⟩ (Value.slice (some ⟨g1, 0, none⟩) (k + 1) c1)) = V1 at *
        obtain ⟨_, x2, _⟩ := id R1.bx
        go_upto_region 12 with (at_builtin; (refine wpList_append_mine _ rfl _ _ 35 rfl (w.heap.size + 3) 21 tj _ 1 4 Try.underlying35 hj hj0 hj1 hj2 rfl (by decide) u2 k (v32 k (rsF M).i) rfl (own_bel R1.o2 belN1) ⟨V1.heap.size, 0, none⟩ 1 1 [.int .i32 10000] rfl rfl (cells_at (W := V1) rfl _ _) (all_one rfl) (by decide) (by unfold maxLen; omega) (by omega) (by have := R1.bx.1; simp; omega) ?_); intro g2 c2 y2 n2 gr2 at2 _ _; have O2 := only_of_grown gr2; have HY2 := R1.bx.only O2 (fun h => by have := (own_lt R1.o2 _ h).1; omega); obtain ⟨_, z2, _⟩ := id HY2)
        have R2 := R1.app2 O2 (at2.elim .inl (fun q => .inr (by simp at q; omega))) n2 (rfl)
        clear x2 z2 HY2 O2 gr2 at2 n2 R1
        generalize (y2.setCell ⟨w.heap.size + 2, 1, none⟩ (Value.slice (some ⟨g2, 0, none⟩) (k + 1) c2)) = V2 at *
        obtain ⟨_, x3, _⟩ := id R2.bx
        go_wp2_with (at_builtin; (refine wpList_append_mine _ rfl _ _ 35 rfl (w.heap.size + 3) 21 tj _ 1 4 Try.underlying35 hj hj0 hj1 hj2 rfl (by decide) u3 k (v32 k (rsF M).w) rfl (own_bel R2.o3 belN1) ⟨V2.heap.size, 0, none⟩ 1 1 [.int .i32 0] rfl rfl (cells_at (W := V2) rfl _ _) (all_one rfl) (by decide) (by unfold maxLen; omega) (by omega) (by have := R2.bx.1; simp; omega) ?_); intro g3 c3 y3 n3 gr3 at3 _ _; have O3 := only_of_grown gr3; have HY3 := R2.bx.only O3 (fun h => by have := (own_lt R2.o3 _ h).1; omega); obtain ⟨_, z3, _⟩ := id HY3)
        have R3 := R2.app3 O3 (at3.elim .inl (fun q => .inr (by simp at q; omega))) n3 (by show _ = (rsF M).w k; simp [rsF, d])
        go_roundw
        case rel => exact ⟨k + 1, _, _, _, by omega, by go_num, R3⟩
        case measure => simp [intOf]; omega

      | false =>
        rw [d] at e
        obtain ⟨_, x1, _⟩ := id R.bx
        go_upto_region 11 with (at_builtin; (refine wpList_append_mine _ rfl _ _ 34 rfl (w.heap.size + 3) 3 ti _ 1 8 Try.underlying34 hi hi0 hi1 hi2 rfl (by decide) u1 k (valR k (rsF M).a) rfl (own_bel R.o1 belN1) ⟨wr.heap.size, 0, none⟩ 1 1 [.int .i64 0] rfl rfl (cells_at (W := wr) rfl _ _) (all_one rfl) (by decide) (by unfold maxLen; omega) (by omega) (by have := R.bx.1; simp; omega) ?_); intro g1 c1 y1 n1 gr1 at1 _ _; have O1 := only_of_grown gr1; have HY1 := R.bx.only O1 (fun h => by have := (own_lt R.o1 _ h).1; omega); obtain ⟨_, z1, _⟩ := id HY1)
        have R1 := R.app1 O1 (at1.elim .inl (fun q => .inr (by simp at q; omega))) n1 (by show _ = (rsF M).a k; simp [rsF, d])
        clear x1 z1 HY1 O1 gr1 at1 n1 R
        generalize (y1.setCell ⟨w.heap.size + 2, 0, none⟩ (Value.slice (some ⟨g1, 0, none⟩) (k + 1) c1)) = V1 at *
        obtain ⟨_, x2, _⟩ := id R1.bx
        go_upto_region 12 with (at_builtin; (refine wpList_append_mine _ rfl _ _ 35 rfl (w.heap.size + 3) 21 tj _ 1 4 Try.underlying35 hj hj0 hj1 hj2 rfl (by decide) u2 k (v32 k (rsF M).i) rfl (own_bel R1.o2 belN1) ⟨V1.heap.size, 0, none⟩ 1 1 [.int .i32 10000] rfl rfl (cells_at (W := V1) rfl _ _) (all_one rfl) (by decide) (by unfold maxLen; omega) (by omega) (by have := R1.bx.1; simp; omega) ?_); intro g2 c2 y2 n2 gr2 at2 _ _; have O2 := only_of_grown gr2; have HY2 := R1.bx.only O2 (fun h => by have := (own_lt R1.o2 _ h).1; omega); obtain ⟨_, z2, _⟩ := id HY2)
        have R2 := R1.app2 O2 (at2.elim .inl (fun q => .inr (by simp at q; omega))) n2 (rfl)
        clear x2 z2 HY2 O2 gr2 at2 n2 R1
        generalize (y2.setCell ⟨w.heap.size + 2, 1, none⟩ (Value.slice (some ⟨g2, 0, none⟩) (k + 1) c2)) = V2 at *
        obtain ⟨_, x3, _⟩ := id R2.bx
        go_wp2_with (at_builtin; (refine wpList_append_mine _ rfl _ _ 35 rfl (w.heap.size + 3) 21 tj _ 1 4 Try.underlying35 hj hj0 hj1 hj2 rfl (by decide) u3 k (v32 k (rsF M).w) rfl (own_bel R2.o3 belN1) ⟨V2.heap.size, 0, none⟩ 1 1 [.int .i32 10000] rfl rfl (cells_at (W := V2) rfl _ _) (all_one rfl) (by decide) (by unfold maxLen; omega) (by omega) (by have := R2.bx.1; simp; omega) ?_); intro g3 c3 y3 n3 gr3 at3 _ _; have O3 := only_of_grown gr3; have HY3 := R2.bx.only O3 (fun h => by have := (own_lt R2.o3 _ h).1; omega); obtain ⟨_, z3, _⟩ := id HY3)
        have R3 := R2.app3 O3 (at3.elim .inl (fun q => .inr (by simp at q; omega))) n3 (by show _ = (rsF M).w k; simp [rsF, d])
        go_roundw
        case rel => exact ⟨k + 1, _, _, _, by omega, by go_num, R3⟩
        case measure => simp [intOf]; omega

    · have t1 : ¬ (k : Int) < (n : Int) := by omega
      obtain rfl : k = n := by omega
      obtain ⟨a1, c1, rfl⟩ := own_sl R.o1
      obtain ⟨a2, c2, rfl⟩ := own_sl R.o2
      obtain ⟨a3, c3, rfl⟩ := own_sl R.o3
      obtain ⟨_, x1, _⟩ := id R.bx
      obtain ⟨_, r1, _⟩ := id R.rs
      go_wp2_with fail
      have O : Only (fun q => q = w.heap.size + 1) wr (((wr.setCell ⟨w.heap.size + 1, 0, none⟩ (.slice a1 k c1)).setCell ⟨w.heap.size + 1, 1, none⟩ (.slice a2 k c2)).setCell ⟨w.heap.size + 1, 2, none⟩ (.slice a3 k c3)) := ((only_of_set _ _ _ _).trans (only_of_set _ _ _ _)).trans (only_of_set _ _ _ _)
      have HH : Has (((wr.setCell ⟨w.heap.size + 1, 0, none⟩ (.slice a1 k c1)).setCell ⟨w.heap.size + 1, 1, none⟩ (.slice a2 k c2)).setCell ⟨w.heap.size + 1, 2, none⟩ (.slice a3 k c3)) (w.heap.size + 1) #[.slice a1 k c1, .slice a2 k c2, .slice a3 k c3] := by simpa using ((R.rs.set 0 (by simp) (.slice a1 k c1)).set 1 (by simp) (.slice a2 k c2)).set 2 (by simp) (.slice a3 k c3)
      have bF := bel_only R.bl O (Nat.le_refl _) (fun q hq h => by omega)
      have q1 := own_only2 R.o1 O (fun q hq h => by have := (own_lt R.o1 q hq).1; omega)
      have q2 := own_only2 R.o2 O (fun q hq h => by have := (own_lt R.o2 q hq).1; omega)
      have q3 := own_only2 R.o3 O (fun q hq h => by have := (own_lt R.o3 q hq).1; omega)
      generalize (((wr.setCell ⟨w.heap.size + 1, 0, none⟩ (.slice a1 k c1)).setCell ⟨w.heap.size + 1, 1, none⟩ (.slice a2 k c2)).setCell ⟨w.heap.size + 1, 2, none⟩ (.slice a3 k c3)) = WF at *
      obtain ⟨_, k1, _⟩ := id HH
      exact bodyPost_ret (v := .agg #[.slice a1 k c1, .slice a2 k c2, .slice a3 k c3]) (by simp [results, Try.results13, go_sem, k1]) rfl ⟨⟨_, _, _, rfl, own_fl n64_len (lst_len _ _) (by rw [cells_64]; exact q1), own_fl n32_len (lst_len _ _) (by rw [cells_32]; exact q2), own_fl n32_len (lst_len _ _) (by rw [cells_32]; exact q3)⟩, bF⟩
end Go.Proofs.Ythflpnahifpdnaa
namespace Go.Proofs.Ythflpnahifpdnaa
open Go.RowKit
set_option linter.unusedVariables false

set_option maxRecDepth 100000 in
set_option maxHeartbeats 4000000 in
theorem steps_ok (G : List Gp) (C : List Cf) (h0 : F3) (vg vc v1 v2 v3 : Value) (M K most : Nat) (w : World) (h1 : Fl 5 Gp.cs w vg G) (h2 : Fl 4 Cf.cs w vc C) (h3 : Fl 1 n64 w v1 (lst64 G.length h0.a)) (h4 : Fl 1 n32 w v2 (lst64 G.length h0.i)) (h5 : Fl 1 n32 w v3 (lst64 G.length h0.w)) (lC : C.length ≤ 4398046511000) (hM : M < 18446744073709551616) (hg : gridB G C = true) (ok : Okf G C h0)
    (hK : K ≤ most) (hm : most ≤ 100000) (no : ∀ k, k < K → setF M 0 (lst64 G.length (stF G C M h0 k).a) = false) (yes : setF M 0 (lst64 G.length (stF G C M h0 K).a) = true) :
    Calls Try.prog 15 #[.agg #[vg, vc], .agg #[v1, v2, v3], .int .u64 (M : Int), .int .i64 (most : Int)] w fun e w' => (∃ u1 u2 u3 : Value, e = .returned (.tuple #[.int .i64 (K : Int), .agg #[u1, u2, u3]]) ∧ Fl 1 n64 w' u1 (lst64 G.length (stF G C M h0 K).a) ∧ Fl 1 n32 w' u2 (lst64 G.length (stF G C M h0 K).i) ∧ Fl 1 n32 w' u3 (lst64 G.length (stF G C M h0 K).w)) ∧ Below w.heap.size w w' := by
  have l64 := grid_len hg
  have lG : G.length ≤ 2932031007317 := by omega
  have kSt := fun (X : World) (hX : Below w.heap.size w X) (A I W : List Int) (u1 u2 u3 : Value) (f1 : Fl 1 n64 X u1 A) (f2 : Fl 1 n32 X u2 I) (f3 : Fl 1 n32 X u3 W) (la : A.length ≤ 17592186044000) (li : I.length ≤ 35184372088000) (lw : W.length ≤ 35184372088000) (oi : ∀ x ∈ I, inI32 x) (ow : ∀ x ∈ W, inI32 x) (ft : fitsB G C A I W = true) => step_ok G C A I W vg vc u1 u2 u3 M X (h1.below hX) (h2.below hX) f1 f2 f3 lG lC la li lw oi ow hM hg ft
  have kSe := fun (X : World) (hX : Below w.heap.size w X) (A I W : List Int) (u1 u2 u3 : Value) (f1 : Fl 1 n64 X u1 A) (f2 : Fl 1 n32 X u2 I) (f3 : Fl 1 n32 X u3 W) (la : A.length ≤ 17592186044000) (li : I.length ≤ 35184372088000) (lw : W.length ≤ 35184372088000) (oi : ∀ x ∈ I, inI32 x) => settled_any G C A I W vg vc u1 u2 u3 M X (h1.below hX) (h2.below hX) f1 f2 f3 lG lC la li lw oi hM
  have sb : ∀ k, setB G C (lst64 G.length (stF G C M h0 k).a) (lst64 G.length (stF G C M h0 k).i) (lst64 G.length (stF G C M h0 k).w) M = setF M 0 (lst64 G.length (stF G C M h0 k).a) := fun k => by
    unfold setB soundB
    rw [hg, (okf_st (M := M) hg ok k).1]
    simp
  obtain ⟨va, cg, rfl, -⟩ := h1.any
  obtain ⟨vb, cc, rfl, -⟩ := h2.any
  obtain ⟨vA, cA, rfl, -⟩ := h3.any
  obtain ⟨vI, cI, rfl, -⟩ := h4.any
  obtain ⟨vW, cW, rfl, -⟩ := h5.any
  have B0 : Has (((w.alloc (.cells #[.slice va G.length cg, .slice vb C.length cc] 25)).alloc (.cells #[.slice vA (lst64 G.length h0.a).length cA, .slice vI (lst64 G.length h0.i).length cI, .slice vW (lst64 G.length h0.w).length cW] 37)).alloc (.cells #[.slice none 0 0, .slice none 0 0, .slice none 0 0] 37)) w.heap.size #[.slice va G.length cg, .slice vb C.length cc] := ((Has.new _ _ _ rfl).alloc _).alloc _
  have N0 : Has (((w.alloc (.cells #[.slice va G.length cg, .slice vb C.length cc] 25)).alloc (.cells #[.slice vA (lst64 G.length h0.a).length cA, .slice vI (lst64 G.length h0.i).length cI, .slice vW (lst64 G.length h0.w).length cW] 37)).alloc (.cells #[.slice none 0 0, .slice none 0 0, .slice none 0 0] 37)) (w.heap.size + 1) #[.slice vA (lst64 G.length h0.a).length cA, .slice vI (lst64 G.length h0.i).length cI, .slice vW (lst64 G.length h0.w).length cW] := (Has.new _ _ _ (by simp)).alloc _
  have R0 : Has (((w.alloc (.cells #[.slice va G.length cg, .slice vb C.length cc] 25)).alloc (.cells #[.slice vA (lst64 G.length h0.a).length cA, .slice vI (lst64 G.length h0.i).length cI, .slice vW (lst64 G.length h0.w).length cW] 37)).alloc (.cells #[.slice none 0 0, .slice none 0 0, .slice none 0 0] 37)) (w.heap.size + 1 + 1) #[.slice none 0 0, .slice none 0 0, .slice none 0 0] := Has.new _ _ _ (by simp)
  have hb0 : Below w.heap.size w (((w.alloc (.cells #[.slice va G.length cg, .slice vb C.length cc] 25)).alloc (.cells #[.slice vA (lst64 G.length h0.a).length cA, .slice vI (lst64 G.length h0.i).length cI, .slice vW (lst64 G.length h0.w).length cW] 37)).alloc (.cells #[.slice none 0 0, .slice none 0 0, .slice none 0 0] 37)) := bel3
  have D0 : Hd3 (((w.alloc (.cells #[.slice va G.length cg, .slice vb C.length cc] 25)).alloc (.cells #[.slice vA (lst64 G.length h0.a).length cA, .slice vI (lst64 G.length h0.i).length cI, .slice vW (lst64 G.length h0.w).length cW] 37)).alloc (.cells #[.slice none 0 0, .slice none 0 0, .slice none 0 0] 37)) (.slice vA (lst64 G.length h0.a).length cA) (.slice vI (lst64 G.length h0.i).length cI) (.slice vW (lst64 G.length h0.w).length cW) (lst64 G.length (stF G C M h0 0).a) (lst64 G.length (stF G C M h0 0).i) (lst64 G.length (stF G C M h0 0).w) (w.heap.size + 1) (w.heap.size + 1 + 1) :=
    ⟨h3.below hb0, h4.below hb0, h5.below hb0, fun e q hq => by have := h3.blk e q hq; omega, fun e q hq => by have := h4.blk e q hq; omega, fun e q hq => by have := h5.blk e q hq; omega⟩
  clear h1 h2 h3 h4 h5
  go_enter Try.func15, Try.ntmps15
  go_upto_region 1 with fail
  generalize (((w.alloc (.cells #[.slice va G.length cg, .slice vb C.length cc] 25)).alloc (.cells #[.slice vA (lst64 G.length h0.a).length cA, .slice vI (lst64 G.length h0.i).length cI, .slice vW (lst64 G.length h0.w).length cW] 37)).alloc (.cells #[.slice none 0 0, .slice none 0 0, .slice none 0 0] 37)) = W0 at *
  generalize (Value.slice vA (lst64 G.length h0.a).length cA) = z1 at *
  generalize (Value.slice vI (lst64 G.length h0.i).length cI) = z2 at *
  generalize (Value.slice vW (lst64 G.length h0.w).length cW) = z3 at *
  go_wp2_with fail
  go_loopw [10] (fun t wr => ∃ (k : Nat) (u1 u2 u3 : Value), k ≤ K ∧ t = .int .i64 (k : Int) ∧ Hid (Has wr w.heap.size #[.slice va G.length cg, .slice vb C.length cc]) ∧ Hid (Has wr (w.heap.size + 1) #[u1, u2, u3]) ∧ Hid (Has wr (w.heap.size + 1 + 1) #[.slice none 0 0, .slice none 0 0, .slice none 0 0]) ∧ Hid (Hd3 wr u1 u2 u3 (lst64 G.length (stF G C M h0 k).a) (lst64 G.length (stF G C M h0 k).i) (lst64 G.length (stF G C M h0 k).w) (w.heap.size + 1) (w.heap.size + 1 + 1)) ∧ Hid (Below w.heap.size w wr)) (fun t _ => K - (intOf t).toNat)
  case atStart => exact ⟨0, _, _, _, by omega, rfl, B0, N0, R0, D0, hb0⟩
  case round =>
    clear B0 N0 R0 D0 hb0
    obtain ⟨k, u1, u2, u3, hkK, rfl, B', N', R', D', hb'⟩ := hrel
    have B := B'.out
    have N := N'.out
    have R := R'.out
    have D := D'.out
    have hb := hb'.out
    clear B' N' R' D' hb'
    have t1 : (k : Int) ≤ (most : Int) := by omega
    have la := lst_len G.length (stF G C M h0 k).a
    have li := lst_len G.length (stF G C M h0 k).i
    have lw := lst_len G.length (stF G C M h0 k).w
    have okk := okf_st (M := M) hg ok k
    have cS := kSe wr hb _ _ _ _ _ _ D.a D.i D.w (by omega) (by omega) (by omega) okk.2.1
    rw [sb k] at cS
    obtain ⟨_, b1, _⟩ := id B
    obtain ⟨_, n1, _⟩ := id N
    by_cases last : k = K
    · subst last
      rw [yes] at cS
      clear kSt kSe no
      obtain ⟨aA, dA, rfl, -⟩ := D.a.any
      obtain ⟨aI, dI, rfl, -⟩ := D.i.any
      obtain ⟨aW, dW, rfl, -⟩ := D.w.any
      rw [la, li, lw] at *
      go_upto_region 5 with (go_at_call 14; (with_reducible refine Calls.mono cS ?_); rintro e y1 ⟨rfl, hy1⟩; have N1 := N.below hy1; have R1 := R.below hy1; have D1 := D.below hy1; have hb1 := bel_after hb hb.size hy1)
      clear b1 n1 cS
      obtain ⟨_, n1, _⟩ := id N1
      obtain ⟨_, r1, r2⟩ := id R1
      have O : Only (fun q => q = w.heap.size + 1 + 1) y1 (((y1.setCell ⟨w.heap.size + 1 + 1, 0, none⟩ (.slice aA G.length dA)).setCell ⟨w.heap.size + 1 + 1, 1, none⟩ (.slice aI G.length dI)).setCell ⟨w.heap.size + 1 + 1, 2, none⟩ (.slice aW G.length dW)) := ((only_of_set _ _ _ _).trans (only_of_set _ _ _ _)).trans (only_of_set _ _ _ _)
      have NS := N1.only O (by omega)
      have RS : Has (((y1.setCell ⟨w.heap.size + 1 + 1, 0, none⟩ (.slice aA G.length dA)).setCell ⟨w.heap.size + 1 + 1, 1, none⟩ (.slice aI G.length dI)).setCell ⟨w.heap.size + 1 + 1, 2, none⟩ (.slice aW G.length dW)) (w.heap.size + 1 + 1) #[.slice aA G.length dA, .slice aI G.length dI, .slice aW G.length dW] := by simpa using ((R1.set 0 (by simp) (.slice aA G.length dA)).set 1 (by simp) (.slice aI G.length dI)).set 2 (by simp) (.slice aW G.length dW)
      have DS := (D1.only O (fun q h => .inr h)).below (Below.refl _ _).drew
      have bS := (bel_only hb1 O (Nat.le_refl _) (fun q hq h => by omega)).drew
      go_region_held3 (fun w' => w'.cell? ⟨w.heap.size + 1, 0, none⟩ = some (.slice aA G.length dA) ∧ w'.cell? ⟨w.heap.size + 1, 1, none⟩ = some (.slice aI G.length dI) ∧ w'.cell? ⟨w.heap.size + 1, 2, none⟩ = some (.slice aW G.length dW)) (first | with_reducible exact has3 N1 | with_reducible exact has3 N1.drew | with_reducible exact has3 NS | with_reducible exact has3 NS.drew) (fail)
      go_wp2_with fail
      replace RS := RS.drew
      generalize (((y1.setCell ⟨w.heap.size + 1 + 1, 0, none⟩ (.slice aA G.length dA)).setCell ⟨w.heap.size + 1 + 1, 1, none⟩ (.slice aI G.length dI)).setCell ⟨w.heap.size + 1 + 1, 2, none⟩ (.slice aW G.length dW)).drew = WF at *
      obtain ⟨_, k1, _⟩ := id RS
      exact bodyPost_ret (v := .tuple #[.int .i64 (k : Int), .agg #[.slice aA G.length dA, .slice aI G.length dI, .slice aW G.length dW]]) (by simp [results, Try.results15, go_sem, k1]) rfl ⟨⟨_, _, _, rfl, DS.a, DS.i, DS.w⟩, bS⟩
    · have nk := no k (by omega)
      rw [nk] at cS
      have t2 : k + 1 ≤ K := by omega
      go_upto_region 6 with (go_at_call 14; (with_reducible refine Calls.mono cS ?_); rintro e y1 ⟨rfl, hy1⟩; have B1 := B.below hy1; have N1 := N.below hy1; have R1 := R.below hy1; have D1 := D.below hy1; have hb1 := bel_after hb hb.size hy1)
      clear b1 n1 cS B N R D hb
      obtain ⟨_, b1, _⟩ := id B1
      obtain ⟨_, n1, _⟩ := id N1
      have cN := kSt y1 hb1 _ _ _ _ _ _ D1.a D1.i D1.w (by omega) (by omega) (by omega) okk.2.1 okk.2.2 okk.1
      go_upto_region 7 with (go_at_call 19; (with_reducible refine Calls.mono cN ?_); rintro e w4 ⟨⟨r', s0, s1, rfl, a0, a1, a2, m1, m2, m3⟩, hb4⟩; have B4 := B1.below hb4; have N4 := N1.below hb4; have R4 := R1.below hb4; have b4 := bel_after hb1 hb1.size hb4)
      have T1 : T3 y1.heap.size w4 (.slice (some ⟨r', 0, none⟩) G.length G.length) (.slice (some ⟨s0, 0, none⟩) G.length G.length) (.slice (some ⟨s1, 0, none⟩) G.length G.length) G.length G.length G.length (valR G.length (stF G C M h0 (k + 1)).a) (v32 G.length (stF G C M h0 (k + 1)).i) (v32 G.length (stF G C M h0 (k + 1)).w) := t3_of a0 a1 a2 m1 m2 m3
      have zy : y1.heap.size ≤ w4.heap.size := hb4.size
      have zR := R1.1
      have P5 : Has (w4.alloc (.cells #[.slice (some ⟨r', 0, none⟩) G.length G.length, .slice (some ⟨s0, 0, none⟩) G.length G.length, .slice (some ⟨s1, 0, none⟩) G.length G.length] 37)) w4.heap.size #[.slice (some ⟨r', 0, none⟩) G.length G.length, .slice (some ⟨s0, 0, none⟩) G.length G.length, .slice (some ⟨s1, 0, none⟩) G.length G.length] := Has.new _ _ _ rfl
      have B5 := B4.alloc (.cells #[.slice (some ⟨r', 0, none⟩) G.length G.length, .slice (some ⟨s0, 0, none⟩) G.length G.length, .slice (some ⟨s1, 0, none⟩) G.length G.length] 37)
      have N5 := N4.alloc (.cells #[.slice (some ⟨r', 0, none⟩) G.length G.length, .slice (some ⟨s0, 0, none⟩) G.length G.length, .slice (some ⟨s1, 0, none⟩) G.length G.length] 37)
      have R5 := R4.alloc (.cells #[.slice (some ⟨r', 0, none⟩) G.length G.length, .slice (some ⟨s0, 0, none⟩) G.length G.length, .slice (some ⟨s1, 0, none⟩) G.length G.length] 37)
      have b5 := b4.alloc b4.size (.cells #[.slice (some ⟨r', 0, none⟩) G.length G.length, .slice (some ⟨s0, 0, none⟩) G.length G.length, .slice (some ⟨s1, 0, none⟩) G.length G.length] 37)
      have T5 := T1.spared (S := fun _ => False) (Only.of_below (belN1 : Below w4.heap.size w4 (w4.alloc (.cells #[.slice (some ⟨r', 0, none⟩) G.length G.length, .slice (some ⟨s0, 0, none⟩) G.length G.length, .slice (some ⟨s1, 0, none⟩) G.length G.length] 37)))) (fun q _ _ _ h => h)
      have zP : w.heap.size + 1 + 1 < w4.heap.size := by omega
      generalize hP : w4.heap.size = P at *
      generalize (w4.alloc (.cells #[.slice (some ⟨r', 0, none⟩) G.length G.length, .slice (some ⟨s0, 0, none⟩) G.length G.length, .slice (some ⟨s1, 0, none⟩) G.length G.length] 37)) = V at *
      clear a0 a1 a2 m1 m2 m3 B4 N4 R4 b4 T1 hb4 cN b1 n1 hP
      obtain ⟨_, p1, _⟩ := id P5
      obtain ⟨_, n1, n2⟩ := id N5
      go_wp2_with fail
      have O : Only (fun q => q = w.heap.size + 1) V (((V.setCell ⟨w.heap.size + 1, 0, none⟩ (.slice (some ⟨r', 0, none⟩) G.length G.length)).setCell ⟨w.heap.size + 1, 1, none⟩ (.slice (some ⟨s0, 0, none⟩) G.length G.length)).setCell ⟨w.heap.size + 1, 2, none⟩ (.slice (some ⟨s1, 0, none⟩) G.length G.length)) := ((only_of_set _ _ _ _).trans (only_of_set _ _ _ _)).trans (only_of_set _ _ _ _)
      have N6 : Has (((V.setCell ⟨w.heap.size + 1, 0, none⟩ (.slice (some ⟨r', 0, none⟩) G.length G.length)).setCell ⟨w.heap.size + 1, 1, none⟩ (.slice (some ⟨s0, 0, none⟩) G.length G.length)).setCell ⟨w.heap.size + 1, 2, none⟩ (.slice (some ⟨s1, 0, none⟩) G.length G.length)) (w.heap.size + 1) #[.slice (some ⟨r', 0, none⟩) G.length G.length, .slice (some ⟨s0, 0, none⟩) G.length G.length, .slice (some ⟨s1, 0, none⟩) G.length G.length] := by simpa using ((N5.set 0 (by simp) (.slice (some ⟨r', 0, none⟩) G.length G.length)).set 1 (by simp) (.slice (some ⟨s0, 0, none⟩) G.length G.length)).set 2 (by simp) (.slice (some ⟨s1, 0, none⟩) G.length G.length)
      have B6 := B5.only O (by omega)
      have R6 := R5.only O (by omega)
      have b6 := bel_only b5 O (Nat.le_refl _) (fun q hq h => by omega)
      have T6 := T5.spared O (fun q h _ _ e => by omega)
      have D6 : Hd3 (((V.setCell ⟨w.heap.size + 1, 0, none⟩ (.slice (some ⟨r', 0, none⟩) G.length G.length)).setCell ⟨w.heap.size + 1, 1, none⟩ (.slice (some ⟨s0, 0, none⟩) G.length G.length)).setCell ⟨w.heap.size + 1, 2, none⟩ (.slice (some ⟨s1, 0, none⟩) G.length G.length)) (.slice (some ⟨r', 0, none⟩) G.length G.length) (.slice (some ⟨s0, 0, none⟩) G.length G.length) (.slice (some ⟨s1, 0, none⟩) G.length G.length) (lst64 G.length (stF G C M h0 (k + 1)).a) (lst64 G.length (stF G C M h0 (k + 1)).i) (lst64 G.length (stF G C M h0 (k + 1)).w) (w.heap.size + 1) (w.heap.size + 1 + 1) :=
        ⟨T6.f1, T6.f2, T6.f3, fun _ q hq => by have := own_lt T6.o1 q hq; omega, fun _ q hq => by have := own_lt T6.o2 q hq; omega, fun _ q hq => by have := own_lt T6.o3 q hq; omega⟩
      go_roundw
      case rel => exact ⟨k + 1, _, _, _, by omega, by go_num, B6, N6, R6, D6, b6⟩
      case measure => simp [intOf]; omega
end Go.Proofs.Ythflpnahifpdnaa
namespace Go.Proofs.Ythflpnahifpdnaa
open Go.RowKit
set_option linter.unusedVariables false


def thF (F T : Nat) (ws : Nat → Int) : List Gp → Nat → Int → Int
  | [], _, n => n
  | x :: xs, k, n => thF F T ws xs (k + 1) (if loses F T k = true then (if n < 1 + x.amber then 1 + x.amber else n) else if loses T F k = true then (if n < 1 + ws k + x.lead then 1 + ws k + x.lead else n) else n)
theorem thF_step (F T : Nat) (ws : Nat → Int) (G : List Gp) (k : Nat) (n : Int) (h : k < G.length) : thF F T ws (G.drop k) k n = thF F T ws (G.drop (k + 1)) (k + 1) (if loses F T k = true then (if n < 1 + G[k].amber then 1 + G[k].amber else n) else if loses T F k = true then (if n < 1 + ws k + G[k].lead then 1 + ws k + G[k].lead else n) else n) := by
  rw [List.drop_eq_getElem_cons h]; rfl
theorem thF_end (F T : Nat) (ws : Nat → Int) (G : List Gp) (k : Nat) (n : Int) (h : G.length ≤ k) : thF F T ws (G.drop k) k n = n := by
  rw [List.drop_eq_nil_of_le h]; rfl
/-- Both ways to count a move. -/
theorem thF_mvF {G : List Gp} {C : List Cf} {F T : Nat} {all : Bool} {ws : Nat → Int} (gr : gridB G C = true) (hw : ∀ k, k < G.length → ws k = wF C F T all (k : Int) G 0 0) (h0 : ∀ k, k < G.length → 0 ≤ ws k) :
    ∀ (m k : Nat) (n : Int), k + m = G.length → 0 ≤ n → thF F T ws (G.drop k) k n = mvF G C F T all (G.drop k) k n
  | 0, k, n, hk, hn => by rw [thF_end _ _ _ _ _ _ (by omega), mvF_end _ _ _ _ _ _ _ (by omega)]
  | m + 1, k, n, hk, hn => by
    have hlt : k < G.length := by omega
    have mn := grid_min gr k hlt
    have w0 := h0 k hlt
    have e : (if loses F T k = true then (if n < 1 + G[k].amber then 1 + G[k].amber else n) else if loses T F k = true then (if n < 1 + ws k + G[k].lead then 1 + ws k + G[k].lead else n) else n) = (if n < atV G C F T all G[k] k then atV G C F T all G[k] k else n) := by
      unfold atV
      rw [← hw k hlt]
      cases e1 : loses F T k with
      | true =>
        have e2 : loses T F k = false := by simp [loses] at e1 ⊢; simp [e1]
        simp [e2]
      | false =>
        cases e2 : loses T F k with
        | true => simp
        | false =>
          have : ¬ n < 0 := by omega
          simp [this]
    rw [thF_step _ _ _ _ _ _ hlt, mvF_step _ _ _ _ _ _ _ hlt, e]
    have hat : 0 ≤ atV G C F T all G[k] k := by
      unfold atV
      rw [← hw k hlt]
      split
      · omega
      · split <;> omega
    refine thF_mvF gr hw h0 m (k + 1) _ (by omega) ?_
    split
    · exact hat
    · exact hn
set_option maxRecDepth 100000 in
set_option maxHeartbeats 4000000 in
theorem through_any (G : List Gp) (vg vm : Value) (F T : Nat) (ws : Nat → Int) (aw : Option Addr) (cw : Nat) (w : World) (hF : F < 18446744073709551616) (hT : T < 18446744073709551616) (h1 : Fl 5 Gp.cs w vg G) (lG : G.length ≤ 2932031007317) (mins : ∀ (k : Nat) (hk : k < G.length), 0 ≤ G[k].amber ∧ G[k].amber ≤ 60 ∧ 0 ≤ G[k].lead ∧ G[k].lead ≤ 60)
    (hws : G = [] ∨ ∃ gw, aw = some ⟨gw, 0, none⟩ ∧ gw < w.heap.size ∧ ∀ i, i < G.length → w.cell? ⟨gw, i, none⟩ = some (.int .i64 (ws i)) ∧ 0 ≤ ws i ∧ ws i ≤ 3600) :
    Calls Try.prog 43 #[.agg #[vg, vm], .int .u64 (F : Int), .int .u64 (T : Int), .slice aw G.length cw] w fun e w' => e = .returned (.int .i64 (thF F T ws G 0 0)) ∧ Below w.heap.size w w' := by
  obtain ⟨va, cg, rfl, kG⟩ := h1.any
  clear h1
  have hM1 : bits .andNot .u64 (F : Int) (T : Int) = ((F &&& (18446744073709551615 - T) : Nat) : Int) := u64_andNot_nat F T hF hT
  have hM2 : bits .andNot .u64 (T : Int) (F : Int) = ((T &&& (18446744073709551615 - F) : Nat) : Int) := u64_andNot_nat T F hT hF
  have hMl1 : F &&& (18446744073709551615 - T) < 18446744073709551616 := Nat.lt_of_le_of_lt Nat.and_le_left hF
  have hMl2 : T &&& (18446744073709551615 - F) < 18446744073709551616 := Nat.lt_of_le_of_lt Nat.and_le_left hT
  have hN1 := fun g => hasN_andNot F T g hT
  have hN2 := fun g => hasN_andNot T F g hF
  generalize F &&& (18446744073709551615 - T) = D1 at *
  generalize T &&& (18446744073709551615 - F) = D2 at *
  generalize hA : thF F T ws G 0 0 = A
  have hb0 : Below w.heap.size w (w.alloc (.cells #[.slice va G.length cg, vm] 77)) := belN1
  have B0 : Has (w.alloc (.cells #[.slice va G.length cg, vm] 77)) w.heap.size #[.slice va G.length cg, vm] := Has.new _ _ _ rfl
  go_enter Try.func43, Try.ntmps43
  go_wp2
  generalize (w.alloc (.cells #[.slice va G.length cg, vm] 77)) = W0 at *
  go_loopw [9, 15] (fun tn tk wr => ∃ (k : Nat) (n : Int), k ≤ G.length ∧ tk = .int .i64 (k : Int) ∧ tn = .int .i64 n ∧ Hid (thF F T ws (G.drop k) k n = A) ∧ Hid (Has wr w.heap.size #[.slice va G.length cg, vm]) ∧ Hid (Below w.heap.size w wr)) (fun _ tk _ => G.length - (intOf tk).toNat)
  case atStart => exact ⟨0, 0, by omega, rfl, rfl, hA, B0, hb0⟩
  case round =>
    clear B0 hb0 hA
    obtain ⟨k, n, hkl, rfl, rfl, hs, B, hb⟩ := hrel
    obtain ⟨_, b1, _⟩ := id B.out
    by_cases hlt : k < G.length
    · obtain ⟨g, o, rfl, hg, P⟩ := kG.resolve_left (by intro e; rw [e] at hlt; simp at hlt)
      obtain ⟨gw, rfl, hgw, hcw⟩ := hws.resolve_left (by intro e; rw [e] at hlt; simp at hlt)
      have p0 := (hb.out.cell (p := ⟨g, _, none⟩) hg).trans (P k hlt 0 _ rfl)
      have p1 := (hb.out.cell (p := ⟨g, _, none⟩) hg).trans (P k hlt 1 _ rfl)
      have p2 := (hb.out.cell (p := ⟨g, _, none⟩) hg).trans (P k hlt 2 _ rfl)
      have p3 := (hb.out.cell (p := ⟨g, _, none⟩) hg).trans (P k hlt 3 _ rfl)
      have p4 := (hb.out.cell (p := ⟨g, _, none⟩) hg).trans (P k hlt 4 _ rfl)
      simp only [Nat.add_zero] at p0
      obtain ⟨hc, hr⟩ := hcw k hlt
      have hs' := hs.out
      rw [thF_step F T ws G k n hlt] at hs'
      have mn := mins k hlt
      have t1 : (k : Int) < (G.length : Int) := by omega
      have t0 : (0 : Int) ≤ (k : Int) := by omega
      have t2 : k + 1 ≤ G.length := hlt
      have hH1 := fun (W : World) => hasS_any D1 (k : Int) W hMl1 (by omega)
      have hH2 := fun (W : World) => hasS_any D2 (k : Int) W hMl2 (by omega)
      have eh1 : hasN D1 (k : Int) = loses F T k := hN1 (k : Int)
      have eh2 : hasN D2 (k : Int) = loses T F k := hN2 (k : Int)
      rw [eh1] at hH1
      rw [eh2] at hH2
      clear P kG hs mins hcw hws eh1 eh2 hN1 hN2
      generalize ws k = u at *
      generalize G[k].name = x0 at *
      generalize G[k].sort = x1 at *
      generalize G[k].min = x2 at *
      generalize G[k].amber = x3 at *
      generalize G[k].lead = x4 at *
      have wa : IntKind.i64.wrap (1 + x3) = 1 + x3 := wrap64 _ (by omega)
      have wb : IntKind.i64.wrap (1 + u) = 1 + u := wrap64 _ (by omega)
      have wc : IntKind.i64.wrap (1 + u + x4) = 1 + u + x4 := wrap64 _ (by omega)
      clear mn hr
      have hbN : Below w.heap.size w (wr.alloc (.cells #[.string x0, .int .i64 x1, .int .i64 x2, .int .i64 x3, .int .i64 x4] 58)) := hb.out.alloc hb.out.size _
      have BN := B.out.alloc (.cells #[.string x0, .int .i64 x1, .int .i64 x2, .int .i64 x3, .int .i64 x4] 58)
      have cN : (wr.alloc (.cells #[.string x0, .int .i64 x1, .int .i64 x2, .int .i64 x3, .int .i64 x4] 58)).cell? ⟨gw, k, none⟩ = some (.int .i64 u) := (hbN.cell (p := ⟨gw, k, none⟩) hgw).trans hc
      have cM : wr.cell? ⟨gw, k, none⟩ = some (.int .i64 u) := (hb.out.cell (p := ⟨gw, k, none⟩) hgw).trans hc
      cases e1 : loses F T k with
      | true =>
        rw [e1] at hH1
        clear hH2
        have hs2 : Hid (thF F T ws (G.drop (k + 1)) (k + 1) (if n < 1 + x3 then 1 + x3 else n) = A) := by show _ = _; rw [← hs', e1]; simp
        clear hs'
        go_wp2_with (first | (go_at_call 34; (with_reducible refine Calls.mono (hH1 _) ?_); rintro e w2 ⟨rfl, rfl⟩) | (go_at_call 34; (with_reducible refine Calls.mono (hH2 _) ?_); rintro e w2 ⟨rfl, rfl⟩))
        go_roundw
        case rel => exact ⟨k + 1, _, by omega, by go_num, rfl, hs2, BN, hbN⟩
        case measure => simp [intOf]; omega
      | false =>
        rw [e1] at hH1
        cases e2 : loses T F k with
        | true =>
          rw [e2] at hH2
          have hs2 : Hid (thF F T ws (G.drop (k + 1)) (k + 1) (if n < 1 + u + x4 then 1 + u + x4 else n) = A) := by show _ = _; rw [← hs', e1, e2]; simp
          clear hs'
          go_wp2_with (first | (go_at_call 34; (with_reducible refine Calls.mono (hH1 _) ?_); rintro e w2 ⟨rfl, rfl⟩) | (go_at_call 34; (with_reducible refine Calls.mono (hH2 _) ?_); rintro e w2 ⟨rfl, rfl⟩))
          go_quiet (fail)
          go_wp2
          go_roundw
          case rel => exact ⟨k + 1, _, by omega, by go_num, rfl, hs2, BN.drewN nq, bel_drewN hbN⟩
          case measure => simp [intOf]; omega
        | false =>
          rw [e2] at hH2
          have hs2 : Hid (thF F T ws (G.drop (k + 1)) (k + 1) (n) = A) := by show _ = _; rw [← hs', e1, e2]; simp
          clear hs'
          go_wp2_with (first | (go_at_call 34; (with_reducible refine Calls.mono (hH1 _) ?_); rintro e w2 ⟨rfl, rfl⟩) | (go_at_call 34; (with_reducible refine Calls.mono (hH2 _) ?_); rintro e w2 ⟨rfl, rfl⟩))
          go_roundw
          case rel => exact ⟨k + 1, _, by omega, by go_num, rfl, hs2, BN, hbN⟩
          case measure => simp [intOf]; omega
    · have t1 : ¬ (k : Int) < (G.length : Int) := by omega
      have hA' : n = A := by rw [← hs.out]; exact (thF_end F T ws G k n (by omega)).symm
      subst hA'
      clear hs kG mins hws
      go_wp2
      go_ret
      exact ⟨rfl, hb.out⟩
end Go.Proofs.Ythflpnahifpdnaa
namespace Go.Proofs.Ythflpnahifpdnaa
open Go.RowKit Go.Maps Go.WideMaps
set_option linter.unusedVariables false

theorem laidOutM : laidOutB Try.prog = true := by kernel_rfl
theorem row55 : (90 : TypeId) < Try.prog.types.size := of_decide_eq_true (by kernel_rfl)
theorem cells55 : Try.prog.cellsOf 90 = 2 := by kernel_rfl
theorem wide55 : (match Try.prog.underlying 90 with | some (.array _ _) | some (.struct _) => true | _ => false) = true := by rw [Try.underlying90]
/-- Pairs of groups as a map's keys. -/
theorem lawP : Keyed Try.prog 90 := Keyed.of_law (deep_law_laid laidOutM (m := 2) (by omega) row55 (by kernel_rfl) wide55)
theorem key55 : Try.prog.keyType 90 = true := by kernel_rfl
theorem formed55 {c0 c1 : Value} : (Value.agg #[c0, c1]).formed Try.prog 90 = true := by simp [Value.formed, Try.underlying90, cells55]
/-- What a pair reads as. -/
def pk (a b : Int) : Lit := .string (keyBytes [.int .i64 a, .int .i64 b])
theorem pk_some (a b : Int) (ha : (Lit.int .i64 a).wf = true) (hb : (Lit.int .i64 b).wf = true) : keyOf Try.prog 90 (.agg #[.int .i64 a, .int .i64 b]) = some (pk a b) := by
  obtain ⟨d, hd⟩ : ∃ d, Try.prog.types.size = d + 1 := ⟨Try.prog.types.size - 1, by have h : (90 : Nat) < Try.prog.types.size := row55; omega⟩
  have e : Try.prog.keyLits (d + 1 + 1) 90 [.int .i64 a, .int .i64 b] = some [.int .i64 a, .int .i64 b] := by
    simp [Program.keyLits, Try.underlying90, Try.underlying3, cells55, c3, ha, hb, List.range, List.range.loop]
  unfold keyOf
  rw [Try.underlying90]
  simp only [key55, formed55, Bool.and_self, if_true]
  rw [hd]
  have e2 : (Value.agg #[Value.int IntKind.i64 a, Value.int IntKind.i64 b]).cells.toList = [.int .i64 a, .int .i64 b] := by simp [Value.cells]
  rw [e2, e]
  rfl
theorem pk_inj {a b a' b' : Int} (ha : (Lit.int .i64 a).wf = true) (hb : (Lit.int .i64 b).wf = true) (ha' : (Lit.int .i64 a').wf = true) (hb' : (Lit.int .i64 b').wf = true) (h : pk a b = pk a' b') : a = a' ∧ b = b' := by
  have h1 := pk_some a b ha hb
  have h2 := pk_some a' b' ha' hb'
  rw [← h] at h2
  have := lawP.inj h1 h2
  simpa using this
end Go.Proofs.Ythflpnahifpdnaa
namespace Go.Proofs.Ythflpnahifpdnaa
open Go.RowKit Go.Maps Go.WideMaps
set_option linter.unusedVariables false


/-- The intergreens by their pairs, of the first k rows. -/
def mD (C : List Cf) : Nat → DataW Unit
  | 0 => .map []
  | k + 1 => match C[k]? with
    | some c => ((mD C k).put (pk c.a c.b) (.lit (.int .i64 c.ab))).put (pk c.b c.a) (.lit (.int .i64 c.ba))
    | none => mD C k
theorem mD_step (C : List Cf) (k : Nat) (h : k < C.length) : mD C (k + 1) = ((mD C k).put (pk C[k].a C[k].b) (.lit (.int .i64 C[k].ab))).put (pk C[k].b C[k].a) (.lit (.int .i64 C[k].ba)) := by
  simp only [mD]; rw [List.getElem?_eq_getElem h]
set_option maxRecDepth 100000 in
set_option maxHeartbeats 4000000 in
theorem streetOf_any (C : List Cf) (vg vc : Value) (w : World) (h2 : Fl 4 Cf.cs w vc C) (lC : C.length ≤ 4398046511000) (ok : ∀ (i : Nat) (h : i < C.length), C[i].ok) (hv : ∃ a n c, vg = .slice a n c) :
    Calls Try.prog 42 #[.agg #[vg, vc]] w fun e w' => (∃ mb, e = .returned (.agg #[vg, .map (some mb)]) ∧ w'.ownsMap (H := Unit) Try.prog 90 (plainElem Try.prog 3) mb (2 * C.length) (mD C C.length) ∧ w.heap.size ≤ mb ∧ mb < w'.heap.size) ∧ Below w.heap.size w w' := by
  obtain ⟨vb, cc, rfl, kC⟩ := h2.any
  obtain ⟨ga, gn, gc, rfl⟩ := hv
  clear h2
  have hmm : ∀ (W : World) (n : Int), 0 ≤ n → (Instr.makeMap 75 (some (.int .i64 n))).run Try.prog W = .ok (.map (some W.heap.size)) (W.alloc (.map #[] 0)) := fun W n hn => by simp [Instr.makeMap, underlying, Try.underlying75]; rfl
  have wl : IntKind.i64.wrap (2 * (C.length : Int)) = 2 * (C.length : Int) := wrap64 _ (by omega)
  have l0 : (0 : Int) ≤ 2 * (C.length : Int) := by omega
  go_enter Try.func42, Try.ntmps42
  go_upto_region 1 with fail
  have H1 : Has ((w.alloc (.cells #[.slice ga gn gc, .slice vb C.length cc] 25)).alloc (.cells #[.slice none 0 0, .map none] 77)) w.heap.size #[.slice ga gn gc, .slice vb C.length cc] := (Has.new _ _ _ rfl).alloc _
  have H2 : Has ((w.alloc (.cells #[.slice ga gn gc, .slice vb C.length cc] 25)).alloc (.cells #[.slice none 0 0, .map none] 77)) (w.heap.size + 1) #[.slice none 0 0, .map none] := Has.new _ _ _ (by simp)
  have HB : Below w.heap.size w ((w.alloc (.cells #[.slice ga gn gc, .slice vb C.length cc] 25)).alloc (.cells #[.slice none 0 0, .map none] 77)) := belA
  generalize ((w.alloc (.cells #[.slice ga gn gc, .slice vb C.length cc] 25)).alloc (.cells #[.slice none 0 0, .map none] 77)) = W0 at *
  have z0 : w.heap.size + 2 ≤ W0.heap.size := H2.1
  obtain ⟨_, i1, _⟩ := id H1
  go_cut [3] from 6 to 13 (fun s3 wx => ∃ mb sb, s3 = .pointer (some ⟨sb, 0, none⟩) ∧ Has wx sb #[.slice ga gn gc, .map (some mb)] ∧ Has wx w.heap.size #[.slice ga gn gc, .slice vb C.length cc] ∧ Has wx (w.heap.size + 1) #[.slice none 0 0, .map none] ∧ wx.ownsMap (H := Unit) Try.prog 90 (plainElem Try.prog 3) mb 0 (.map []) ∧ Below w.heap.size w wx ∧ w.heap.size + 2 ≤ mb ∧ w.heap.size + 2 ≤ sb ∧ mb ≠ sb ∧ mb < wx.heap.size)
  case first =>
    go_region
    all_goals (go_wp2_with fail; go_meet)
    case rel => exact ⟨W0.heap.size, W0.heap.size + 1, rfl, (Has.new _ _ _ (by simp)).drew, ((H1.alloc _).alloc _).drew, ((H2.alloc _).alloc _).drew, ((World.ownsMap_made W0 _ _ _).alloc _).drew, ((HB.alloc HB.size _).alloc (by have := HB.size; simp; omega) _).drew, by omega, by omega, by omega, by simp; omega⟩
    case rel => exact ⟨W0.heap.size + 1, W0.heap.size, rfl, ((Has.new _ _ _ rfl).alloc _).drew, ((H1.alloc _).alloc _).drew, ((H2.alloc _).alloc _).drew, (by have := World.ownsMap_made (H := Unit) (W0.alloc (.cells #[.slice ga gn gc, .map (some (W0.heap.size + 1))] 77)) Try.prog 90 (plainElem Try.prog 3); simp at this; exact this.drew), ((HB.alloc HB.size _).alloc (by have := HB.size; simp; omega) _).drew, by omega, by omega, by omega, by simp⟩
  case rest =>
    obtain ⟨mb, sb, rfl, S, B, R, hm0, hb, m1, s1, ms, ml⟩ := hcut
    clear H1 H2 HB i1 hmm wl l0 z0
    obtain ⟨_, y1, _⟩ := id B
    go_wp2
    go_loopw [17] (fun t wr => ∃ k : Nat, k ≤ C.length ∧ t = .int .i64 (k : Int) ∧ Hid (wr.ownsMap (H := Unit) Try.prog 90 (plainElem Try.prog 3) mb (2 * k) (mD C k)) ∧ Hid (Has wr sb #[.slice ga gn gc, .map (some mb)]) ∧ Hid (Has wr (w.heap.size + 1) #[.slice none 0 0, .map none]) ∧ Hid (Below w.heap.size w wr) ∧ mb < wr.heap.size) (fun t _ => C.length - (intOf t).toNat)
    case atStart => exact ⟨0, by omega, rfl, hm0, S, R, hb, ml⟩
    case round =>
      clear hm0 S B R hb y1 ml
      obtain ⟨k, hkl, rfl, hm, S, R, hb, ml⟩ := hrel
      obtain ⟨_, s2, s3⟩ := id S.out
      by_cases hlt : k < C.length
      · obtain ⟨g, o, rfl, hg, P⟩ := kC.resolve_left (by intro e; rw [e] at hlt; simp at hlt)
        have p0 := (hb.out.cell (p := ⟨g, _, none⟩) hg).trans (P k hlt 0 _ rfl)
        have p1 := (hb.out.cell (p := ⟨g, _, none⟩) hg).trans (P k hlt 1 _ rfl)
        have p2 := (hb.out.cell (p := ⟨g, _, none⟩) hg).trans (P k hlt 2 _ rfl)
        have p3 := (hb.out.cell (p := ⟨g, _, none⟩) hg).trans (P k hlt 3 _ rfl)
        simp only [Nat.add_zero] at p0
        obtain ⟨o1, o2, o3, o4⟩ := ok k hlt
        have hst := mD_step C k hlt
        have t1 : (k : Int) < (C.length : Int) := by omega
        have t0 : (0 : Int) ≤ (k : Int) := by omega
        have t2 : k + 1 ≤ C.length := hlt
        clear P kC ok
        generalize C[k].a = xa at *
        generalize C[k].b = xb at *
        generalize C[k].ab = xab at *
        generalize C[k].ba = xba at *
        have k1 := pk_some xa xb o1 o2
        have k2 := pk_some xb xa o2 o1
        have e3 : plainElem (H := Unit) Try.prog 3 (.int .i64 xab) = some (.lit (.int .i64 xab), []) := plainElem_int Try.underlying3 o3
        have e4 : plainElem (H := Unit) Try.prog 3 (.int .i64 xba) = some (.lit (.int .i64 xba), []) := plainElem_int Try.underlying3 o4
        have hbN : Below w.heap.size w (wr.alloc (.cells #[.int .i64 xa, .int .i64 xb, .int .i64 xab, .int .i64 xba] 49)) := hb.out.alloc hb.out.size _
        have SN := S.out.alloc (.cells #[.int .i64 xa, .int .i64 xb, .int .i64 xab, .int .i64 xba] 49)
        have RN := R.out.alloc (.cells #[.int .i64 xa, .int .i64 xb, .int .i64 xab, .int .i64 xba] 49)
        have CN : Has (wr.alloc (.cells #[.int .i64 xa, .int .i64 xb, .int .i64 xab, .int .i64 xba] 49)) wr.heap.size #[.int .i64 xa, .int .i64 xb, .int .i64 xab, .int .i64 xba] := Has.new _ _ _ rfl
        have hmN := hm.out.alloc (.cells #[.int .i64 xa, .int .i64 xb, .int .i64 xab, .int .i64 xba] 49)
        clear o1 o2 o3 o4
        go_wp2_with (first
          | (at_mapUpdate; refine wpList_mapUpdate_own _ rfl _ _ _ 75 rfl 90 3 lawP Try.underlying75 (plainElem Try.prog 3) mb (2 * k) (mD C k) rfl hmN (by unfold maxLen; omega) _ _ (pk xa xb) rfl rfl k1 (.lit (.int .i64 xab)) [] e3 ?_; intro w2 hm2 hg2; have O2 : Only (fun q => some mb = some q) (wr.alloc (.cells #[.int .i64 xa, .int .i64 xb, .int .i64 xab, .int .i64 xba] 49)) w2 := only_grown (Only.refl _ _) hg2 (fun q hq => .inl hq); have S2 := SN.only O2 (fun e => ms (by injection e)); have R2 := RN.only O2 (fun e => by injection e with e; omega); have C2 := CN.only O2 (fun e => by injection e with e; omega); have hb2 := bel_only hbN O2 (Nat.le_refl _) (fun q hq e => by injection e with e; omega); have z2 := O2.size; obtain ⟨_, v1, v2⟩ := id S2; obtain ⟨_, u1, u2⟩ := id C2; clear hg2 hmN)
          | (at_mapUpdate; refine wpList_mapUpdate_own _ rfl _ _ _ 75 rfl 90 3 lawP Try.underlying75 (plainElem Try.prog 3) mb (2 * k + 1) _ rfl hm2 (by unfold maxLen; omega) _ _ (pk xb xa) rfl rfl k2 (.lit (.int .i64 xba)) [] e4 ?_; intro w3 hm3 hg3; have O3 : Only (fun q => some mb = some q) w2 w3 := only_grown (Only.refl _ _) hg3 (fun q hq => .inl hq); have S3 := S2.only O3 (fun e => ms (by injection e)); have R3 := R2.only O3 (fun e => by injection e with e; omega); have hb3 := bel_only hb2 O3 (Nat.le_refl _) (fun q hq e => by injection e with e; omega); have z3 := O3.size; clear hg3))
        have hm4 : w3.ownsMap (H := Unit) Try.prog 90 (plainElem Try.prog 3) mb (2 * (k + 1)) (mD C (k + 1)) := by rw [hst]; exact hm3
        have ml3 : mb < w3.heap.size := by simp at z2; omega
        go_roundw
        case rel => exact ⟨k + 1, by omega, by go_num, hm4, S3, R3, hb3, ml3⟩
        case measure => simp [intOf]; omega
      · have t1 : ¬ (k : Int) < (C.length : Int) := by omega
        obtain rfl : k = C.length := by omega
        obtain ⟨_, r2, r3⟩ := id R.out
        go_wp2
        have K : Has ((wr.setCell ⟨w.heap.size + 1, 0, none⟩ (.slice ga gn gc)).setCell ⟨w.heap.size + 1, 1, none⟩ (.map (some mb))) (w.heap.size + 1) #[.slice ga gn gc, .map (some mb)] := by simpa using (R.out.set 0 (by simp) (.slice ga gn gc)).set 1 (by simp) (.map (some mb))
        have hmF := (hm.out.setCell (a := ⟨w.heap.size + 1, 0, none⟩) (by show mb ≠ w.heap.size + 1; omega) (.slice ga gn gc)).setCell (a := ⟨w.heap.size + 1, 1, none⟩) (by show mb ≠ w.heap.size + 1; omega) (.map (some mb))
        have hbF := (hb.out.setCell (p := ⟨w.heap.size + 1, 0, none⟩) (by simp) (.slice ga gn gc)).setCell (p := ⟨w.heap.size + 1, 1, none⟩) (by simp) (.map (some mb))
        obtain ⟨_, k1, _⟩ := id K
        exact bodyPost_ret (v := .agg #[.slice ga gn gc, .map (some mb)]) (by simp [results, Try.results42, go_sem, k1]) rfl ⟨⟨mb, rfl, hmF, by omega, by simpa [World.setCell] using ml⟩, hbF⟩
end Go.Proofs.Ythflpnahifpdnaa
namespace Go.Proofs.Ythflpnahifpdnaa
open Go.RowKit Go.Maps Go.WideMaps
set_option linter.unusedVariables false

def stepD (D : DataW Unit) (c : Cf) : DataW Unit := (D.put (pk c.a c.b) (.lit (.int .i64 c.ab))).put (pk c.b c.a) (.lit (.int .i64 c.ba))
theorem mD_fold (C : List Cf) : ∀ k, k ≤ C.length → mD C k = (C.take k).foldl stepD (.map [])
  | 0, _ => rfl
  | k + 1, h => by
    rw [mD_step C k (by omega), List.take_succ_eq_append_getElem (by omega), List.foldl_append, ← mD_fold C k (by omega)]
    rfl
theorem ordB_trans {b c d : Cf} (h1 : ordB b c = true) (h2 : ordB c d = true) : ordB b d = true := by
  simp [ordB] at *; omega
theorem rows_ord {n : Nat} : ∀ (cs : List Cf) (c : Cf), rowsB n (some c) cs = true → ∀ d ∈ cs, ordB c d = true ∧ cfB n d = true
  | [], _, _, d, hd => by cases hd
  | x :: xs, c, h, d, hd => by
    simp [rowsB, ordP] at h
    rcases List.mem_cons.1 hd with rfl | hd
    · exact ⟨h.1.2, h.1.1⟩
    · have ih := rows_ord xs x h.2 d hd
      exact ⟨ordB_trans h.1.2 ih.1, ih.2⟩
theorem inter_none : ∀ (cs : List Cf) (o g : Int), (∀ d ∈ cs, ¬ (d.a = o ∧ d.b = g) ∧ ¬ (d.a = g ∧ d.b = o)) → interF cs o g = (0, false)
  | [], _, _, _ => rfl
  | d :: cs, o, g, h => by
    have h1 := h d (by simp)
    unfold interF
    rw [if_neg h1.1, if_neg h1.2]
    exact inter_none cs o g (fun e he => h e (by simp [he]))
theorem stepD_map {D : DataW Unit} (h : IsMap D) (c : Cf) : IsMap (stepD D c) := (h.put _ _).put _ _
/-- What the map says of a pair. -/
theorem fold_at {n : Nat} : ∀ (cs : List Cf) (p : Option Cf) (D : DataW Unit) (o g : Int) (z : DataW Unit), IsMap D → rowsB n p cs = true → (∀ d ∈ cs, d.ok) → (Lit.int .i64 o).wf = true → (Lit.int .i64 g).wf = true →
    (cs.foldl stepD D).atKey (pk o g) z = (if (interF cs o g).2 = true then .lit (.int .i64 (interF cs o g).1) else D.atKey (pk o g) z) ∧ Maps.has (cs.foldl stepD D) (pk o g) = ((interF cs o g).2 || Maps.has D (pk o g))
  | [], _, D, o, g, z, _, _, _, _, _ => by simp [interF]
  | c :: cs, p, D, o, g, z, hD, hr, ok, wo, wg => by
    have okc := ok c (by simp)
    simp [rowsB] at hr
    have hr1 := hr.1.1
    have hr2 := hr.2
    have so := rows_ord cs c hr2
    have ih := fold_at cs (some c) (stepD D c) o g z (stepD_map hD c) hr2 (fun d hd => ok d (by simp [hd])) wo wg
    have ab : c.a < c.b := by simp [cfB] at hr1; exact hr1.2.1
    have ne1 : pk c.a c.b ≠ pk c.b c.a := fun e => by have := pk_inj okc.1 okc.2.1 okc.2.1 okc.1 e; omega
    have later : ∀ d ∈ cs, ¬ (d.a = c.a ∧ d.b = c.b) ∧ ¬ (d.a = c.b ∧ d.b = c.a) := fun d hd => by
      have h1 := so d hd
      have h2 := h1.1
      have h3 := h1.2
      simp [ordB] at h2
      simp [cfB] at h3
      constructor <;> omega
    have k1 : WideAt.IsKeyLit (pk c.a c.b) := trivial
    have k2 : WideAt.IsKeyLit (pk c.b c.a) := trivial
    rw [List.foldl_cons, ih.1, ih.2]
    by_cases m1 : c.a = o ∧ c.b = g
    · obtain ⟨rfl, rfl⟩ := m1
      have e1 : interF (c :: cs) c.a c.b = (c.ab, true) := by simp [interF]
      rw [inter_none cs c.a c.b later, e1]
      constructor
      · simp [stepD, atKey_put_other ne1, atKey_put_same hD k1]
      · simp [stepD, has_put_other ne1, has_put_same hD k1]
    · by_cases m2 : c.a = g ∧ c.b = o
      · obtain ⟨rfl, rfl⟩ := m2
        have e1 : interF (c :: cs) c.b c.a = (c.ba, true) := by
          have : ¬ (c.a = c.b ∧ c.b = c.a) := by omega
          simp [interF, this]
        rw [inter_none cs c.b c.a (fun d hd => ⟨(later d hd).2, (later d hd).1⟩), e1]
        constructor
        · simp [stepD, atKey_put_same (hD.put _ _) k2]
        · simp [stepD, has_put_same (hD.put _ _) k2]
      · have e1 : interF (c :: cs) o g = interF cs o g := by
          show (if c.a = o ∧ c.b = g then _ else if c.a = g ∧ c.b = o then _ else _) = _
          rw [if_neg m1, if_neg m2]
        have n1 : pk o g ≠ pk c.a c.b := fun e => by have := pk_inj wo wg okc.1 okc.2.1 e; exact m1 ⟨this.1.symm, this.2.symm⟩
        have n2 : pk o g ≠ pk c.b c.a := fun e => by have := pk_inj wo wg okc.2.1 okc.1 e; exact m2 ⟨this.2.symm, this.1.symm⟩
        rw [e1]
        simp [stepD, atKey_put_other n1, atKey_put_other n2, has_put_other n1, has_put_other n2]
/-- .. of sound tables. -/
theorem mD_at {G : List Gp} {C : List Cf} (gr : gridB G C = true) (ok : ∀ (i : Nat) (h : i < C.length), C[i].ok) (o g : Int) (wo : (Lit.int .i64 o).wf = true) (wg : (Lit.int .i64 g).wf = true) (z : DataW Unit) :
    (mD C C.length).atKey (pk o g) z = (if (interF C o g).2 = true then .lit (.int .i64 (interF C o g).1) else z) ∧ Maps.has (mD C C.length) (pk o g) = (interF C o g).2 := by
  have hr : rowsB G.length none C = true := by simp [gridB] at gr; exact gr.2.2
  have h := fold_at C none (.map []) o g z isMap_empty hr (fun d hd => by obtain ⟨i, hi, rfl⟩ := List.mem_iff_getElem.1 hd; exact ok i hi) wo wg
  rw [mD_fold C C.length (Nat.le_refl _), List.take_length]
  refine ⟨h.1.trans ?_, h.2.trans ?_⟩
  · simp [DataW.atKey]
  · simp [Maps.has]
end Go.Proofs.Ythflpnahifpdnaa
namespace Go.Proofs.Ythflpnahifpdnaa
open Go.RowKit Go.Maps Go.WideMaps
set_option linter.unusedVariables false

/-- The greatest wait for a group of a mask. -/
def wA (C : List Cf) (A : Nat) (g : Int) : List Gp → Nat → Int → Int
  | [], _, w => w
  | x :: xs, o, w => wA C A g xs (o + 1) (if hasN A (o : Int) = true then (if w < waitV x C (o : Int) g then waitV x C (o : Int) g else w) else w)
theorem wF_wA (C : List Cf) (F T A : Nat) (all : Bool) (g : Int) : ∀ (G : List Gp) (o : Nat) (w : Int), (∀ k, o ≤ k → k < o + G.length → hasN A (k : Int) = (all || loses F T k)) → wF C F T all g G o w = wA C A g G o w
  | [], _, _, _ => rfl
  | x :: xs, o, w, h => by
    unfold wF wA
    rw [h o (Nat.le_refl _) (by simp)]
    exact wF_wA C F T A all g xs (o + 1) _ (fun k h1 h2 => h k (by omega) (by simp; omega))
/-- It is at least each of them, and one of them, or what it began with. -/
theorem wA_max (C : List Cf) (A : Nat) (g : Int) : ∀ (G : List Gp) (o : Nat) (w : Int), w ≤ wA C A g G o w ∧ (∀ (i : Nat) (h : i < G.length), hasN A ((o + i : Nat) : Int) = true → waitV G[i] C ((o + i : Nat) : Int) g ≤ wA C A g G o w) ∧
    (wA C A g G o w = w ∨ ∃ (i : Nat) (h : i < G.length), hasN A ((o + i : Nat) : Int) = true ∧ wA C A g G o w = waitV G[i] C ((o + i : Nat) : Int) g)
  | [], _, w => ⟨by simp [wA], fun i h => by simp at h, .inl rfl⟩
  | x :: xs, o, w => by
    obtain ⟨i1, i2, i3⟩ := wA_max C A g xs (o + 1) (if hasN A (o : Int) = true then (if w < waitV x C (o : Int) g then waitV x C (o : Int) g else w) else w)
    have e : wA C A g (x :: xs) o w = wA C A g xs (o + 1) (if hasN A (o : Int) = true then (if w < waitV x C (o : Int) g then waitV x C (o : Int) g else w) else w) := rfl
    rw [e]
    refine ⟨?_, fun i h hm => ?_, ?_⟩
    · refine Int.le_trans ?_ i1
      split
      · split <;> omega
      · omega
    · cases i with
      | zero =>
        simp only [Nat.add_zero] at hm ⊢
        refine Int.le_trans ?_ i1
        rw [if_pos hm]
        show waitV x C (o : Int) g ≤ _
        split <;> omega
      | succ i =>
        have := i2 i (by simpa using h) (by rw [show o + 1 + i = o + (i + 1) by omega]; exact hm)
        rw [show o + 1 + i = o + (i + 1) by omega] at this
        simpa using this
    · rcases i3 with i3 | ⟨i, hi, hm, hv⟩
      · by_cases ha : hasN A (o : Int) = true
        · rw [if_pos ha] at i3 ⊢
          by_cases hl : w < waitV x C (o : Int) g
          · rw [if_pos hl] at i3 ⊢
            exact .inr ⟨0, by simp, by simpa using ha, by simpa using i3⟩
          · rw [if_neg hl] at i3 ⊢
            exact .inl i3
        · rw [if_neg ha] at i3 ⊢
          exact .inl i3
      · refine .inr ⟨i + 1, by simpa using hi, ?_, ?_⟩
        · rw [show o + (i + 1) = o + 1 + i by omega]; exact hm
        · rw [hv, show o + (i + 1) = o + 1 + i by omega]; simp
/-- Groups of a pair that the tables name. -/
theorem inter_range {n : Nat} : ∀ (cs : List Cf) (p : Option Cf) (o g : Int), rowsB n p cs = true → (interF cs o g).2 = true → (0 ≤ o ∧ o < (n : Int)) ∧ 0 ≤ g ∧ g < (n : Int)
  | [], _, _, _, _, h => by simp [interF] at h
  | c :: cs, p, o, g, hr, h => by
    simp [rowsB, cfB] at hr
    have ih := inter_range cs (some c) o g hr.2
    unfold interF at h
    split at h
    · omega
    · split at h
      · omega
      · exact ih h
end Go.Proofs.Ythflpnahifpdnaa
namespace Go.Proofs.Ythflpnahifpdnaa
open Go.RowKit Go.Maps Go.WideMaps
set_option linter.unusedVariables false
def valsN (V : Nat → Int) (n : Nat) : List Value := (List.range n).map fun i => .int .i64 (V i)
theorem wfn {n : Nat} (h : n ≤ 2932031007317) : (Lit.int .i64 (n : Int)).wf = true := by
  simp [Lit.wf, IntKind.min, IntKind.max, IntKind.bits, IntKind.signed]
  omega
theorem ranges_drewN {w : World} {b r n cnt : Nat} {D : DataW Unit} {left : Lit → Bool} (h : w.ranges (H := Unit) Try.prog 90 (plainElem Try.prog 3) b r n D left cnt) (m : Nat) : (w.drewN m).ranges (H := Unit) Try.prog 90 (plainElem Try.prog 3) b r n D left cnt := by
  induction m generalizing w with
  | zero => exact h
  | succ m ih => exact ih (w := w.drew) h
theorem ranges_set {w : World} {b r n cnt q i : Nat} {v : Value} {D : DataW Unit} {left : Lit → Bool} (h : w.ranges (H := Unit) Try.prog 90 (plainElem Try.prog 3) b r n D left cnt) (h1 : b ≠ q) (h2 : r ≠ q) : (w.setCell ⟨q, i, none⟩ v).ranges (H := Unit) Try.prog 90 (plainElem Try.prog 3) b r n D left cnt := by
  obtain ⟨es, clock, since, seen, c0, hb, F, hs, hD, hr, rest⟩ := h
  exact ⟨es, clock, since, seen, c0, (Below.heap_setCell _ _ _ _ h1).trans hb, F, hs, hD, (Below.heap_setCell _ _ _ _ h2).trans hr, rest⟩
structure InvV (G : List Gp) (C : List Cf) (A : Nat) (V : Nat → Int) (left : Lit → Bool) : Prop where
  nn : ∀ i, i < G.length → 0 ≤ V i ∧ V i ≤ 3600
  ge : ∀ (o i : Nat) (ho : o < G.length), i < G.length → hasN A (o : Int) = true → (interF C (o : Int) (i : Int)).2 = true → left (pk (o : Int) (i : Int)) = false → waitV G[o] C (o : Int) (i : Int) ≤ V i
  is : ∀ i, i < G.length → V i = 0 ∨ ∃ (o : Nat) (ho : o < G.length), hasN A (o : Int) = true ∧ V i = waitV G[o] C (o : Int) (i : Int)
set_option maxRecDepth 100000 in
theorem pair_wf (key : Value) (kl : Lit) (h : keyOf Try.prog 90 key = some kl) : ∃ p : Int × Int, key = .agg #[.int .i64 p.1, .int .i64 p.2] ∧ (Lit.int .i64 p.1).wf = true ∧ (Lit.int .i64 p.2).wf = true ∧ kl = pk p.1 p.2 := by
  obtain ⟨d, hd⟩ : ∃ d, Try.prog.types.size = d + 1 := ⟨Try.prog.types.size - 1, by have h : (90 : Nat) < Try.prog.types.size := row55; omega⟩
  unfold keyOf at h
  rw [Try.underlying90] at h
  simp only [key55, Bool.true_and] at h
  split at h
  · rename_i hf
    rw [hd] at h
    cases key with
    | agg cs =>
      simp [Value.formed, Try.underlying90, cells55] at hf
      obtain ⟨l⟩ := cs
      match l, hf with
      | [x, y], _ =>
        simp [Program.keyLits, Try.underlying90, Try.underlying3, cells55, c3, List.range, List.range.loop, Value.cells] at h
        cases x <;> simp at h
        rename_i q1 n1 _
        by_cases c1 : q1 = IntKind.i64 ∧ (Lit.int IntKind.i64 n1).wf = true
        · obtain ⟨rfl, w1⟩ := c1
          simp [w1] at h
          cases y <;> simp at h
          rename_i q2 n2 _
          by_cases c2 : q2 = IntKind.i64 ∧ (Lit.int IntKind.i64 n2).wf = true
          · obtain ⟨rfl, w2⟩ := c2
            simp [w2] at h
            exact ⟨(n1, n2), rfl, w1, w2, by rw [← h]; rfl⟩
          · simp [c2] at h
        · simp [c1] at h
    | _ => simp [Value.formed, Try.underlying90] at hf
  · cases h
theorem pair_inv (key : Value) (kl : Lit) (h : keyOf Try.prog 90 key = some kl) : ∃ p : Int × Int, key = .agg #[.int .i64 p.1, .int .i64 p.2] := by
  obtain ⟨p, h1, _⟩ := pair_wf key kl h
  exact ⟨p, h1⟩
theorem made_vals (n : Nat) : (madeCells (Value.int IntKind.i64 0).cells (n * 1)).toList = valsN (fun _ => 0) n := by
  apply List.ext_getElem?
  intro i
  simp [madeCells, valsN, Value.cells]
  cases (List.range n)[i]? with
  | none => rfl
  | some x => simp [Nat.mod_one]
set_option maxRecDepth 100000 in
set_option maxHeartbeats 4000000 in
theorem waitsFor_any (G : List Gp) (C : List Cf) (vg : Value) (mb A : Nat) (w : World) (hA : A < 18446744073709551616) (h1 : Fl 5 Gp.cs w vg G) (lG : G.length ≤ 2932031007317) (lC : C.length ≤ 4398046511000) (gr : gridB G C = true) (ok : ∀ (i : Nat) (h : i < C.length), C[i].ok)
    (hm : w.ownsMap (H := Unit) Try.prog 90 (plainElem Try.prog 3) mb (2 * C.length) (mD C C.length)) (hmb : mb < w.heap.size) :
    Calls Try.prog 44 #[.agg #[vg, .map (some mb)], .int .u64 (A : Int)] w fun e w' => (∃ aw cw, e = .returned (.slice aw G.length cw) ∧ (G = [] ∨ ∃ gw, aw = some ⟨gw, 0, none⟩ ∧ gw < w'.heap.size ∧ ∀ i, i < G.length → w'.cell? ⟨gw, i, none⟩ = some (.int .i64 (wA C A (i : Int) G 0 0)) ∧ 0 ≤ wA C A (i : Int) G 0 0 ∧ wA C A (i : Int) G 0 0 ≤ 3600)) ∧ Below w.heap.size w w' := by
  obtain ⟨va, cg, rfl, kG⟩ := h1.any
  clear h1
  obtain ⟨i3, h3, h31, h32, h33⟩ := info_parts info3
  have hm0 := hm.alloc (.cells #[.slice va G.length cg, .map (some mb)] 77)
  go_enter Try.func44, Try.ntmps44
  go_wp2_with (first
    | (refine wpList_make_full _ rfl _ _ 34 rfl (w.heap.size + 1) 3 i3 _ 1 Try.underlying34 h3 h31 h32 .i64 .i64 (G.length : Int) (G.length : Int) G.length rfl rfl rfl rfl (by rw [h33]; omega) (by unfold maxLen; omega) (by simp) ?_; intro W0 own0 hg0; have HB0 := grown_none hg0; have B0 : Has W0 w.heap.size #[.slice va G.length cg, .map (some mb)] := (Has.new w _ _ rfl).below HB0; have hm1 := hm0.kept hg0 (by simp); have hbW : Below w.heap.size w W0 := bel_after belN1 (by simp) HB0; obtain ⟨_, b0, _⟩ := id B0; clear HB0 hg0)
    | (at_range; refine wpList_range_own _ rfl _ 75 rfl 90 3 lawP Try.underlying75 _ mb (2 * C.length) (mD C C.length) rfl hm1 ?_; intro w0 hrg0 hg1 hs0; have HB1 := grown_none hg1; have B1 := B0.below HB1; have hb1 := bel_after hbW hbW.size HB1; have own1 := own_bel own0 HB1; clear HB1 hg1))
  go_frame
  have zW : w.heap.size + 1 < W0.heap.size := (own_lt own0 (w.heap.size + 1) (by simp [Value.ownBlock])).2
  go_loopw [7] (fun _ wr => ∃ (left : Lit → Bool) (cnt : Nat) (V : Nat → Int), Hid (wr.ranges (H := Unit) Try.prog 90 (plainElem Try.prog 3) mb W0.heap.size (2 * C.length) (mD C C.length) left cnt) ∧ Hid (wr.ownsRow (w.heap.size + 1) 3 1 (.slice (some ⟨w.heap.size + 1, 0, none⟩) G.length G.length) G.length (valsN V G.length)) ∧ Hid (InvV G C A V left) ∧ Hid (Has wr w.heap.size #[.slice va G.length cg, .map (some mb)]) ∧ Hid (Below w.heap.size w wr)) (fun _ wr => wr.rangeLeft mb W0.heap.size)
  case atStart =>
    refine ⟨_, _, fun _ => 0, hrg0, ?_, ?_, B1, hb1⟩
    · have := own1
      rw [made_vals] at this
      show World.ownsRow _ _ _ _ _ _ _
      simpa using this
    · refine ⟨fun i hi => ⟨by omega, by omega⟩, fun o i ho hi ha hin hl => ?_, fun i hi => .inl rfl⟩
      have := (mD_at gr ok (o : Int) (i : Int) (wfn (by omega)) (wfn (by omega)) .nil).2
      rw [hin] at this
      rw [this] at hl
      cases hl
  case round =>
    clear hrg0 own0 own1 B1 hb1 B0 b0 hm1 hbW
    obtain ⟨left, cnt, V, hrg, hown, hinv, B, hb⟩ := hrel
    obtain ⟨_, b1, _⟩ := id B.out
    go_wp2_with (at_next; refine wpList_next_ranges _ rfl _ rfl 90 lawP (plainElem Try.prog 3) (fun p : Int × Int => .agg #[.int .i64 p.1, .int .i64 p.2]) (fun c : Int => .int .i64 c) pair_inv (fun v y hv => by obtain ⟨c, rfl, _⟩ := plainElem_int_inv Try.underlying3 hv; exact ⟨c, rfl⟩) mb W0.heap.size (2 * C.length) (mD C C.length) left cnt rfl hrg.out ?_ ?_)
    · intro hc0 hl0
      go_wp2
      go_ret
      refine ⟨⟨some ⟨w.heap.size + 1, 0, none⟩, G.length, rfl, .inr ⟨w.heap.size + 1, rfl, (own_lt hown.out _ rfl).2, fun i hi => ?_⟩⟩, hb.out⟩
      have hv := hinv.out
      have mx := wA_max C A (i : Int) G 0 0
      have eV : V i = wA C A (i : Int) G 0 0 := by
        have hge : ∀ (o : Nat) (ho : o < G.length), hasN A (o : Int) = true → waitV G[o] C (o : Int) (i : Int) ≤ V i := fun o ho ha => by
          cases hin : (interF C (o : Int) (i : Int)).2 with
          | true => exact hv.ge o i ho hi ha hin (hl0 _)
          | false =>
            have e0 : waitV G[o] C (o : Int) (i : Int) = 0 := by simp [waitV, hin]
            have := hv.nn i hi
            omega
        refine Int.le_antisymm ?_ ?_
        · rcases hv.is i hi with h | ⟨o, ho, ha, h⟩
          · rw [h]; exact mx.1
          · rw [h]; have := mx.2.1 o ho (by simpa using ha); simpa using this
        · rcases mx.2.2 with h | ⟨o, ho, ha, h⟩
          · rw [h]; exact (hv.nn i hi).1
          · rw [h]; have := hge o ho (by simpa using ha); simpa using this
      refine ⟨own_reads hown.out rfl _ _ ?_, ?_, ?_⟩
      · simp [valsN, hi, eV]
      · rw [← eV]; exact (hv.nn i hi).1
      · rw [← eV]; exact (hv.nn i hi).2
    · intro xo xg c kl y1 y2 w1 cnt1 hkey hlk hv hat hrg1 hlt hg1 hs1 hen
      obtain ⟨⟨a', b'⟩, e1, wo, wg, rfl⟩ := pair_wf _ _ hkey
      simp at e1
      obtain ⟨rfl, rfl⟩ := e1
      simp only at *
      have hr : rowsB G.length none C = true := by simp [gridB] at gr; exact gr.2.2
      have m0 := (mD_at gr ok xo xg wo wg .nil).1
      have m1 := (mD_at gr ok xo xg wo wg (.lit (.bool true))).1
      rw [hat] at m0 m1
      have hin : (interF C xo xg).2 = true := by
        cases hh : (interF C xo xg).2 with
        | true => rfl
        | false => rw [hh] at m0 m1; simp at m0 m1; rw [m0] at m1; cases m1
      rw [hin] at m0
      simp at m0
      obtain ⟨c', ec, ey, wc⟩ := plainElem_int_inv Try.underlying3 hv
      have ecc : c = (interF C xo xg).1 := by
        injection ec with _ ec
        have : y1 = .lit (.int .i64 c') := by have := congrArg Prod.fst ey; simpa using this
        rw [m0] at this
        injection this with this
        injection this with _ this
        omega
      obtain ⟨⟨ro1, ro2⟩, rg1, rg2⟩ := inter_range C none xo xg hr hin
      obtain ⟨o, rfl⟩ : ∃ o : Nat, xo = (o : Int) := ⟨xo.toNat, by omega⟩
      obtain ⟨g, rfl⟩ : ∃ g : Nat, xg = (g : Int) := ⟨xg.toNat, by omega⟩
      have ho : o < G.length := by omega
      have hgl : g < G.length := by omega
      obtain ⟨gg, oo, rfl, hgg, P⟩ := kG.resolve_left (by intro e; rw [e] at ho; simp at ho)
      have O1 : Only (fun q => some W0.heap.size = some q) wr w1 := only_grown (Only.refl _ _) hg1 (fun q hq => .inl hq)
      have B1 := B.out.only O1 (fun e => by injection e with e; omega)
      have own1 := own_only2 hown.out O1 (fun q hq e => by have e1 : w.heap.size + 1 = q := (by injection hq); injection e with e; omega)
      have hb1 := bel_only hb.out O1 (Nat.le_refl _) (fun q hq e => by injection e with e; omega)
      have hiv := hinv.out
      have wv := wait_in gr o ho (o : Int) (g : Int)
      have ew : waitV G[o] C (o : Int) (g : Int) = (if G[o].amber > c then G[o].amber else c) := by rw [ecc]; simp [waitV, hin]
      have p3 : ∀ W : World, Below w.heap.size w W → W.cell? ⟨gg, oo + o * 5 + 3, none⟩ = some (.int .i64 G[o].amber) := fun W h => (h.cell (p := ⟨gg, _, none⟩) hgg).trans (P o ho 3 _ rfl)
      have hH := fun (W : World) => hasS_any A (o : Int) W hA (by omega)
      have hrg0' := hrg.out
      clear hg1 m0 m1 ey ec hv hat hkey hr B hb
      obtain ⟨_, b2, _⟩ := id B1
      have ecc' : Hid (c = (interF C (o : Int) (g : Int)).1) := ecc
      clear ecc
      have hrA := hrg1.alloc (.cells #[.int .i64 (o : Int), .int .i64 (g : Int)] 90)
      have ownA := own1.alloc (.cells #[.int .i64 (o : Int), .int .i64 (g : Int)] 90)
      have BA := B1.alloc (.cells #[.int .i64 (o : Int), .int .i64 (g : Int)] 90)
      have hbA : Below w.heap.size w (w1.alloc (.cells #[.int .i64 (o : Int), .int .i64 (g : Int)] 90)) := hb1.alloc hb1.size _
      have mono : ∀ z, (left z && !z.sameKey (pk (o : Int) (g : Int))) = false → left z = false ∨ z = pk (o : Int) (g : Int) := fun z h => by
        cases hl : left z with
        | false => exact .inl rfl
        | true => rw [hl] at h; simp at h; exact .inr (WideAt.sameKey_eq h)
      cases ha : hasN A (o : Int) with
      | false =>
        rw [ha] at hH
        have inv2 : InvV G C A V (fun z => left z && !z.sameKey (pk (o : Int) (g : Int))) := by
          refine ⟨hiv.nn, fun o' i ho' hi ha' hin' hl => ?_, hiv.is⟩
          rcases mono _ hl with h | h
          · exact hiv.ge o' i ho' hi ha' hin' h
          · have := pk_inj (wfn (by omega)) (wfn (by omega)) wo wg h
            have e : o' = o := by omega
            subst e
            rw [ha] at ha'
            cases ha'
        clear p3 ew wv P hiv hinv mono
        go_wp2
        go_quiet (fail)
        go_wp2_with (go_at_call 34; (with_reducible refine Calls.mono (hH _) ?_); rintro e w2 ⟨rfl, rfl⟩)
        go_roundw
        case rel => exact ⟨_, cnt1, V, ranges_drewN hrA nq, own_bel ownA (bel_drewN (Below.refl _ _)), inv2, BA.drewN nq, bel_drewN hbA⟩
        case measure => rw [(ranges_drewN hrA nq).left_eq, hrg0'.left_eq]; omega
      | true =>
        rw [ha] at hH
        go_wp2
        go_quiet (fail)
        go_wp2_with (go_at_call 34; (with_reducible refine Calls.mono (hH _) ?_); rintro e w2 ⟨rfl, rfl⟩)
        have ownX := own_bel ownA (bel_drewN (n := nq) (Below.refl _ _))
        have BX := BA.drewN nq
        have hbX := bel_drewN (n := nq) hbA
        have hrX := ranges_drewN hrA nq
        have p3X := p3 _ hbX
        have c1 := own_reads ownX rfl g (.int .i64 (V g)) (by simp [valsN, hgl])
        have fz := ownX.frozenAt
        have t1 : (g : Int) < (G.length : Int) := by omega
        have t2 : (o : Int) < (G.length : Int) := by omega
        have t3 : (0 : Int) ≤ (g : Int) := by omega
        have t4 : (0 : Int) ≤ (o : Int) := by omega
        generalize hX : World.drewN _ _ = X at *
        clear hX ownA BA hbA hrA own1 B1 hb1 hrg1 b2 P p3
        obtain ⟨_, b3, _⟩ := id BX
        generalize G[o].amber = am at *
        have vle : V g ≤ (if am > (if c > V g then c else V g) then am else (if c > V g then c else V g)) ∧ (if am > c then am else c) ≤ (if am > (if c > V g then c else V g) then am else (if c > V g then c else V g)) ∧ ((if am > (if c > V g then c else V g) then am else (if c > V g then c else V g)) = V g ∨ (if am > (if c > V g then c else V g) then am else (if c > V g then c else V g)) = (if am > c then am else c)) := by
          refine ⟨?_, ?_, ?_⟩ <;> (repeat' split) <;> omega
        generalize hval : (if am > (if c > V g then c else V g) then am else (if c > V g then c else V g)) = val at *
        have hvs : (valsN V G.length).set g (.int .i64 val) = valsN (fun i => if i = g then val else V i) G.length := by
          apply List.ext_getElem?
          intro i
          by_cases e : i = g
          · subst e
            rw [List.getElem?_set_self (by simp [valsN]; omega)]
            simp [valsN, hgl]
          · rw [List.getElem?_set_ne (by omega)]
            simp only [valsN, List.getElem?_map]
            cases hx : (List.range G.length)[i]? with
            | none => rfl
            | some x =>
              have : x = i := by have := List.getElem?_eq_some_iff.1 hx; obtain ⟨h1, h2⟩ := this; simpa using h2.symm
              subst this
              simp [e]
        have ownF := ((ownX.stored g (.int .i64 val)).1).drew
        rw [hvs] at ownF
        have BF := (BX.far (c := w.heap.size + 1) (i := g) (by omega) (.int .i64 val)).drew
        have hbF := (hbX.setCell (p := ⟨w.heap.size + 1, g, none⟩) (by simp) (.int .i64 val)).drew
        have hrF : (X.setCell ⟨w.heap.size + 1, g, none⟩ (.int .i64 val)).drew.ranges (H := Unit) Try.prog 90 (plainElem Try.prog 3) mb W0.heap.size (2 * C.length) (mD C C.length) (fun z => left z && !z.sameKey (pk (o : Int) (g : Int))) cnt1 := ranges_set hrX (by omega) (by omega)
        have inv2 : InvV G C A (fun i => if i = g then val else V i) (fun z => left z && !z.sameKey (pk (o : Int) (g : Int))) := by
          have ng := hiv.nn g hgl
          refine ⟨fun i hi => ?_, fun o' i ho' hi ha' hin' hl => ?_, fun i hi => ?_⟩
          · by_cases e : i = g
            · simp only [e, if_true]; omega
            · simp only [e, if_false]; exact hiv.nn i hi
          · rcases mono _ hl with h | h
            · have := hiv.ge o' i ho' hi ha' hin' h
              by_cases e : i = g
              · subst e; simp only [if_true]; omega
              · simp only [e, if_false]; exact this
            · have := pk_inj (wfn (by omega)) (wfn (by omega)) wo wg h
              have e1 : o' = o := by omega
              have e2 : i = g := by omega
              subst e1 e2
              simp only [if_true]
              omega
          · by_cases e : i = g
            · subst e
              simp only [if_true]
              rcases vle.2.2 with h | h
              · rcases hiv.is i hi with h' | ⟨o', ho', ha', h'⟩
                · exact .inl (by omega)
                · exact .inr ⟨o', ho', ha', by omega⟩
              · exact .inr ⟨o, ho, ha, by omega⟩
            · simp only [e, if_false]; exact hiv.is i hi
        have mL : cnt1 < cnt := hlt
        clear hvs mono hiv hinv hown vle
        go_region
        go_wp2
        go_roundw
        case rel => exact ⟨_, cnt1, _, hrF, ownF, inv2, BF, hbF⟩
        case measure => rw [World.ranges.left_eq hrF, hrg0'.left_eq]; omega
end Go.Proofs.Ythflpnahifpdnaa
namespace Go.Proofs.Ythflpnahifpdnaa
open Go.RowKit
set_option linter.unusedVariables false


theorem wf64 {n : Int} (h : (Lit.int .i64 n).wf = true) : -9223372036854775808 ≤ n ∧ n ≤ 9223372036854775807 := by
  simp [Lit.wf, IntKind.min, IntKind.max, IntKind.bits, IntKind.signed] at h
  omega

set_option maxRecDepth 100000 in
set_option maxHeartbeats 4000000 in
theorem clash_any (n : Nat) (M : Nat) (C : List Cf) (va : Option Addr) (cap0 : Nat) (vc : Value) (w : World) (hM : M < 18446744073709551616) (hn : n ≤ 2932031007317) (h : Fl 4 Cf.cs w vc C) (hl : C.length ≤ 4398046511000) (ok : ∀ (i : Nat) (h : i < C.length), C[i].ok) :
    Calls Try.prog 12 #[.agg #[.slice va n cap0, vc], .int .u64 (M : Int)] w fun e w' => e = .returned (.tuple #[.int .i64 (clashF n M C).1, .int .i64 (clashF n M C).2.1, .bool (clashF n M C).2.2]) ∧ Below w.heap.size w w' := by
  obtain ⟨vb, cap, rfl, hk⟩ := h.any
  clear h
  generalize hA : clashF n M C = A
  have B0 : Has (w.alloc (.cells #[.slice va n cap0, .slice vb C.length cap] 25)) w.heap.size #[.slice va n cap0, .slice vb C.length cap] := Has.new _ _ _ rfl
  have hb0 : Below w.heap.size w (w.alloc (.cells #[.slice va n cap0, .slice vb C.length cap] 25)) := belN1
  have hMl : M &&& (2 ^ min n 64 - 1) < 18446744073709551616 := Nat.lt_of_le_of_lt Nat.and_le_left hM
  have hMa : bits .and .u64 (M : Int) ((2 ^ min n 64 - 1 : Nat) : Int) = ((M &&& (2 ^ min n 64 - 1) : Nat) : Int) := bits_and_u64_nat _ _ hM (allOf_lt n)
  have hN := fun g => hasN_and M n g
  have hAl := fun (W : World) => allOf_any n va cap0 W hn
  generalize 2 ^ min n 64 - 1 = Al at *
  generalize M &&& Al = M' at *
  go_enter Try.func12, Try.ntmps12
  go_wp2_with (go_at_call 33; (with_reducible refine Calls.mono (hAl _) ?_); rintro e w2 ⟨rfl, rfl⟩)
  clear hAl
  generalize (w.alloc (.cells #[.slice va n cap0, .slice vb C.length cap] 25)) = W0 at *
  go_loopw [17] (fun t wr => ∃ k : Nat, k ≤ C.length ∧ t = .int .i64 (k : Int) ∧ Hid (clashF n M (C.drop k) = A) ∧ Hid (Has wr w.heap.size #[.slice va n cap0, .slice vb C.length cap]) ∧ Hid (Below w.heap.size w wr)) (fun t _ => C.length - (intOf t).toNat)
  case atStart => exact ⟨0, by omega, rfl, hA, B0, hb0⟩
  case round =>
    clear B0 hb0
    obtain ⟨k, hkl, rfl, hs, B, hb⟩ := hrel
    obtain ⟨_, b1, _⟩ := id B.out
    by_cases hlt : k < C.length
    · obtain ⟨g, o, rfl, hg, P⟩ := hk.resolve_left (by intro e; rw [e] at hlt; simp at hlt)
      have p0 := (hb.out.cell (p := ⟨g, _, none⟩) hg).trans (P k hlt 0 _ rfl)
      have p1 := (hb.out.cell (p := ⟨g, _, none⟩) hg).trans (P k hlt 1 _ rfl)
      have p2 := (hb.out.cell (p := ⟨g, _, none⟩) hg).trans (P k hlt 2 _ rfl)
      have p3 := (hb.out.cell (p := ⟨g, _, none⟩) hg).trans (P k hlt 3 _ rfl)
      simp only [Nat.add_zero] at p0
      have hstep := clashF_step n M C k hlt
      rw [hs.out] at hstep
      obtain ⟨r1, r2, _, _⟩ := ok k hlt
      have ra := wf64 r1
      have rb := wf64 r2
      unfold hit at hstep
      generalize C[k].a = xa at *
      generalize C[k].b = xb at *
      generalize C[k].ab = xab at *
      generalize C[k].ba = xba at *
      have t1 : (k : Int) < (C.length : Int) := by omega
      have t0 : (0 : Int) ≤ (k : Int) := by omega
      have t2 : k + 1 ≤ C.length := hlt
      clear P hk hs ok r1 r2
      have hbN : Below w.heap.size w (wr.alloc (.cells #[.int .i64 xa, .int .i64 xb, .int .i64 xab, .int .i64 xba] 49)) := hb.out.alloc hb.out.size _
      have BN := B.out.alloc (.cells #[.int .i64 xa, .int .i64 xb, .int .i64 xab, .int .i64 xba] 49)
      have hHa := fun (W : World) => hasS_any M' xa W hMl ra
      have hHb := fun (W : World) => hasS_any M' xb W hMl rb
      rw [← hN xa, ← hN xb] at hstep
      cases ea : hasN M' xa with
      | true =>
        rw [ea] at hHa
        cases eb : hasN M' xb with
        | true =>
          rw [eb] at hHb
          have hA' : A = (xa, xb, true) := by rw [hstep, ea, eb]; rfl
          subst hA'
          clear hstep
          go_wp2_with (first | (go_at_call 34; (with_reducible refine Calls.mono (hHa _) ?_); rintro e w2 ⟨rfl, rfl⟩) | (go_at_call 34; (with_reducible refine Calls.mono (hHb _) ?_); rintro e w2 ⟨rfl, rfl⟩))
          go_quiet (fail)
          go_wp2
          exact bodyPost_ret (v := .tuple #[.int .i64 xa, .int .i64 xb, .bool true]) (by simp [results, Try.results12, go_sem]) rfl ⟨rfl, bel_drewN hbN⟩
        | false =>
          rw [eb] at hHb
          have hs' : Hid (clashF n M (C.drop (k + 1)) = A) := by show _ = _; rw [hstep, ea, eb]; simp
          clear hstep
          go_wp2_with (first | (go_at_call 34; (with_reducible refine Calls.mono (hHa _) ?_); rintro e w2 ⟨rfl, rfl⟩) | (go_at_call 34; (with_reducible refine Calls.mono (hHb _) ?_); rintro e w2 ⟨rfl, rfl⟩))
          go_roundw
          case rel => exact ⟨k + 1, by omega, by go_num, hs', BN, hbN⟩
          case measure => simp [intOf]; omega
      | false =>
        rw [ea] at hHa
        clear hHb
        have hs' : Hid (clashF n M (C.drop (k + 1)) = A) := by show _ = _; rw [hstep, ea]; simp
        clear hstep
        go_wp2_with (first | (go_at_call 34; (with_reducible refine Calls.mono (hHa _) ?_); rintro e w2 ⟨rfl, rfl⟩) | (go_at_call 34; (with_reducible refine Calls.mono (hHb _) ?_); rintro e w2 ⟨rfl, rfl⟩))
        go_roundw
        case rel => exact ⟨k + 1, by omega, by go_num, hs', BN, hbN⟩
        case measure => simp [intOf]; omega

    · have t1 : ¬ (k : Int) < (C.length : Int) := by omega
      have hA' : A = (-1, -1, false) := by rw [← hs.out]; exact clashF_end n M C k (by omega)
      subst hA'
      clear hs
      go_wp2
      exact bodyPost_ret (v := .tuple #[.int .i64 (-1), .int .i64 (-1), .bool false]) (by simp [results, Try.results12, go_sem]) rfl ⟨rfl, hb.out⟩
end Go.Proofs.Ythflpnahifpdnaa
namespace Go.Proofs.Ythflpnahifpdnaa
open Go.RowKit Go.Maps Go.WideMaps
set_option linter.unusedVariables false
theorem row37 : 26 < Try.prog.types.size := of_decide_eq_true (by kernel_rfl)
theorem size37 : (Try.prog.types[26]'row37).size = 1 := by kernel_rfl
def measV (G : List Gp) (C : List Cf) (F T A : Nat) : Int × Int := if gridB G C = true then (if ((clashF G.length F C).2.2 || (clashF G.length T C).2.2) = true then (0, 60) else (thF F T (fun i => wA C A (i : Int) G 0 0) G 0 0, 0)) else (0, 70)
set_option maxRecDepth 100000 in
set_option maxHeartbeats 4000000 in
theorem measure_any (G : List Gp) (C : List Cf) (vg vc : Value) (F T A : Nat) (w : World) (hF : F < 18446744073709551616) (hT : T < 18446744073709551616) (hA : A < 18446744073709551616) (h1 : Fl 5 Gp.cs w vg G) (h2 : Fl 4 Cf.cs w vc C) (lG : G.length ≤ 2932031007317) (lC : C.length ≤ 4398046511000) (ok : ∀ (i : Nat) (h : i < C.length), C[i].ok) :
    Calls Try.prog 31 #[.agg #[vg, vc], .int .u64 (F : Int), .int .u64 (T : Int), .int .u64 (A : Int)] w fun e w' => e = .returned (.tuple #[.int .i64 (measV G C F T A).1, .int .i64 (measV G C F T A).2]) ∧ Below w.heap.size w w' := by
  have hGr := fun (W : World) (hW : Below w.heap.size w W) => grid_any G C vg vc W (h1.below hW) (h2.below hW) lG lC
  obtain ⟨va, cg, rfl, -⟩ := h1.any
  have hC1 := fun (W : World) (hW : Below w.heap.size w W) => clash_any G.length F C va cg vc W hF lG (h2.below hW) lC ok
  have hC2 := fun (W : World) (hW : Below w.heap.size w W) => clash_any G.length T C va cg vc W hT lG (h2.below hW) lC ok
  have hSt := fun (W : World) (hW : Below w.heap.size w W) => streetOf_any C (.slice va G.length cg) vc W (h2.below hW) lC ok ⟨_, _, _, rfl⟩
  have hWt := fun (gr : gridB G C = true) (mb : Nat) (W : World) (hW : Below w.heap.size w W) hm hmb => waitsFor_any G C (.slice va G.length cg) mb A W hA (h1.below hW) lG lC gr ok hm hmb
  have hTh := fun (gr : gridB G C = true) (vm : Value) (aw : Option Addr) (cw : Nat) (W : World) (hW : Below w.heap.size w W) hws => through_any G (.slice va G.length cg) vm F T (fun i => wA C A (i : Int) G 0 0) aw cw W hF hT (h1.below hW) lG (fun k hk => (grid_min gr k hk).2.2) hws
  clear h1 h2 ok
  generalize eV : measV G C F T A = M
  unfold measV at eV
  cases eg : gridB G C with
  | false =>
    rw [eg] at hGr eV
    simp at eV
    subst eV
    clear hC1 hC2 hSt hWt hTh eg
    go_enter Try.func31, Try.ntmps31
    go_wp2_with (go_at_call 36; (with_reducible refine Calls.mono (hGr _ (by exact belN1)) ?_); rintro e w1 ⟨rfl, hb1⟩; have hbM := bel_after belN1 (by simp) hb1; clear hb1)
    exact bodyPost_ret (v := .tuple #[.int .i64 0, .int .i64 70]) (by simp [results, Try.results31, go_sem]) rfl ⟨rfl, hbM⟩
  | true =>
    replace hWt := hWt eg
    replace hTh := hTh eg
    rw [eg] at hGr eV
    clear eg
    generalize clashF G.length F C = X1 at *
    generalize clashF G.length T C = X2 at *
    obtain ⟨p1, p2, p3⟩ := X1
    obtain ⟨q1, q2, q3⟩ := X2
    simp only [if_true] at *
    generalize thF F T (fun i => wA C A (i : Int) G 0 0) G 0 0 = Z at *
    go_enter Try.func31, Try.ntmps31
    go_wp2_with (go_at_call 36; (with_reducible refine Calls.mono (hGr _ (by exact belN1)) ?_); rintro e w1 ⟨rfl, hb1⟩; have B1 : Has w1 w.heap.size #[.slice va G.length cg, vc] := (Has.new w _ _ rfl).below hb1; have hbM := bel_after belN1 (by simp) hb1; clear hb1)
    have x0 : ∀ W : World, (Instr.index 74 (.agg #[.int .u64 (F : Int), .int .u64 (T : Int)]) (.int .i64 0)).run Try.prog W = .ok (.int .u64 (F : Int)) W := fun W => by first | rfl | (simp [Instr.index, go_sem, Try.underlying74, size37]; done) | (simp [Instr.index, go_sem]; rfl)
    have x1 : ∀ W : World, (Instr.index 74 (.agg #[.int .u64 (F : Int), .int .u64 (T : Int)]) (.int .i64 1)).run Try.prog W = .ok (.int .u64 (T : Int)) W := fun W => by first | rfl | (simp [Instr.index, go_sem, Try.underlying74, size37]; done) | (simp [Instr.index, go_sem]; rfl)
    go_loopw [22] (fun t wr => ∃ k : Nat, k ≤ 2 ∧ t = .int .i64 (k : Int) ∧ Hid (1 ≤ k → p3 = false) ∧ Hid (2 ≤ k → q3 = false) ∧ Hid (Has wr w.heap.size #[.slice va G.length cg, vc]) ∧ Hid (Below w.heap.size w wr)) (fun t _ => 2 - (intOf t).toNat)
    case atStart => exact ⟨0, by omega, rfl, fun h => absurd h (by omega), fun h => absurd h (by omega), B1, hbM⟩
    case round =>
      clear B1 hbM hGr
      obtain ⟨k, hk, rfl, hp, hq, B, hb⟩ := hrel
      obtain ⟨_, b1, _⟩ := id B.out
      obtain rfl | rfl | rfl : k = 0 ∨ k = 1 ∨ k = 2 := by omega
      · cases p3 with
        | true =>
          simp at eV
          subst eV
          go_wp2_with (go_at_call 12; (with_reducible refine Calls.mono (hC1 _ hb.out) ?_); rintro e w2 ⟨rfl, hb2⟩; have hbK := bel_after hb.out hb.out.size hb2; clear hb2)
          exact bodyPost_ret (v := .tuple #[.int .i64 0, .int .i64 60]) (by simp [results, Try.results31, go_sem]) rfl ⟨rfl, hbK⟩
        | false =>
          go_wp2_with (go_at_call 12; (with_reducible refine Calls.mono (hC1 _ hb.out) ?_); rintro e w2 ⟨rfl, hb2⟩; have B2 := B.out.below hb2; have hbK := bel_after hb.out hb.out.size hb2; clear hb2)
          go_roundw
          case rel => exact ⟨1, by omega, by go_num, fun _ => by first | rfl | trivial, fun h => absurd h (by omega), B2, hbK⟩
          case measure => simp [intOf]
      · have hp' := hp.out (by omega)
        subst hp'
        cases q3 with
        | true =>
          simp at eV
          subst eV
          go_wp2_with (go_at_call 12; (with_reducible refine Calls.mono (hC2 _ hb.out) ?_); rintro e w2 ⟨rfl, hb2⟩; have hbK := bel_after hb.out hb.out.size hb2; clear hb2)
          exact bodyPost_ret (v := .tuple #[.int .i64 0, .int .i64 60]) (by simp [results, Try.results31, go_sem]) rfl ⟨rfl, hbK⟩
        | false =>
          go_wp2_with (go_at_call 12; (with_reducible refine Calls.mono (hC2 _ hb.out) ?_); rintro e w2 ⟨rfl, hb2⟩; have B2 := B.out.below hb2; have hbK := bel_after hb.out hb.out.size hb2; clear hb2)
          go_roundw
          case rel => exact ⟨2, by omega, by go_num, fun _ => by first | rfl | trivial, fun _ => by first | rfl | trivial, B2, hbK⟩
          case measure => simp [intOf]
      · have hp' := hp.out (by omega)
        have hq' := hq.out (by omega)
        subst hp' hq'
        simp at eV
        subst eV
        go_wp2_with (go_at_call 42; (with_reducible refine Calls.mono (hSt _ hb.out) ?_); rintro e w2 ⟨⟨mb, rfl, hm, hm1, hm2⟩, hb2⟩; have hbK := bel_after hb.out hb.out.size hb2; clear hb2)
        have K0 : Has (w2.alloc (.cells #[.slice va G.length cg, .map (some mb)] 77)) w2.heap.size #[.slice va G.length cg, .map (some mb)] := Has.new _ _ _ rfl
        have hm3 := (hm.alloc (.cells #[.slice va G.length cg, .map (some mb)] 77)).drew
        have hbL : Below w.heap.size w (w2.alloc (.cells #[.slice va G.length cg, .map (some mb)] 77)) := hbK.alloc hbK.size _
        have z3 : mb < (w2.alloc (.cells #[.slice va G.length cg, .map (some mb)] 77)).heap.size := by simp; omega
        generalize (w2.alloc (.cells #[.slice va G.length cg, .map (some mb)] 77)) = W3 at *
        have K0d := K0.drew
        have hbLd := hbL.drew
        go_region_held3 (fun w' => w'.cell? ⟨w2.heap.size, 0, none⟩ = some (.slice va G.length cg) ∧ w'.cell? ⟨w2.heap.size, 1, none⟩ = some (.map (some mb))) (first | with_reducible exact has2b K0d | with_reducible exact has2b K4 | with_reducible exact has2b K5 | with_reducible exact has2b K0) (first
          | (go_at_call 44; (refine Calls.mono (hWt mb _ hbLd hm3 (by exact z3)) ?_); rintro e w4 ⟨⟨aw, cw, rfl, hws⟩, hb4⟩; have K4 := K0d.below hb4; have hbN := bel_after hbLd hbLd.size hb4; clear hb4)
          | (go_at_call 43; (with_reducible refine Calls.mono (hTh _ aw cw _ hbN (hws.imp id (fun ⟨gw, h1, h2, h3⟩ => ⟨gw, h1, h2, h3⟩))) ?_); rintro e w5 ⟨rfl, hb5⟩; have K5 := K4.below hb5; have hbO := bel_after hbN hbN.size hb5; clear hb5))
        go_wp2
        exact bodyPost_ret (v := .tuple #[.int .i64 Z, .int .i64 0]) (by simp [results, Try.results31, go_sem]) rfl ⟨rfl, hbO⟩
end Go.Proofs.Ythflpnahifpdnaa
namespace Go.Proofs.Ythflpnahifpdnaa
open Go.RowKit Go.Maps Go.WideMaps
set_option linter.unusedVariables false
/-- Both ways to answer. -/
theorem meas_span (G : List Gp) (C : List Cf) (F T A : Nat) (all : Bool) (h : gridB G C = true → ∀ k, k < G.length → hasN A (k : Int) = (all || loses F T k)) : measV G C F T A = spanV G C F T all := by
  unfold measV spanV
  cases eg : gridB G C with
  | false => rfl
  | true =>
    have hw : ∀ k, k < G.length → wA C A (k : Int) G 0 0 = wF C F T all (k : Int) G 0 0 := fun k hk => (wF_wA C F T A all (k : Int) G 0 0 (fun j _ hj => h eg j (by omega))).symm
    have e := thF_mvF (ws := fun i => wA C A (i : Int) G 0 0) eg hw (fun k hk => (wA_max C A (k : Int) G 0 0).1) G.length 0 0 (by omega) (by omega)
    simp only [List.drop_zero] at e
    rw [e]
set_option maxRecDepth 100000 in
set_option maxHeartbeats 4000000 in
theorem span_any (G : List Gp) (C : List Cf) (vg vc : Value) (F T : Nat) (w : World) (hF : F < 18446744073709551616) (hT : T < 18446744073709551616) (h1 : Fl 5 Gp.cs w vg G) (h2 : Fl 4 Cf.cs w vc C) (lG : G.length ≤ 2932031007317) (lC : C.length ≤ 4398046511000) (ok : ∀ (i : Nat) (h : i < C.length), C[i].ok) :
    Calls Try.prog 10 #[.agg #[vg, vc], .int .u64 (F : Int), .int .u64 (T : Int)] w fun e w' => e = .returned (.tuple #[.int .i64 (spanV G C F T false).1, .int .i64 (spanV G C F T false).2]) ∧ Below w.heap.size w w' := by
  have hM : bits .andNot .u64 (F : Int) (T : Int) = ((F &&& (18446744073709551615 - T) : Nat) : Int) := u64_andNot_nat F T hF hT
  have hMl : F &&& (18446744073709551615 - T) < 18446744073709551616 := Nat.lt_of_le_of_lt Nat.and_le_left hF
  have eS := meas_span G C F T (F &&& (18446744073709551615 - T)) false (fun _ k _ => by rw [hasN_andNot F T (k : Int) hT]; rfl)
  have hMe := fun (W : World) (hW : Below w.heap.size w W) => measure_any G C vg vc F T (F &&& (18446744073709551615 - T)) W hF hT hMl (h1.below hW) (h2.below hW) lG lC ok
  rw [eS] at hMe
  generalize F &&& (18446744073709551615 - T) = D at *
  generalize spanV G C F T false = S at *
  clear eS h1 h2 ok
  go_enter Try.func10, Try.ntmps10
  go_wp2_with (go_at_call 31; (with_reducible refine Calls.mono (hMe _ (by exact belN1)) ?_); rintro e w1 ⟨rfl, hb1⟩; have hbM := bel_after belN1 (by simp) hb1; clear hb1)
  exact bodyPost_ret (v := .tuple #[.int .i64 S.1, .int .i64 S.2]) (by simp [results, Try.results10, go_sem]) rfl ⟨rfl, hbM⟩
set_option maxRecDepth 100000 in
set_option maxHeartbeats 4000000 in
theorem longest_any (G : List Gp) (C : List Cf) (vg vc : Value) (F T : Nat) (w : World) (hF : F < 18446744073709551616) (hT : T < 18446744073709551616) (h1 : Fl 5 Gp.cs w vg G) (h2 : Fl 4 Cf.cs w vc C) (lG : G.length ≤ 2932031007317) (lC : C.length ≤ 4398046511000) (ok : ∀ (i : Nat) (h : i < C.length), C[i].ok) :
    Calls Try.prog 17 #[.agg #[vg, vc], .int .u64 (F : Int), .int .u64 (T : Int)] w fun e w' => e = .returned (.tuple #[.int .i64 (spanV G C F T true).1, .int .i64 (spanV G C F T true).2]) ∧ Below w.heap.size w w' := by
  have eS := meas_span G C F T (2 ^ min G.length 64 - 1) true (fun gr k hk => by
    have h64 : G.length ≤ 64 := by simp [gridB] at gr; exact gr.1
    have e : min G.length 64 = G.length := by omega
    simp only [hasN, Nat.testBit_two_pow_sub_one, Bool.true_or, e]
    simp; omega)
  have hMe := fun (W : World) (hW : Below w.heap.size w W) => measure_any G C vg vc F T (2 ^ min G.length 64 - 1) W hF hT (allOf_lt _) (h1.below hW) (h2.below hW) lG lC ok
  rw [eS] at hMe
  obtain ⟨va, cg, rfl, -⟩ := h1.any
  have hAl := fun (W : World) => allOf_any G.length va cg W lG
  generalize 2 ^ min G.length 64 - 1 = D at *
  generalize spanV G C F T true = S at *
  clear eS h1 h2 ok
  go_enter Try.func17, Try.ntmps17
  go_wp2
  have K0 : Has (w.alloc (.cells #[.slice va G.length cg, vc] 25)) w.heap.size #[.slice va G.length cg, vc] := Has.new _ _ _ rfl
  have hb0 : Below w.heap.size w (w.alloc (.cells #[.slice va G.length cg, vc] 25)) := belN1
  generalize (w.alloc (.cells #[.slice va G.length cg, vc] 25)) = W0 at *
  have hbd := hb0.drew
  go_region_held3 (fun w' => w'.cell? ⟨w.heap.size, 0, none⟩ = some (.slice va G.length cg) ∧ w'.cell? ⟨w.heap.size, 1, none⟩ = some vc) (first | with_reducible exact has2b K0.drew | with_reducible exact has2b K1 | with_reducible exact has2b K0) (first
    | (go_at_call 33; (with_reducible refine Calls.mono (hAl _) ?_); rintro e w1 ⟨rfl, rfl⟩)
    | (go_at_call 31; (with_reducible refine Calls.mono (hMe _ hbd) ?_); rintro e w2 ⟨rfl, hb2⟩; have K1 := K0.drew.below hb2; have hbM := bel_after hbd hbd.size hb2; clear hb2))
  go_wp2
  exact bodyPost_ret (v := .tuple #[.int .i64 S.1, .int .i64 S.2]) (by simp [results, Try.results17, go_sem]) rfl ⟨rfl, hbM⟩
end Go.Proofs.Ythflpnahifpdnaa
namespace Go.Proofs.Ythflpnahifpdnaa
open Go.RowKit
set_option linter.unusedVariables false

def aG : List Gp := [⟨⟨#[]⟩, 1, 5, 3, 1⟩, ⟨⟨#[]⟩, 1, 6, 4, 0⟩]
def aC : List Cf := [⟨0, 1, 7, 4⟩]
theorem a_clash : clashF 2 3 aC = (0, 1, true) := by decide +kernel
theorem a_span : spanV aG aC 1 2 false = (8, 0) := by decide +kernel
theorem a_long : spanV aG aC 2 1 true = (6, 0) := by decide +kernel
theorem a_hold : holdV aG aC 2 1 = (5, 0) := by decide +kernel
set_option maxRecDepth 100000 in
set_option maxHeartbeats 4000000 in
theorem alive_any (w : World) : Calls Try.prog 9 #[] w fun e w' => e = .returned (.bool true) ∧ Below w.heap.size w w' := by
  have hb0 : Below w.heap.size w (((w.alloc (.cells #[.string ⟨#[]⟩, .int .i64 1, .int .i64 5, .int .i64 3, .int .i64 1, .string ⟨#[]⟩, .int .i64 1, .int .i64 6, .int .i64 4, .int .i64 0] 58)).alloc (.cells #[.int .i64 0, .int .i64 1, .int .i64 7, .int .i64 4] 49)).alloc (.cells #[.slice (some ⟨w.heap.size, 0, none⟩) 2 2, .slice (some ⟨w.heap.size + 1, 0, none⟩) 1 1] 25)) := (((Below.refl _ _).alloc (Nat.le_refl _) _).alloc (by simp) _).alloc (by simp; omega) _
  have B0 : Has (((w.alloc (.cells #[.string ⟨#[]⟩, .int .i64 1, .int .i64 5, .int .i64 3, .int .i64 1, .string ⟨#[]⟩, .int .i64 1, .int .i64 6, .int .i64 4, .int .i64 0] 58)).alloc (.cells #[.int .i64 0, .int .i64 1, .int .i64 7, .int .i64 4] 49)).alloc (.cells #[.slice (some ⟨w.heap.size, 0, none⟩) 2 2, .slice (some ⟨w.heap.size + 1, 0, none⟩) 1 1] 25)) (w.heap.size + 1 + 1) #[.slice (some ⟨w.heap.size, 0, none⟩) 2 2, .slice (some ⟨w.heap.size + 1, 0, none⟩) 1 1] := Has.new _ _ _ (by simp)
  have HG : Has (((w.alloc (.cells #[.string ⟨#[]⟩, .int .i64 1, .int .i64 5, .int .i64 3, .int .i64 1, .string ⟨#[]⟩, .int .i64 1, .int .i64 6, .int .i64 4, .int .i64 0] 58)).alloc (.cells #[.int .i64 0, .int .i64 1, .int .i64 7, .int .i64 4] 49)).alloc (.cells #[.slice (some ⟨w.heap.size, 0, none⟩) 2 2, .slice (some ⟨w.heap.size + 1, 0, none⟩) 1 1] 25)) w.heap.size #[.string ⟨#[]⟩, .int .i64 1, .int .i64 5, .int .i64 3, .int .i64 1, .string ⟨#[]⟩, .int .i64 1, .int .i64 6, .int .i64 4, .int .i64 0] := ((Has.new _ _ _ rfl).alloc _).alloc _
  have HC : Has (((w.alloc (.cells #[.string ⟨#[]⟩, .int .i64 1, .int .i64 5, .int .i64 3, .int .i64 1, .string ⟨#[]⟩, .int .i64 1, .int .i64 6, .int .i64 4, .int .i64 0] 58)).alloc (.cells #[.int .i64 0, .int .i64 1, .int .i64 7, .int .i64 4] 49)).alloc (.cells #[.slice (some ⟨w.heap.size, 0, none⟩) 2 2, .slice (some ⟨w.heap.size + 1, 0, none⟩) 1 1] 25)) (w.heap.size + 1) #[.int .i64 0, .int .i64 1, .int .i64 7, .int .i64 4] := (Has.new _ _ _ (by simp)).alloc _
  have fG : Fl 5 Gp.cs (((w.alloc (.cells #[.string ⟨#[]⟩, .int .i64 1, .int .i64 5, .int .i64 3, .int .i64 1, .string ⟨#[]⟩, .int .i64 1, .int .i64 6, .int .i64 4, .int .i64 0] 58)).alloc (.cells #[.int .i64 0, .int .i64 1, .int .i64 7, .int .i64 4] 49)).alloc (.cells #[.slice (some ⟨w.heap.size, 0, none⟩) 2 2, .slice (some ⟨w.heap.size + 1, 0, none⟩) 1 1] 25)) (.slice (some ⟨w.heap.size, 0, none⟩) 2 2) aG := .inr ⟨⟨w.heap.size, 0, none⟩, 2, rfl, Nat.le_refl _, .inr ⟨rfl, HG.1, fun i hi j u hu => by
    have hj : j < 5 := by
      have := (List.getElem?_eq_some_iff.1 hu).1
      rwa [gp_len] at this
    rw [HG.2.1, ← hu]
    rcases (show i = 0 ∨ i = 1 by have : i < 2 := hi; omega) with rfl | rfl <;> rcases (show j = 0 ∨ j = 1 ∨ j = 2 ∨ j = 3 ∨ j = 4 by omega) with rfl | rfl | rfl | rfl | rfl <;> rfl⟩⟩
  have fC : Fl 4 Cf.cs (((w.alloc (.cells #[.string ⟨#[]⟩, .int .i64 1, .int .i64 5, .int .i64 3, .int .i64 1, .string ⟨#[]⟩, .int .i64 1, .int .i64 6, .int .i64 4, .int .i64 0] 58)).alloc (.cells #[.int .i64 0, .int .i64 1, .int .i64 7, .int .i64 4] 49)).alloc (.cells #[.slice (some ⟨w.heap.size, 0, none⟩) 2 2, .slice (some ⟨w.heap.size + 1, 0, none⟩) 1 1] 25)) (.slice (some ⟨w.heap.size + 1, 0, none⟩) 1 1) aC := .inr ⟨⟨w.heap.size + 1, 0, none⟩, 1, rfl, Nat.le_refl _, .inr ⟨rfl, HC.1, fun i hi j u hu => by
    have hj : j < 4 := by
      have := (List.getElem?_eq_some_iff.1 hu).1
      rwa [cf_len] at this
    rw [HC.2.1, ← hu]
    obtain rfl : i = 0 := by have : i < 1 := hi; omega
    rcases (show j = 0 ∨ j = 1 ∨ j = 2 ∨ j = 3 by omega) with rfl | rfl | rfl | rfl <;> rfl⟩⟩
  have ok : ∀ (i : Nat) (h : i < aC.length), aC[i].ok := fun i h => by
    obtain rfl : i = 0 := by have : i < 1 := h; omega
    show Cf.ok ⟨0, 1, 7, 4⟩
    exact ⟨by decide, by decide, by decide, by decide⟩
  go_enter Try.func9, Try.ntmps9
  go_upto_region 2 with fail
  generalize (((w.alloc (.cells #[.string ⟨#[]⟩, .int .i64 1, .int .i64 5, .int .i64 3, .int .i64 1, .string ⟨#[]⟩, .int .i64 1, .int .i64 6, .int .i64 4, .int .i64 0] 58)).alloc (.cells #[.int .i64 0, .int .i64 1, .int .i64 7, .int .i64 4] 49)).alloc (.cells #[.slice (some ⟨w.heap.size, 0, none⟩) 2 2, .slice (some ⟨w.heap.size + 1, 0, none⟩) 1 1] 25)) = W at *
  have c1 := fun (V : World) (hV : Below W.heap.size W V) => clash_any 2 3 aC (some ⟨w.heap.size, 0, none⟩) 2 _ V (by decide) (by decide) (fC.below hV) (by decide) ok
  have c2 := fun (V : World) (hV : Below W.heap.size W V) => span_any aG aC _ _ 1 2 V (by decide) (by decide) (fG.below hV) (fC.below hV) (by decide) (by decide) ok
  have c3 := fun (V : World) (hV : Below W.heap.size W V) => longest_any aG aC _ _ 2 1 V (by decide) (by decide) (fG.below hV) (fC.below hV) (by decide) (by decide) ok
  have c4 := fun (V : World) (hV : Below W.heap.size W V) => hold_any aG aC _ _ 2 1 V (by decide) (by decide) (fG.below hV) (fC.below hV) (by decide) (by decide)
  rw [a_clash] at c1
  rw [a_span] at c2
  rw [a_long] at c3
  rw [a_hold] at c4
  have k0 := B0.2.1 0
  have k1 := B0.2.1 1
  have d1 := c1 W (Below.refl _ _)
  clear c1
  go_upto_region 3 with (go_at_call 12; (with_reducible refine Calls.mono d1 ?_); rintro e w1 ⟨rfl, hE1⟩)
  have d2 := c2 w1 hE1
  have B1 := B0.below hE1
  have k0 := B1.2.1 0
  have k1 := B1.2.1 1
  go_upto_region 4 with (go_at_call 10; (with_reducible refine Calls.mono d2 ?_); rintro e w2 ⟨rfl, hE2⟩)
  have hE2' := hE1.trans (hE2.mono hE1.size)
  have d3 := c3 w2 hE2'
  have B2 := B0.below hE2'
  have k0 := B2.2.1 0
  have k1 := B2.2.1 1
  go_upto_region 5 with (go_at_call 17; (with_reducible refine Calls.mono d3 ?_); rintro e w3 ⟨rfl, hE3⟩)
  have hE3' := hE2'.trans (hE3.mono hE2'.size)
  have d4 := c4 w3 hE3'
  have B3 := B0.below hE3'
  have k0 := B3.2.1 0
  have k1 := B3.2.1 1
  go_wp2_with (go_at_call 18; (with_reducible refine Calls.mono d4 ?_); rintro e w4 ⟨rfl, hE4⟩)
  have hE4' := hE3'.trans (hE4.mono hE3'.size)
  go_ret
  exact ⟨rfl, hb0.trans (hE4'.mono hb0.size)⟩
end Go.Proofs.Ythflpnahifpdnaa
