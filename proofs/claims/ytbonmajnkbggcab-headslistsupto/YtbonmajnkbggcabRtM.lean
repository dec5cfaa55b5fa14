import Derived.Test.YtbonmajnkbggcabRtA
import Derived.Test.YtbonmajnkbggcabSpG
namespace Go.Proofs.Ytbonmajnkbggcab
open Go.RowKit
set_option linter.unusedVariables false


theorem ord_trans {c d e : Cf} (h1 : ordB c d = true) (h2 : ordB d e = true) : ordB c e = true := by
  unfold ordB at *
  simp only [Bool.or_eq_true, Bool.and_eq_true, decide_eq_true_eq] at *
  omega
theorem rows_pw {n : Nat} : ∀ {C : List Cf} {p : Option Cf}, rowsB n p C = true → (∀ d, p = some d → ∀ c ∈ C, ordB d c = true) ∧ C.Pairwise (fun c d => ordB c d = true) := by
  intro C
  induction C with
  | nil => intro p h; exact ⟨fun _ _ c hc => (by cases hc), List.Pairwise.nil⟩
  | cons x C ih =>
    intro p h
    unfold rowsB at h
    simp only [Bool.and_eq_true] at h
    obtain ⟨i1, i2⟩ := ih h.2
    refine ⟨fun d hd c hc => ?_, List.pairwise_cons.2 ⟨fun c hc => i1 x rfl c hc, i2⟩⟩
    subst hd
    have hx : ordB d x = true := h.1.2
    rcases List.mem_cons.1 hc with rfl | hc
    · exact hx
    · exact ord_trans hx (i1 x rfl c hc)
theorem iv_of : ∀ {C : List Cf}, C.Pairwise (fun c d => ordB c d = true) → (∀ c ∈ C, c.a < c.b) → ∀ c ∈ C, ivF C c.a c.b = c.ab ∧ ivF C c.b c.a = c.ba := by
  intro C
  induction C with
  | nil => intro _ _ c hc; cases hc
  | cons x C ih =>
    intro hp hl c hc
    obtain ⟨p1, p2⟩ := List.pairwise_cons.1 hp
    have lx := hl x List.mem_cons_self
    have lc := hl c hc
    unfold ivF
    rcases List.mem_cons.1 hc with rfl | hc
    · refine ⟨if_pos ⟨rfl, rfl⟩, ?_⟩
      rw [if_neg (by omega), if_pos ⟨rfl, rfl⟩]
    · have ho := p1 c hc
      unfold ordB at ho
      simp only [Bool.or_eq_true, Bool.and_eq_true, decide_eq_true_eq] at ho
      obtain ⟨i1, i2⟩ := ih p2 (fun d hd => hl d (List.mem_cons_of_mem _ hd)) c hc
      constructor
      · rw [if_neg (by omega), if_neg (by omega)]; exact i1
      · rw [if_neg (by omega), if_neg (by omega)]; exact i2
theorem iv_ex : ∀ {C : List Cf} {x y : Int}, 0 ≤ ivF C x y → ∃ c ∈ C, (c.a = x ∧ c.b = y ∧ ivF C x y = c.ab) ∨ (c.a = y ∧ c.b = x ∧ ivF C x y = c.ba) := by
  intro C
  induction C with
  | nil => intro x y h; simp [ivF] at h
  | cons d C ih =>
    intro x y h
    unfold ivF at h ⊢
    by_cases h1 : d.a = x ∧ d.b = y
    · rw [if_pos h1]
      exact ⟨d, List.mem_cons_self, .inl ⟨h1.1, h1.2, rfl⟩⟩
    · rw [if_neg h1] at h ⊢
      by_cases h2 : d.a = y ∧ d.b = x
      · rw [if_pos h2]
        exact ⟨d, List.mem_cons_self, .inr ⟨h2.1, h2.2, rfl⟩⟩
      · rw [if_neg h2] at h ⊢
        obtain ⟨c, hc, h3⟩ := ih h
        exact ⟨c, List.mem_cons_of_mem _ hc, h3⟩
theorem and_zero {a b : Nat} : a &&& b = 0 ↔ ∀ j, ¬ (a.testBit j = true ∧ b.testBit j = true) := by
  constructor
  · intro h j hj
    have : (a &&& b).testBit j = true := by rw [Nat.testBit_and, hj.1, hj.2]; rfl
    rw [h] at this
    simp at this
  · intro h
    apply Nat.eq_of_testBit_eq
    intro j
    rw [Nat.testBit_and, Nat.zero_testBit]
    cases ha : a.testBit j with
    | false => rfl
    | true =>
      cases hb : b.testBit j with
      | false => rfl
      | true => exact absurd ⟨ha, hb⟩ (h j)
theorem free_eq {G : List Gp} {C : List Cf} {W : List Int} {f : Nat → Int} {k : Nat} (hg : gridB G C = true) (hk : k < G.length) : (!(heldM W C C.length).testBit k && decide (foM C k C.length &&& litM f G.length = 0)) = freeB C W f G.length k := by
  have hg' := hg
  unfold gridB at hg'
  simp only [Bool.and_eq_true] at hg'
  obtain ⟨_, hpw⟩ := rows_pw hg'.2.2
  have hcf : ∀ c ∈ C, 0 ≤ c.a ∧ c.a < c.b ∧ c.b < (G.length : Int) ∧ 0 ≤ c.ab ∧ 0 ≤ c.ba := by
    intro c hc
    obtain ⟨i, hi, e⟩ := List.getElem_of_mem hc
    have := grid_cf hg i hi
    rw [e] at this
    exact ⟨this.1, this.2.1, this.2.2.1, this.2.2.2.1.1, this.2.2.2.2.1⟩
  have hiv := iv_of hpw (fun c hc => (hcf c hc).2.1)
  have hne : ∀ (k : Nat) (hk : k < C.length), C[k].a.toNat ≠ C[k].b.toNat := fun i hi => by have := hcf C[i] (List.getElem_mem hi); omega
  rw [heldM_bit W C k C.length (Nat.le_refl _), List.take_length]
  apply Bool.eq_iff_iff.2
  rw [Bool.and_eq_true, decide_eq_true_eq, Bool.not_eq_true', List.any_eq_false, and_zero]
  unfold freeB
  rw [List.all_eq_true]
  constructor
  · rintro ⟨h1, h2⟩ o ho
    have ho' : o < G.length := by simpa using ho
    unfold okO
    rw [Bool.not_eq_true', Bool.and_eq_false_iff, decide_eq_false_iff_not, Bool.or_eq_false_iff, decide_eq_false_iff_not, decide_eq_false_iff_not]
    by_cases hv : 0 ≤ ivF C (o : Int) (k : Int)
    · right
      obtain ⟨c, hc, hh⟩ := iv_ex hv
      have hb := hcf c hc
      have h1c := h1 c hc
      have h2c := h2 o
      rw [foM_bit k o hne C.length (Nat.le_refl _), List.take_length, litM_bit, List.any_eq_true] at h2c
      unfold holds at h1c
      simp only [Bool.or_eq_true, Bool.and_eq_true, decide_eq_true_eq] at h1c
      unfold atI at h1c
      have hfo : f o = 0 := by
        refine Classical.byContradiction fun hf => h2c ⟨⟨c, hc, ?_⟩, by simp [ho', hf]⟩
        unfold pairB
        simp only [Bool.or_eq_true, Bool.and_eq_true, decide_eq_true_eq]
        omega
      refine ⟨fun h => h hfo, fun h => h1c ?_⟩
      rcases hh with ⟨e1, e2, e3⟩ | ⟨e1, e2, e3⟩
      · left
        have : c.a.toNat = o := by omega
        rw [this]
        exact ⟨by omega, by omega⟩
      · right
        have : c.b.toNat = o := by omega
        rw [this]
        exact ⟨by omega, by omega⟩
    · left; exact hv
  · intro h
    have hok : ∀ o, o < G.length → 0 ≤ ivF C (o : Int) (k : Int) → f o = 0 ∧ ¬ W.getD o 0 < ivF C (o : Int) (k : Int) := by
      intro o ho hv
      have := h o (by simpa using ho)
      unfold okO at this
      rw [Bool.not_eq_true', Bool.and_eq_false_iff, decide_eq_false_iff_not, Bool.or_eq_false_iff, decide_eq_false_iff_not, decide_eq_false_iff_not] at this
      rcases this with h' | h'
      · exact absurd hv h'
      · exact ⟨Classical.byContradiction fun hf => h'.1 hf, h'.2⟩
    constructor
    · intro c hc hh
      have hb := hcf c hc
      obtain ⟨v1, v2⟩ := hiv c hc
      unfold holds at hh
      simp only [Bool.or_eq_true, Bool.and_eq_true, decide_eq_true_eq] at hh
      unfold atI at hh
      rcases hh with ⟨q1, q2⟩ | ⟨q1, q2⟩
      · have e1 : ((c.a.toNat : Nat) : Int) = c.a := by omega
        have e2 : (k : Int) = c.b := by omega
        have := hok c.a.toNat (by omega) (by rw [e1, e2, v1]; omega)
        rw [e1, e2, v1] at this
        exact this.2 q1
      · have e1 : ((c.b.toNat : Nat) : Int) = c.b := by omega
        have e2 : (k : Int) = c.a := by omega
        have := hok c.b.toNat (by omega) (by rw [e1, e2, v2]; omega)
        rw [e1, e2, v2] at this
        exact this.2 q1
    · rintro j ⟨h1, h2⟩
      rw [foM_bit k j hne C.length (Nat.le_refl _), List.take_length, List.any_eq_true] at h1
      rw [litM_bit] at h2
      simp only [Bool.and_eq_true, decide_eq_true_eq] at h2
      obtain ⟨c, hc, hp⟩ := h1
      have hb := hcf c hc
      obtain ⟨v1, v2⟩ := hiv c hc
      unfold pairB at hp
      simp only [Bool.or_eq_true, Bool.and_eq_true, decide_eq_true_eq] at hp
      rcases hp with ⟨q1, q2⟩ | ⟨q1, q2⟩
      · have e1 : (j : Int) = c.b := by omega
        have e2 : (k : Int) = c.a := by omega
        exact h2.2 (hok j h2.1 (by rw [e1, e2, v2]; omega)).1
      · have e1 : (j : Int) = c.a := by omega
        have e2 : (k : Int) = c.b := by omega
        exact h2.2 (hok j h2.1 (by rw [e1, e2, v1]; omega)).1
theorem start_eq {G : List Gp} {C : List Cf} {A W : List Int} {M : Nat} {f : Nat → Int} {k : Nat} (hg : gridB G C = true) (hk : k < G.length) : startB C A W M G.length f k = (decide (A.getD k 0 = 0) && (M.testBit k && freeB C W f G.length k)) := by
  unfold startB
  rw [free_eq hg hk]
end Go.Proofs.Ytbonmajnkbggcab
