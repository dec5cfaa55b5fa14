import Derived.Test.YthflpnahifpdnaaStU
namespace Go.Proofs.Ythflpnahifpdnaa
open Go.RowKit
set_option linter.unusedVariables false

theorem and_zero {a b : Nat} : a &&& b = 0 ↔ ∀ j, ¬ (a.testBit j = true ∧ b.testBit j = true) := by
  constructor
  · intro h j hj
    have : (a &&& b).testBit j = true := by rw [Nat.testBit_and, hj.1, hj.2]; rfl
    rw [h] at this
    simp at this
  · intro h
    apply Nat.eq_of_testBit_eq
    intro j
    rw [Nat.testBit_and, Nat.zero_testBit]
    cases ha : a.testBit j with
    | false => rfl
    | true =>
      cases hb : b.testBit j with
      | false => rfl
      | true => exact absurd ⟨ha, hb⟩ (h j)


theorem fitsF_get {G : List Gp} {A I W : List Int} (h : fitsF G A I W = true) (h1 : A.length = G.length) (h2 : I.length = G.length) (h3 : W.length = G.length) (k : Nat) (hk : k < G.length) : fitB G[k] (A[k]'(by omega)) (I[k]'(by omega)) (W[k]'(by omega)) = true := by
  have hd : ∀ m, m ≤ G.length → fitsF (G.drop m) (A.drop m) (I.drop m) (W.drop m) = true := by
    intro m
    induction m with
    | zero => intro _; simpa using h
    | succ m ih =>
      intro hm
      have := ih (by omega)
      rw [fitsF_step G A I W m (by omega) (by omega) (by omega) (by omega)] at this
      simp only [Bool.and_eq_true] at this
      exact this.2
  have := hd k (by omega)
  rw [fitsF_step G A I W k (by omega) (by omega) (by omega) (by omega)] at this
  simp only [Bool.and_eq_true] at this
  exact this.1
theorem fitsF_of {G : List Gp} {A I W : List Int} (h1 : A.length = G.length) (h2 : I.length = G.length) (h3 : W.length = G.length) (h : ∀ k (hk : k < G.length), fitB G[k] (A[k]'(by omega)) (I[k]'(by omega)) (W[k]'(by omega)) = true) : fitsF G A I W = true := by
  have hd : ∀ m, m ≤ G.length → fitsF (G.drop (G.length - m)) (A.drop (G.length - m)) (I.drop (G.length - m)) (W.drop (G.length - m)) = true := by
    intro m
    induction m with
    | zero => intro _; exact fitsF_end G A I W _ (by omega)
    | succ m ih =>
      intro hm
      rw [fitsF_step G A I W (G.length - (m + 1)) (by omega) (by omega) (by omega) (by omega), h _ (by omega), show G.length - (m + 1) + 1 = G.length - m by omega, ih (by omega)]
      rfl
  have := hd G.length (Nat.le_refl _)
  simpa using this
theorem clearF_get {A : List Int} : ∀ {C : List Cf}, clearF A C = true → ∀ c ∈ C, atI A c.a = 0 ∨ atI A c.b = 0 := by
  intro C
  induction C with
  | nil => intro _ c hc; cases hc
  | cons d C ih =>
    intro h c hc
    unfold clearF at h
    simp only [Bool.and_eq_true, Bool.not_eq_true', Bool.and_eq_false_iff, decide_eq_false_iff_not, Classical.not_not] at h
    rcases List.mem_cons.1 hc with rfl | hc
    · exact h.1
    · exact ih h.2 c hc
theorem clearF_of {A : List Int} : ∀ {C : List Cf}, (∀ c ∈ C, atI A c.a = 0 ∨ atI A c.b = 0) → clearF A C = true := by
  intro C
  induction C with
  | nil => intro _; rfl
  | cons d C ih =>
    intro h
    unfold clearF
    rw [ih (fun c hc => h c (List.mem_cons_of_mem _ hc)), Bool.and_true]
    rcases h d List.mem_cons_self with h | h <;> simp [h]
theorem up_rng {x : Int} (h : inI32 x) (h0 : 0 ≤ x) : 1 ≤ upF x ∧ upF x ≤ 2147483647 ∧ (x < 2147483647 → upF x = x + 1) := by
  unfold inI32 at h
  unfold upF
  by_cases e : x = 2147483647
  · rw [if_pos e]; omega
  · rw [if_neg e, if_neg (by omega)]; omega
/-- What a group shows next: by itself, or it starts. -/
theorem beg_at {G : List Gp} {C : List Cf} {A W : List Int} {M : Nat} {f0 : Nat → Int} (j : Nat) : ∀ m, begF G C A W M f0 m j = f0 j ∨ (A.getD j 0 = 0 ∧ begF G C A W M f0 m j = firstF (G.getD j gp0)) := by
  intro m
  induction m with
  | zero => exact .inl rfl
  | succ m ih =>
    unfold begF
    by_cases hs : startB C A W M G.length (begF G C A W M f0 m) m = true
    · rw [if_pos hs]
      unfold updF
      by_cases e : j = m
      · subst e
        rw [if_pos rfl]
        unfold startB at hs
        simp only [Bool.and_eq_true, decide_eq_true_eq] at hs
        exact .inr ⟨hs.1, rfl⟩
      · rw [if_neg e]; exact ih
    · rw [if_neg hs]; exact ih
theorem beg_clear {G : List Gp} {C : List Cf} {A W : List Int} {M : Nat} {f0 : Nat → Int} (hg : gridB G C = true) (h0 : ∀ c ∈ C, f0 c.a.toNat = 0 ∨ f0 c.b.toNat = 0) : ∀ m, m ≤ G.length → ∀ c ∈ C, begF G C A W M f0 m c.a.toNat = 0 ∨ begF G C A W M f0 m c.b.toNat = 0 := by
  have hcf : ∀ c ∈ C, 0 ≤ c.a ∧ c.a < c.b ∧ c.b < (G.length : Int) := by
    intro c hc
    obtain ⟨i, hi, e⟩ := List.getElem_of_mem hc
    have := grid_cf hg i hi
    rw [e] at this
    exact ⟨this.1, this.2.1, this.2.2.1⟩
  have hne : ∀ (k : Nat) (hk : k < C.length), C[k].a.toNat ≠ C[k].b.toNat := fun i hi => by have := hcf C[i] (List.getElem_mem hi); omega
  intro m
  induction m with
  | zero => intro _; exact h0
  | succ m ih =>
    intro hm c hc
    have ihc := ih (by omega) c hc
    have hb := hcf c hc
    unfold begF
    by_cases hs : startB C A W M G.length (begF G C A W M f0 m) m = true
    · rw [if_pos hs]
      unfold startB at hs
      simp only [Bool.and_eq_true, decide_eq_true_eq] at hs
      have hz := and_zero.1 hs.2.2.2
      have key : ∀ j, j < G.length → pairB m j c = true → begF G C A W M f0 m j = 0 := by
        intro j hj hp
        have := hz j
        rw [foM_bit m j hne C.length (Nat.le_refl _), List.take_length, litM_bit, List.any_eq_true] at this
        refine Classical.byContradiction fun hf => this ⟨⟨c, hc, hp⟩, by simp [hj, hf]⟩
      unfold updF
      by_cases e1 : c.a.toNat = m
      · right
        rw [if_neg (by omega)]
        refine key _ (by omega) ?_
        unfold pairB
        simp [e1]
      · by_cases e2 : c.b.toNat = m
        · left
          rw [if_neg e1]
          refine key _ (by omega) ?_
          unfold pairB
          simp [e2]
        · rw [if_neg e1, if_neg e2]; exact ihc
    · rw [if_neg hs]; exact ihc
theorem alone_red {g : Gp} {i : Int} {b : Bool} : aloneF g 0 i b = 0 := by unfold aloneF; simp
theorem lst_get {n : Nat} {f : Nat → Int} {k : Nat} (h : k < (lst64 n f).length) : (lst64 n f)[k] = f k := by simp [lst64]
theorem lst_getD {n : Nat} {f : Nat → Int} {k : Nat} (h : k < n) : (lst64 n f).getD k 0 = f k := by simp [lst64, List.getD_eq_getElem?_getD, h]
/-- One group. -/
theorem fit_next {g : Gp} {a i w v : Int} {b : Bool} (h : fitB g a i w = true) (hi : inI32 i) (hw : inI32 w) (hv : v = aloneF g a i b ∨ (a = 0 ∧ v = firstF g)) (hl : g.lead ≤ 60) (ha : g.amber ≤ 60) : fitB g v (if v = a then upF i else 1) (if v = 2 then 0 else upF w) = true := by
  unfold fitB at h
  simp only [Bool.and_eq_true, Bool.or_eq_true, decide_eq_true_eq, beq_iff_eq, decide_eq_decide] at h
  obtain ⟨h1, h2, h3, h4⟩ := h
  have ui := up_rng hi (by omega)
  have uw := up_rng hw (by omega)
  unfold inI32 at hi
  have key : ∀ x y z : Int, 1 ≤ y → 0 ≤ z → (x = 2 ↔ z = 0) → (x = 0 ∨ x = 2 ∨ (x = 1 ∧ y ≤ g.lead) ∨ (x = 3 ∧ y ≤ g.amber)) → fitB g x y z = true := by
    intro x y z q1 q2 q3 q4
    unfold fitB
    simp only [Bool.and_eq_true, Bool.or_eq_true, decide_eq_true_eq, beq_iff_eq, decide_eq_decide]
    exact ⟨q1, q2, q3, q4⟩
  have hvv : v = 0 ∨ v = 2 ∨ (v = 1 ∧ ((a = 1 ∧ i < g.lead) ∨ (a = 0 ∧ 0 < g.lead))) ∨ (v = 3 ∧ ((a = 3 ∧ i < g.amber) ∨ (a = 2 ∧ 0 < g.amber))) := by
    rcases hv with hv | ⟨e, hv⟩
    · unfold aloneF at hv
      by_cases c1 : a = 2
      · rw [if_pos c1] at hv
        split at hv
        · omega
        · split at hv
          · omega
          · split at hv <;> omega
      · rw [if_neg c1] at hv
        split at hv
        · split at hv <;> omega
        · split at hv
          · split at hv <;> omega
          · omega
    · unfold firstF at hv
      split at hv <;> omega
  apply key
  · split <;> omega
  · split <;> omega
  · split
    · omega
    · omega
  · rcases hvv with e | e | ⟨e, e'⟩ | ⟨e, e'⟩
    · left; exact e
    · right; left; exact e
    · right; right; left
      refine ⟨e, ?_⟩
      split
      · rcases e' with e' | e'
        · have := ui.2.2 (by omega); omega
        · omega
      · omega
    · right; right; right
      refine ⟨e, ?_⟩
      split
      · rcases e' with e' | e'
        · have := ui.2.2 (by omega); omega
        · omega
      · omega
theorem gp_lim {g : Gp} (h : gpB g = true) : g.lead ≤ 60 ∧ g.amber ≤ 60 := by
  unfold gpB amberB at h
  simp only [Bool.and_eq_true, decide_eq_true_eq] at h
  exact ⟨h.2.2.2.2.2, h.2.2.2.1.2⟩
/-- **Sound heads stay sound.** -/
theorem fits_next {G : List Gp} {C : List Cf} {A I W : List Int} {M : Nat} (hg : gridB G C = true) (hf : fitsB G C A I W = true) (okI : ∀ x ∈ I, inI32 x) (okW : ∀ x ∈ W, inI32 x) : fitsB G C (lst64 G.length (nxF G C A I W M)) (lst64 G.length (inF A I (nxF G C A I W M))) (lst64 G.length (awF W (nxF G C A I W M))) = true ∧ (∀ x ∈ lst64 G.length (inF A I (nxF G C A I W M)), inI32 x) ∧ ∀ x ∈ lst64 G.length (awF W (nxF G C A I W M)), inI32 x := by
  unfold fitsB at hf
  simp only [Bool.and_eq_true, decide_eq_true_eq] at hf
  obtain ⟨la, li, lw, hfit, hcl⟩ := hf
  have hcf : ∀ c ∈ C, 0 ≤ c.a ∧ c.a < c.b ∧ c.b < (G.length : Int) := by
    intro c hc
    obtain ⟨i, hi, e⟩ := List.getElem_of_mem hc
    have := grid_cf hg i hi
    rw [e] at this
    exact ⟨this.1, this.2.1, this.2.2.1⟩
  have hgt := fun k hk => fitsF_get hfit la li lw k hk
  have hnn : ∀ k (hk : k < G.length), 0 ≤ I[k]'(by omega) ∧ 0 ≤ W[k]'(by omega) := by
    intro k hk
    have := hgt k hk
    unfold fitB at this
    simp only [Bool.and_eq_true, decide_eq_true_eq] at this
    omega
  refine ⟨?_, ?_, ?_⟩
  · unfold fitsB
    simp only [Bool.and_eq_true, decide_eq_true_eq, lst_len, true_and]
    constructor
    · refine fitsF_of (lst_len _ _) (lst_len _ _) (lst_len _ _) fun k hk => ?_
      rw [lst_get, lst_get, lst_get]
      have hA : A.getD k 0 = A[k]'(by omega) := by simp [List.getD_eq_getElem?_getD, show k < A.length by omega]
      have hI : I.getD k 0 = I[k]'(by omega) := by simp [List.getD_eq_getElem?_getD, show k < I.length by omega]
      have hW : W.getD k 0 = W[k]'(by omega) := by simp [List.getD_eq_getElem?_getD, show k < W.length by omega]
      have hG : G.getD k gp0 = G[k] := by simp [List.getD_eq_getElem?_getD, hk]
      unfold inF awF
      rw [hA, hI, hW]
      have hb := beg_at (G := G) (C := C) (A := A) (W := W) (M := M) (f0 := alF G A I M) k G.length
      rw [hA, hG] at hb
      refine fit_next (b := M.testBit k) (hgt k hk) (okI _ (List.getElem_mem _)) (okW _ (List.getElem_mem _)) ?_ (gp_lim (grid_gp hg k hk)).1 (gp_lim (grid_gp hg k hk)).2
      rcases hb with hb | hb
      · left
        show nxF G C A I W M k = _
        unfold nxF
        rw [hb, alF_at hk (by omega), hI]
      · right; exact hb
    · refine clearF_of fun c hc => ?_
      have hb := hcf c hc
      have h0 := fun c hc => clearF_get hcl c hc
      unfold atI
      rw [lst_getD (by omega), lst_getD (by omega)]
      refine beg_clear hg (fun c hc => ?_) G.length (Nat.le_refl _) c hc
      have hb := hcf c hc
      have := h0 c hc
      unfold atI at this
      unfold alF
      rcases this with h | h
      · left; rw [h]; exact alone_red
      · right; rw [h]; exact alone_red
  · intro x hx
    unfold lst64 at hx
    obtain ⟨k, hk, rfl⟩ := List.mem_map.1 hx
    have hk' : k < G.length := by simpa using hk
    have hI : I.getD k 0 = I[k]'(by omega) := by simp [List.getD_eq_getElem?_getD, show k < I.length by omega]
    unfold inF inI32
    rw [hI]
    have := up_rng (okI _ (List.getElem_mem (by omega))) (hnn k hk').1
    split <;> omega
  · intro x hx
    unfold lst64 at hx
    obtain ⟨k, hk, rfl⟩ := List.mem_map.1 hx
    have hk' : k < G.length := by simpa using hk
    have hW : W.getD k 0 = W[k]'(by omega) := by simp [List.getD_eq_getElem?_getD, show k < W.length by omega]
    unfold awF inI32
    rw [hW]
    have := up_rng (okW _ (List.getElem_mem (by omega))) (hnn k hk').2
    split <;> omega
end Go.Proofs.Ythflpnahifpdnaa
