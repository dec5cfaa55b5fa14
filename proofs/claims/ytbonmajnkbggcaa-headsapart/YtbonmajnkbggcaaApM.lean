import Derived.Test.YtbonmajnkbggcaaSkM
namespace Go.Proofs.Ytbonmajnkbggcaa
open Go.RowKit
set_option linter.unusedVariables false

/-- Does group k start? By rows, not by masks. -/
theorem startB_iff {C : List Cf} {A W : List Int} {M n k : Nat} {f : Nat → Int} (hne : ∀ c ∈ C, c.a.toNat ≠ c.b.toNat) :
    startB C A W M n f k = true ↔ A.getD k 0 = 0 ∧ M.testBit k = true ∧ (∀ c ∈ C, holds W k c = false) ∧ ∀ c ∈ C, ∀ x, x < n → pairB k x c = true → f x = 0 := by
  have hne' : ∀ (i : Nat) (hi : i < C.length), C[i].a.toNat ≠ C[i].b.toNat := fun i hi => hne _ (List.getElem_mem hi)
  unfold startB
  simp only [Bool.and_eq_true, decide_eq_true_eq, Bool.not_eq_true']
  rw [heldM_bit _ _ _ _ (Nat.le_refl _), List.take_length, List.any_eq_false, and_zero]
  constructor
  · rintro ⟨h1, h2, h3, h4⟩
    refine ⟨h1, h2, fun c hc => by simpa using h3 c hc, fun c hc x hx hp => ?_⟩
    have := h4 x
    rw [foM_bit k x hne' C.length (Nat.le_refl _), List.take_length, List.any_eq_true, litM_bit] at this
    refine Classical.byContradiction fun hf => this ⟨⟨c, hc, hp⟩, by simp [hx, hf]⟩
  · rintro ⟨h1, h2, h3, h4⟩
    refine ⟨h1, h2, fun c hc => by simpa using h3 c hc, fun x ⟨q1, q2⟩ => ?_⟩
    rw [foM_bit k x hne' C.length (Nat.le_refl _), List.take_length, List.any_eq_true] at q1
    rw [litM_bit] at q2
    simp only [Bool.and_eq_true, decide_eq_true_eq] at q2
    obtain ⟨c, hc, hp⟩ := q1
    exact q2.2 (h4 c hc x q2.1 hp)
/-- A row n groups further on. -/
def Cf.up (n : Nat) (c : Cf) : Cf := ⟨c.a + n, c.b + n, c.ab, c.ba⟩
theorem begF_ge {G : List Gp} {C : List Cf} {A W : List Int} {M : Nat} {f0 : Nat → Int} {j : Nat} : ∀ m, m ≤ j → begF G C A W M f0 m j = f0 j := by
  intro m
  induction m with
  | zero => intro _; rfl
  | succ m ih =>
    intro h
    unfold begF
    by_cases hs : startB C A W M G.length (begF G C A W M f0 m) m = true
    · rw [if_pos hs]; unfold updF; rw [if_neg (by omega)]; exact ih (by omega)
    · rw [if_neg hs]; exact ih (by omega)
/-- The first n groups of a whole go on as they do by themselves. -/
theorem beg_low {G G' : List Gp} {C C' D : List Cf} {A A' W W' : List Int} {M M' : Nat} {f0 f0' : Nat → Int} {n : Nat}
    (hn : G'.length = n) (hG : n ≤ G.length) (hC : C = C' ++ D) (r1 : ∀ c ∈ C', 0 ≤ c.a ∧ c.a < c.b ∧ c.b < (n : Int)) (r2 : ∀ c ∈ D, (n : Int) ≤ c.a ∧ c.a < c.b)
    (hg : ∀ j, j < n → G.getD j gp0 = G'.getD j gp0) (hA : ∀ j, j < n → A.getD j 0 = A'.getD j 0) (hW : ∀ j, j < n → W.getD j 0 = W'.getD j 0) (hM : ∀ j, j < n → M.testBit j = M'.testBit j) (hf : ∀ j, j < n → f0 j = f0' j) :
    ∀ m, m ≤ n → ∀ j, j < n → begF G C A W M f0 m j = begF G' C' A' W' M' f0' m j := by
  have ne : ∀ c ∈ C, c.a.toNat ≠ c.b.toNat := fun c hc => by
    rw [hC] at hc
    rcases List.mem_append.1 hc with h | h
    · have := r1 c h; omega
    · have := r2 c h; omega
  have ne' : ∀ c ∈ C', c.a.toNat ≠ c.b.toNat := fun c hc => by have := r1 c hc; omega
  intro m
  induction m with
  | zero => intro _ j hj; exact hf j hj
  | succ m ih =>
    intro hm j hj
    have ih := ih (by omega)
    have key : startB C A W M G.length (begF G C A W M f0 m) m = true ↔ startB C' A' W' M' G'.length (begF G' C' A' W' M' f0' m) m = true := by
      rw [startB_iff ne, startB_iff ne', hA m (by omega), hM m (by omega), hn]
      have hol : ∀ c ∈ C', holds W m c = holds W' m c := fun c hc => by
        have := r1 c hc
        unfold holds atI
        rw [hW _ (by omega), hW _ (by omega)]
      constructor
      · rintro ⟨h1, h2, h3, h4⟩
        refine ⟨h1, h2, fun c hc => by rw [← hol c hc]; exact h3 c (by rw [hC]; exact List.mem_append_left _ hc), fun c hc x hx hp => ?_⟩
        rw [← ih x hx]
        exact h4 c (by rw [hC]; exact List.mem_append_left _ hc) x (by omega) hp
      · rintro ⟨h1, h2, h3, h4⟩
        refine ⟨h1, h2, fun c hc => ?_, fun c hc x hx hp => ?_⟩
        · rw [hC] at hc
          rcases List.mem_append.1 hc with h | h
          · rw [hol c h]; exact h3 c h
          · have := r2 c h
            unfold holds
            simp only [Bool.or_eq_false_iff, Bool.and_eq_false_iff, decide_eq_false_iff_not]
            exact ⟨.inr (by omega), .inr (by omega)⟩
        · rw [hC] at hc
          rcases List.mem_append.1 hc with h | h
          · have b := r1 c h
            have hx' : x < n := by
              unfold pairB at hp
              simp only [Bool.or_eq_true, Bool.and_eq_true, decide_eq_true_eq] at hp
              omega
            rw [ih x hx']
            exact h4 c h x hx' hp
          · have := r2 c h
            unfold pairB at hp
            simp only [Bool.or_eq_true, Bool.and_eq_true, decide_eq_true_eq] at hp
            omega
    unfold begF
    by_cases hs : startB C A W M G.length (begF G C A W M f0 m) m = true
    · rw [if_pos hs, if_pos (key.1 hs)]
      unfold updF
      by_cases e : j = m
      · rw [if_pos e, if_pos e, hg m (by omega)]
      · rw [if_neg e, if_neg e]; exact ih j hj
    · rw [if_neg hs, if_neg (fun h => hs (key.2 h))]; exact ih j hj
/-- And so do those behind them. -/
theorem beg_high {G G' : List Gp} {C C' D : List Cf} {A A' W W' : List Int} {M M' : Nat} {f0 f0' : Nat → Int} {n : Nat}
    (hn : G.length = n + G'.length) (hC : C = D ++ C'.map (Cf.up n)) (r1 : ∀ c ∈ C', 0 ≤ c.a ∧ c.a < c.b ∧ c.b < (G'.length : Int)) (r2 : ∀ c ∈ D, 0 ≤ c.a ∧ c.a < c.b ∧ c.b < (n : Int))
    (hg : ∀ j, j < G'.length → G.getD (n + j) gp0 = G'.getD j gp0) (hA : ∀ j, j < G'.length → A.getD (n + j) 0 = A'.getD j 0) (hW : ∀ j, j < G'.length → W.getD (n + j) 0 = W'.getD j 0) (hM : ∀ j, j < G'.length → M.testBit (n + j) = M'.testBit j) (hf : ∀ j, j < G'.length → f0 (n + j) = f0' j) :
    ∀ m, m ≤ G'.length → ∀ j, j < G'.length → begF G C A W M f0 (n + m) (n + j) = begF G' C' A' W' M' f0' m j := by
  have ne : ∀ c ∈ C, c.a.toNat ≠ c.b.toNat := fun c hc => by
    rw [hC] at hc
    rcases List.mem_append.1 hc with h | h
    · have := r2 c h; omega
    · obtain ⟨d, hd, rfl⟩ := List.mem_map.1 h
      have := r1 d hd
      unfold Cf.up
      dsimp only
      omega
  have ne' : ∀ c ∈ C', c.a.toNat ≠ c.b.toNat := fun c hc => by have := r1 c hc; omega
  intro m
  induction m with
  | zero => intro _ j hj; rw [Nat.add_zero, begF_ge n (by omega)]; exact hf j hj
  | succ m ih =>
    intro hm j hj
    have ih := ih (by omega)
    have upe : ∀ c ∈ C', (Cf.up n c).a.toNat = n + c.a.toNat ∧ (Cf.up n c).b.toNat = n + c.b.toNat := fun c hc => by
      have := r1 c hc
      unfold Cf.up
      dsimp only
      omega
    have key : startB C A W M G.length (begF G C A W M f0 (n + m)) (n + m) = true ↔ startB C' A' W' M' G'.length (begF G' C' A' W' M' f0' m) m = true := by
      rw [startB_iff ne, startB_iff ne', hA m (by omega), hM m (by omega), hn]
      have hol : ∀ c ∈ C', holds W (n + m) (Cf.up n c) = holds W' m c := fun c hc => by
        have b := r1 c hc
        have u := upe c hc
        unfold holds atI
        rw [u.1, u.2, hW _ (by omega), hW _ (by omega)]
        unfold Cf.up
        dsimp only
        have e1 : decide (n + c.b.toNat = n + m) = decide (c.b.toNat = m) := by simp
        have e2 : decide (n + c.a.toNat = n + m) = decide (c.a.toNat = m) := by simp
        rw [e1, e2]
      have hpr : ∀ c ∈ C', ∀ x, pairB (n + m) (n + x) (Cf.up n c) = pairB m x c := fun c hc x => by
        have u := upe c hc
        unfold pairB
        rw [u.1, u.2]
        simp
      constructor
      · rintro ⟨h1, h2, h3, h4⟩
        refine ⟨h1, h2, fun c hc => ?_, fun c hc x hx hp => ?_⟩
        · rw [← hol c hc]; exact h3 _ (by rw [hC]; exact List.mem_append_right _ (List.mem_map.2 ⟨c, hc, rfl⟩))
        · rw [← ih x hx]
          exact h4 _ (by rw [hC]; exact List.mem_append_right _ (List.mem_map.2 ⟨c, hc, rfl⟩)) (n + x) (by omega) (by rw [hpr c hc]; exact hp)
      · rintro ⟨h1, h2, h3, h4⟩
        refine ⟨h1, h2, fun c hc => ?_, fun c hc x hx hp => ?_⟩
        · rw [hC] at hc
          rcases List.mem_append.1 hc with h | h
          · have := r2 c h
            unfold holds
            simp only [Bool.or_eq_false_iff, Bool.and_eq_false_iff, decide_eq_false_iff_not]
            exact ⟨.inr (by omega), .inr (by omega)⟩
          · obtain ⟨d, hd, rfl⟩ := List.mem_map.1 h
            rw [hol d hd]; exact h3 d hd
        · rw [hC] at hc
          rcases List.mem_append.1 hc with h | h
          · have := r2 c h
            unfold pairB at hp
            simp only [Bool.or_eq_true, Bool.and_eq_true, decide_eq_true_eq] at hp
            omega
          · obtain ⟨d, hd, rfl⟩ := List.mem_map.1 h
            have b := r1 d hd
            have u := upe d hd
            obtain ⟨y, rfl⟩ : ∃ y, x = n + y := by
              unfold pairB at hp
              simp only [Bool.or_eq_true, Bool.and_eq_true, decide_eq_true_eq] at hp
              exact ⟨x - n, by omega⟩
            rw [hpr d hd] at hp
            rw [ih y (by omega)]
            exact h4 d hd y (by omega) hp
    show begF G C A W M f0 ((n + m) + 1) (n + j) = _
    unfold begF
    by_cases hs : startB C A W M G.length (begF G C A W M f0 (n + m)) (n + m) = true
    · rw [if_pos hs, if_pos (key.1 hs)]
      unfold updF
      by_cases e : j = m
      · rw [if_pos (by omega), if_pos e, hg m (by omega)]
      · rw [if_neg (by omega), if_neg e]; exact ih j hj
    · rw [if_neg hs, if_neg (fun h => hs (key.2 h))]; exact ih j hj
end Go.Proofs.Ytbonmajnkbggcaa
