import Derived.Test.YtbgfeogigjjmdaaHxX
namespace Go.Proofs.Ytbgfeogigjjmdaa
set_option linter.unusedVariables false

/-- One digit turned: the sum moves by what the digit weighs. -/
theorem prs_set : ∀ (d : List Nat) (p t : Nat), p < d.length → d.length % 2 = 0 → ∃ wt, (wt = 16 ∨ wt = 1) ∧ (prs (d.set p t)).sum + wt * dg (d.getD p 0) = (prs d).sum + wt * dg t
  | [], p, t, h, _ => by simp at h
  | [_], p, t, h, h2 => by simp at h2
  | a :: b :: r, 0, t, h, h2 => ⟨16, .inl rfl, by simp [prs]; omega⟩
  | a :: b :: r, 1, t, h, h2 => ⟨1, .inr rfl, by simp [prs]; omega⟩
  | a :: b :: r, p + 2, t, h, h2 => by
    obtain ⟨wt, hw, e⟩ := prs_set r p t (by simp at h; omega) (by simp at h2; omega)
    refine ⟨wt, hw, ?_⟩
    simp only [List.set_cons_succ, prs, List.sum_cons, List.getD_cons_succ]
    omega
theorem hx_even (A : List Nat) : (hx A).length % 2 = 0 := by rw [hx_len]; omega
/-- A line with one digit turned is refused. -/
theorem linF_set {st st' : Rd} {l : List Nat} {j t : Nat} (hg : Good l) (hj : j < l.length) (hj0 : 0 < j) (ht : dg t ≤ 15) (hne : dg t ≠ dg (l.getD j 0)) (hok : linF st l = .ok st') : ∃ c col, linF st (l.set j t) = .error (c, col) ∧ 0 < c := by
  obtain ⟨A, hA, hA0, rfl⟩ := hg
  obtain ⟨p, rfl⟩ : ∃ p, j = p + 1 := ⟨j - 1, by omega⟩
  have hp : p < (hx A).length := by simpa using hj
  have hdp : dg ((hx A).getD p 0) ≤ 15 := by
    rw [List.getD_eq_getElem?_getD, List.getElem?_eq_getElem hp]
    obtain ⟨y, hy, e⟩ := hx_mem hA (List.getElem_mem hp)
    simp only [Option.getD_some]
    rw [e, dg_hl hy]; omega
  have hne' : dg t ≠ dg ((hx A).getD p 0) := by simpa using hne
  obtain ⟨wt, hw, hsum⟩ := prs_set (hx A) p t hp (hx_even A)
  have hbad : badL 1 ((hx A).set p t) = none := by
    rw [badL_none]
    intro c hc
    rcases List.mem_or_eq_of_mem_set hc with h | rfl
    · obtain ⟨y, hy, rfl⟩ := hx_mem hA h
      rw [dg_hl hy]; omega
    · exact ht
  unfold linF at hok ⊢
  split at hok
  · cases hok
  · rename_i hen
    rw [if_neg hen]
    cases hpar : parF (58 :: hx A) with
    | error e => rw [hpar] at hok; cases hok
    | ok all =>
      have hs0 : (prs (hx A)).sum % 256 = 0 := by
        unfold parF at hpar
        rw [if_neg (by simp)] at hpar
        have e1 : List.drop 1 (58 :: hx A) = hx A := rfl
        rw [e1] at hpar
        split at hpar
        · cases hpar
        · split at hpar
          · cases hpar
          · split at hpar
            · cases hpar
            · split at hpar
              · cases hpar
              · rename_i h; omega
      have hl11 : ¬ (58 :: hx A).length < 11 := by
        intro h
        unfold parF at hpar
        rw [if_neg (by simp)] at hpar
        split at hpar
        · cases hpar
        · rw [if_pos h] at hpar; cases hpar
      have hs1 : (prs ((hx A).set p t)).sum % 256 ≠ 0 := by
        rcases hw with rfl | rfl <;> omega
      have hpar2 : ∃ c col, parF ((58 :: hx A).set (p + 1) t) = .error (c, col) ∧ 0 < c := by
        rw [List.set_cons_succ]
        unfold parF
        rw [if_neg (by simp)]
        have e1 : List.drop 1 (58 :: (hx A).set p t) = (hx A).set p t := rfl
        rw [e1, hbad]
        simp only []
        rw [if_neg (by simpa using hl11)]
        split
        · exact ⟨_, _, rfl, by omega⟩
        · exact ⟨_, _, rfl, by omega⟩
      obtain ⟨c, col, e, h0⟩ := hpar2
      rw [e]
      exact ⟨c, col, rfl, h0⟩
/-- The lines of a text, joined. -/
def jn (ls : List (List Nat)) : List Nat := ls.flatMap (· ++ [10])
theorem jn_cons (l : List Nat) (r : List (List Nat)) : jn (l :: r) = l ++ 10 :: jn r := by simp [jn]
theorem jn_app (a b : List (List Nat)) : jn (a ++ b) = jn a ++ jn b := by simp [jn]
theorem jn_at : ∀ (ls : List (List Nat)) (i : Nat), i < (jn ls).length → (jn ls).getD i 0 ≠ 10 → ∃ pre l post j, ls = pre ++ l :: post ∧ i = (jn pre).length + j ∧ j < l.length
  | [], i, h, _ => by simp [jn] at h
  | l :: r, i, h, hne => by
    rw [jn_cons] at h hne
    rcases Nat.lt_or_ge i l.length with h1 | h1
    · exact ⟨[], l, r, i, rfl, by simp [jn], h1⟩
    · rcases Nat.eq_or_lt_of_le h1 with h2 | h2
      · exfalso
        apply hne
        rw [List.getD_eq_getElem?_getD, List.getElem?_append_right h1, ← h2]; simp
      · obtain ⟨k, rfl⟩ : ∃ k, i = l.length + 1 + k := ⟨i - l.length - 1, by omega⟩
        have e : (l ++ 10 :: jn r).getD (l.length + 1 + k) 0 = (jn r).getD k 0 := by
          rw [List.getD_eq_getElem?_getD, List.getElem?_append_right (by omega), List.getD_eq_getElem?_getD]
          rw [show l.length + 1 + k - l.length = k + 1 by omega]; rfl
        rw [e] at hne
        obtain ⟨pre, m, post, j, e1, e2, e3⟩ := jn_at r k (by simp at h; omega) hne
        refine ⟨l :: pre, m, post, j, by rw [e1]; rfl, ?_, e3⟩
        rw [jn_cons, e2]; simp; omega
theorem count_jn : ∀ (ls : List (List Nat)), (∀ l ∈ ls, 10 ∉ l) → (jn ls).count 10 = ls.length
  | [], _ => rfl
  | l :: r, h => by
    rw [jn_cons, List.count_append, List.count_cons_self, count_jn r (fun x hx => h x (by simp [hx])), List.count_eq_zero.2 (h l (by simp)), List.length_cons]
    omega
/-- The text with one digit turned: the line of the digit is refused. -/
theorem run_turn (D : List Nat) (hD : ∀ x ∈ D, x < 256) (hn : D.length ≤ 1048576) (i t : Nat) (hi : i < (hexT D).length) (h10 : (hexT D).getD i 0 ≠ 10) (h58 : (hexT D).getD i 0 ≠ 58) (ht : ∃ y, y < 16 ∧ t = hl y) (hne : t ≠ (hexT D).getD i 0) :
    ∃ c col, runL st0 1 (rawL ((hexT D).set i t)) = .error (c, 1 + ((hexT D).take i).count 10, col) ∧ 0 < c := by
  obtain ⟨y, hy, rfl⟩ := ht
  have hS : hexT D = jn (lns D) := hexT_lns D
  rw [hS] at hi h10 h58 hne ⊢
  obtain ⟨pre, l, post, j, e1, e2, e3⟩ := jn_at _ i hi h10
  have hgood := good_all hD
  have hrun := run_all D hD hn 1
  rw [e1] at hgood hrun
  rw [e1, jn_app, jn_cons] at h10 h58 hne ⊢
  subst e2
  have hgl := hgood l (by simp)
  have hgpre : ∀ x ∈ pre, 10 ∉ x ∧ x.getLast? ≠ some 13 := by
    intro x hx
    obtain ⟨h1, h2, _⟩ := good_ne (hgood x (by simp [hx]))
    exact ⟨h1, fun e => h2 (List.mem_of_getLast? e)⟩
  have eget : (jn pre ++ (l ++ 10 :: jn post)).getD ((jn pre).length + j) 0 = l.getD j 0 := by
    rw [List.getD_eq_getElem?_getD, List.getElem?_append_right (by omega), Nat.add_sub_cancel_left, List.getElem?_append_left e3, List.getD_eq_getElem?_getD]
  rw [eget] at h10 h58 hne
  have eset : (jn pre ++ (l ++ 10 :: jn post)).set ((jn pre).length + j) (hl y) = pre.flatMap (· ++ eol false) ++ ([l.set j (hl y)].flatMap (· ++ eol false) ++ jn post) := by
    rw [List.set_append_right _ _ (by omega), Nat.add_sub_cancel_left, List.set_append_left _ _ e3]
    simp [jn, eol]
  have etake : ((jn pre ++ (l ++ 10 :: jn post)).take ((jn pre).length + j)).count 10 = pre.length := by
    rw [List.take_append, List.take_of_length_le (by omega), Nat.add_sub_cancel_left, List.take_append_of_le_length (by omega), List.count_append, count_jn _ (fun x hx => (hgpre x hx).1)]
    rw [List.count_eq_zero.2 (fun h => (good_ne hgl).1 (List.mem_of_mem_take h))]; rfl
  rw [eset, etake, run_lines false pre _ _ _ hgpre]
  rw [runB_app] at hrun
  cases hp : runB ⟨[], false, false⟩ 1 pre with
  | error e => rw [hp] at hrun; cases hrun
  | ok st1 =>
    rw [hp] at hrun
    rw [show st0 = ⟨[], false, false⟩ from rfl, hp]
    simp only [] at hrun ⊢
    simp only [runB] at hrun
    cases hl1 : linF st1 l with
    | error e => rw [hl1] at hrun; obtain ⟨c, col⟩ := e; cases hrun
    | ok st2 =>
      obtain ⟨A, hA, hA0, rfl⟩ := hgl
      have hj0 : 0 < j := by
        rcases Nat.eq_zero_or_pos j with h | h
        · subst h; simp at h58
        · exact h
      have hset10 : 10 ∉ (58 :: hx A).set j (hl y) ∧ ((58 :: hx A).set j (hl y)).getLast? ≠ some 13 := by
        have hmem : ∀ c ∈ (58 :: hx A).set j (hl y), c ≠ 10 ∧ c ≠ 13 := by
          intro c hc
          rcases List.mem_or_eq_of_mem_set hc with h | rfl
          · rcases List.mem_cons.1 h with rfl | h
            · omega
            · obtain ⟨z, hz, rfl⟩ := hx_mem hA h
              exact hl_ne hz
          · exact hl_ne hy
        exact ⟨fun h => (hmem 10 h).1 rfl, fun h => (hmem 13 (List.mem_of_getLast? h)).2 rfl⟩
      have hdig : ∃ z, z < 16 ∧ (58 :: hx A).getD j 0 = hl z := by
        have hm : (58 :: hx A).getD j 0 ∈ (58 :: hx A) := by
          rw [List.getD_eq_getElem?_getD, List.getElem?_eq_getElem e3]; exact List.getElem_mem e3
        rcases List.mem_cons.1 hm with h | h
        · exact absurd h h58
        · obtain ⟨z, hz, e⟩ := hx_mem hA h
          exact ⟨z, hz, e⟩
      obtain ⟨z, hz, ez⟩ := hdig
      have hyz : y ≠ z := by
        rintro rfl
        exact hne ez.symm
      obtain ⟨c, col, e, h0⟩ := linF_set (t := hl y) ⟨A, hA, hA0, rfl⟩ e3 hj0 (by rw [dg_hl hy]; omega) (by rw [ez, dg_hl hy, dg_hl hz]; exact hyz) hl1
      refine ⟨c, col, ?_, h0⟩
      rw [run_lines false [(58 :: hx A).set j (hl y)] _ _ _ (by intro x hx; rw [List.mem_singleton] at hx; subst hx; exact hset10)]
      simp only [runB, e]
/-- The text as it stands is read. -/
theorem run_hex (D : List Nat) (hD : ∀ x ∈ D, x < 256) (hn : D.length ≤ 1048576) : runL st0 1 (rawL (hexT D)) = .ok ⟨D, false, true⟩ := by
  have := run_dress false false false D hD hn
  have e : dress false false false D = hexT D := by
    have h2 := outH_all false false false D hD
    have hid : ∀ (S : List Nat) i, i ≤ S.length → outH false false false S i = S.take i := by
      intro S i
      induction i with
      | zero => intro _; simp [outH]
      | succ k ih =>
        intro h
        rw [outH, ih (by omega), List.take_succ_eq_append_getElem (by omega), List.getD_eq_getElem?_getD, List.getElem?_eq_getElem (by omega)]
        simp [pcH, lw]
    rw [hid _ _ (Nat.le_refl _), List.take_length] at h2
    simpa using h2.symm
  rw [e] at this
  exact this
/-- Every sign of the text is a colon, an end or a digit. -/
theorem hexT_sign (D : List Nat) (hD : ∀ x ∈ D, x < 256) : ∀ c ∈ hexT D, c = 58 ∨ c = 10 ∨ ∃ y, y < 16 ∧ c = hl y := by
  intro c hc
  rw [hexT_lns, List.mem_flatMap] at hc
  obtain ⟨l, hl0, hc⟩ := hc
  obtain ⟨A, hA, _, rfl⟩ := good_all hD l hl0
  rw [List.mem_append] at hc
  rcases hc with hc | hc
  · rcases List.mem_cons.1 hc with rfl | h
    · exact .inl rfl
    · exact .inr (.inr (hx_mem hA h))
  · rw [List.mem_singleton] at hc; exact .inr (.inl hc)
/-- The last sign but one is a digit. -/
theorem hexT_last (D : List Nat) : 12 ≤ (hexT D).length ∧ (hexT D).getD ((hexT D).length - 2) 0 = 70 := by
  have e : hexT D = hexK D ((D.length + 15) / 16) ++ recT 1 0 [] := rfl
  have h12 : (recT 1 0 []).length = 12 := recT_len 1 0 []
  constructor
  · rw [e, List.length_append, h12]; omega
  · rw [e, List.length_append, h12, List.getD_eq_getElem?_getD, List.getElem?_append_right (by omega)]
    rw [show (hexK D ((D.length + 15) / 16)).length + 12 - 2 - (hexK D ((D.length + 15) / 16)).length = 10 by omega]
    decide
end Go.Proofs.Ytbgfeogigjjmdaa
