import Derived.Test.YtbonmajnkbggcaaApN
namespace Go.Proofs.Ytbonmajnkbggcaa
open Go.RowKit
set_option linter.unusedVariables false

theorem cfB_mono {n n' : Nat} {c : Cf} (h : cfB n c = true) (hn : n ≤ n') : cfB n' c = true := by
  unfold cfB at h ⊢
  simp only [Bool.and_eq_true, decide_eq_true_eq] at h ⊢
  exact ⟨h.1, h.2.1, by omega, h.2.2.2⟩
theorem cfB_up {n m : Nat} {c : Cf} (h : cfB m c = true) : cfB (n + m) (Cf.up n c) = true := by
  unfold cfB at h ⊢
  unfold Cf.up
  simp only [Bool.and_eq_true, decide_eq_true_eq] at h ⊢
  exact ⟨by omega, by omega, by omega, h.2.2.2⟩
theorem rows_up {n m : Nat} : ∀ {C : List Cf} {p q : Option Cf}, rowsB m p C = true → (∀ c, C.head? = some c → ordP q (Cf.up n c) = true) → rowsB (n + m) q (C.map (Cf.up n)) = true := by
  intro C
  induction C with
  | nil => intro p q _ _; cases q <;> rfl
  | cons c cs ih =>
    intro p q h hq
    unfold rowsB at h
    simp only [Bool.and_eq_true] at h
    show rowsB (n + m) q (Cf.up n c :: cs.map (Cf.up n)) = true
    unfold rowsB
    simp only [Bool.and_eq_true]
    refine ⟨⟨cfB_up h.1.1, hq c rfl⟩, ih h.2 ?_⟩
    intro d hd
    cases cs with
    | nil => cases hd
    | cons e es =>
      have : e = d := by simpa using hd
      subst this
      have h2 := h.2
      unfold rowsB at h2
      simp only [Bool.and_eq_true] at h2
      have := h2.1.2
      unfold ordP ordB at this ⊢
      unfold Cf.up
      simp only [Bool.or_eq_true, Bool.and_eq_true, decide_eq_true_eq] at this ⊢
      omega
theorem rows_join {n m : Nat} {D : List Cf} (hD : rowsB m none D = true) : ∀ {C : List Cf} {p : Option Cf}, rowsB n p C = true → (∀ b, p = some b → b.a < (n : Int)) → (∀ c ∈ D, 0 ≤ c.a) → rowsB (n + m) p (C ++ D.map (Cf.up n)) = true := by
  intro C
  induction C with
  | nil =>
    intro p _ hp hd
    refine rows_up hD fun c hc => ?_
    cases p with
    | none => rfl
    | some b =>
      have := hp b rfl
      have hc' : c ∈ D := by
        cases D with
        | nil => cases hc
        | cons e es => have : e = c := by simpa using hc
                       subst this; exact List.mem_cons_self
      have := hd c hc'
      unfold ordP ordB Cf.up
      simp only [Bool.or_eq_true, Bool.and_eq_true, decide_eq_true_eq]
      omega
  | cons c cs ih =>
    intro p h hp hd
    unfold rowsB at h
    simp only [Bool.and_eq_true] at h
    show rowsB (n + m) p (c :: (cs ++ D.map (Cf.up n))) = true
    unfold rowsB
    simp only [Bool.and_eq_true]
    have hc := h.1.1
    unfold cfB at hc
    simp only [Bool.and_eq_true, decide_eq_true_eq] at hc
    exact ⟨⟨cfB_mono h.1.1 (by omega), h.1.2⟩, ih h.2 (fun b hb => by cases hb; omega) hd⟩
theorem grid_both {S T : List Gp} {Cs Ct : List Cf} (sd : Side S T Cs Ct) (hl : S.length + T.length ≤ 64) : gridB (S ++ T) (bothC S.length Cs Ct) = true := by
  have h1 := sd.gs
  have h2 := sd.gt
  have r := grid_cfm sd.gt
  unfold gridB at h1 h2 ⊢
  simp only [Bool.and_eq_true, decide_eq_true_eq] at h1 h2 ⊢
  refine ⟨by rw [List.length_append]; exact hl, by rw [List.all_append, h1.2.1, h2.2.1]; rfl, ?_⟩
  rw [List.length_append]
  exact rows_join h2.2.2 h1.2.2 (fun b hb => by cases hb) (fun c hc => (r c hc).1)
/-- The wants of the whole. -/
def mskF (n a b : Nat) : Nat := (a &&& (2 ^ n - 1)) ||| (b * 2 ^ n % 2 ^ 64)
theorem mskF_low {n a b j : Nat} (h : j < n) : (mskF n a b).testBit j = a.testBit j := by
  unfold mskF
  rw [Nat.testBit_or, Nat.and_two_pow_sub_one_eq_mod, Nat.testBit_mod_two_pow, Nat.testBit_mod_two_pow, Nat.mul_comm, Nat.testBit_two_pow_mul]
  have : ¬ n ≤ j := by omega
  simp [h, this]
theorem mskF_high {n m a b j : Nat} (h : j < m) (hl : n + m ≤ 64) : (mskF n a b).testBit (n + j) = b.testBit j := by
  unfold mskF
  rw [Nat.testBit_or, Nat.and_two_pow_sub_one_eq_mod, Nat.testBit_mod_two_pow, Nat.testBit_mod_two_pow, Nat.mul_comm, Nat.testBit_two_pow_mul]
  have h1 : n + j < 64 := by omega
  have h2 : ¬ n + j < n := by omega
  simp [h1, h2]
theorem mskF_lt {n a b : Nat} (hn : n ≤ 63) : mskF n a b < 18446744073709551616 := by
  unfold mskF
  have e : (18446744073709551616 : Nat) = 2 ^ 64 := rfl
  rw [e]
  refine Nat.or_lt_two_pow ?_ (Nat.mod_lt _ (Nat.two_pow_pos 64))
  rw [Nat.and_two_pow_sub_one_eq_mod]
  exact Nat.lt_of_lt_of_le (Nat.mod_lt _ (Nat.two_pow_pos n)) (Nat.pow_le_pow_right (by decide) (by omega))
end Go.Proofs.Ytbonmajnkbggcaa
