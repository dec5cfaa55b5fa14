import Derived.Test.YtcajejfddfiidaaDoorDrC
namespace Go.Proofs.YtcajejfddfiidaaDoor
open Go.RowKit
set_option linter.unusedVariables false
set_option linter.unusedSimpArgs false

theorem at_split (d : ByteArray) (A B : List UInt8) (x : UInt8) (h : d.data.toList = A ++ x :: B) : ∃ hh : A.length < d.size, d[A.length] = x := by
  have hl : d.size = (A ++ x :: B).length := by rw [← h]; rfl
  have hh : A.length < d.size := by rw [hl, List.length_append, List.length_cons]; omega
  refine ⟨hh, ?_⟩
  have h2 : d.data.toList[A.length]? = some x := by rw [h]; simp
  rw [Array.getElem?_toList] at h2
  obtain ⟨_, h3⟩ := Array.getElem?_eq_some_iff.1 h2
  exact h3
theorem end_split (d : ByteArray) (A : List UInt8) (h : d.data.toList = A) : ¬ A.length < d.size := by
  have hl : d.size = A.length := by rw [← h]; rfl
  omega

/-- Where a byte stands first. -/
theorem upF_split (d : ByteArray) (c : UInt8) (R : List UInt8) : ∀ (M A : List UInt8), d.data.toList = A ++ (M ++ c :: R) → c ∉ M → upF d c A.length = A.length + M.length := by
  intro M
  induction M with
  | nil =>
    intro A h _
    obtain ⟨hh, hx⟩ := at_split d A R c h
    rw [upF_hit d c _ hh hx]; rfl
  | cons x M ih =>
    intro A h hc
    obtain ⟨hh, hx⟩ := at_split d A (M ++ c :: R) x h
    rw [upF_next d c _ hh (by rw [hx]; intro e; exact hc (by rw [e]; exact List.mem_cons_self ..))]
    have := ih (A ++ [x]) (by rw [h]; simp) (fun e => hc (List.mem_cons_of_mem _ e))
    rw [List.length_append, List.length_singleton] at this
    rw [this, List.length_cons]; omega

def isD (x : UInt8) : Prop := 48 ≤ x.toNat ∧ x.toNat ≤ 57
/-- The value of digits behind a value. -/
def vaF : Nat → List UInt8 → Nat
  | n, [] => n
  | n, x :: D => vaF (10 * n + (x.toNat - 48)) D
theorem vaF_ge : ∀ (D : List UInt8) (n : Nat), n ≤ vaF n D
  | [], n => Nat.le_refl n
  | x :: D, n => by have := vaF_ge D (10 * n + (x.toNat - 48)); unfold vaF; omega
theorem vaF_app : ∀ (D E : List UInt8) (n : Nat), vaF n (D ++ E) = vaF (vaF n D) E
  | [], E, n => rfl
  | x :: D, E, n => vaF_app D E _
theorem dgF_split (d : ByteArray) (R : List UInt8) (hR : ∀ x R', R = x :: R' → ¬ isD x) : ∀ (D A : List UInt8) (n : Nat), d.data.toList = A ++ (D ++ R) → (∀ x ∈ D, isD x) → vaF n D ≤ 1000000 → dgF d A.length n = (((vaF n D : Nat) : Int), A.length + D.length) := by
  intro D
  induction D with
  | nil =>
    intro A n h _ _
    cases R with
    | nil => rw [dgF_end d _ _ (end_split d A (by rw [h]; simp))]; rfl
    | cons x R' =>
      obtain ⟨hh, hx⟩ := at_split d A R' x h
      rw [dgF_stop d _ _ hh (by rw [hx]; exact hR x R' rfl)]; rfl
  | cons x D ih =>
    intro A n h hD hv
    obtain ⟨hh, hx⟩ := at_split d A (D ++ R) x h
    have hd : isD x := hD x (List.mem_cons_self ..)
    have h2 : 10 * n + (x.toNat - 48) ≤ 1000000 := Nat.le_trans (vaF_ge D _) hv
    rw [dgF_next d _ _ hh (by rw [hx]; exact hd) (by rw [hx]; omega), hx]
    have := ih (A ++ [x]) (10 * n + (x.toNat - 48)) (by rw [h]; simp) (fun y hy => hD y (List.mem_cons_of_mem _ hy)) hv
    rw [List.length_append, List.length_singleton] at this
    rw [this, List.length_cons]
    show (((vaF (10 * n + (x.toNat - 48)) D : Nat) : Int), _) = (((vaF (10 * n + (x.toNat - 48)) D : Nat) : Int), _)
    congr 1; omega
theorem dec_dig : ∀ (k u : Nat), u ≤ k → (∀ x ∈ Lib.decDigits u, isD x) ∧ vaF 0 (Lib.decDigits u) = u ∧ Lib.decDigits u ≠ [] := by
  intro k
  induction k with
  | zero =>
    intro u h
    have : u = 0 := by omega
    subst this
    rw [decDigits_small 0 (by omega)]
    refine ⟨?_, rfl, by simp⟩
    intro x hx; rw [List.mem_singleton] at hx; subst hx; exact ⟨by decide, by decide⟩
  | succ k ih =>
    intro u h
    by_cases hu : u < 10
    · rw [decDigits_small u hu]
      have e : (UInt8.ofNat (48 + u)).toNat = 48 + u := UInt8.toNat_ofNat_of_lt' (by show _ < 256; omega)
      refine ⟨?_, ?_, by simp⟩
      · intro x hx; rw [List.mem_singleton] at hx; subst hx; unfold isD; rw [e]; omega
      · unfold vaF; unfold vaF; rw [e]; omega
    · obtain ⟨h1, h2, h3⟩ := ih (u / 10) (by omega)
      rw [decDigits_step u (by omega)]
      refine ⟨?_, ?_, by simp⟩
      · intro x hx
        rcases List.mem_append.1 hx with hx | hx
        · exact h1 x hx
        · rw [List.mem_singleton] at hx; subst hx; unfold isD; rw [byte_nat]; omega
      · rw [vaF_app, h2]; unfold vaF; unfold vaF; rw [byte_nat]; omega
theorem digF_split (d : ByteArray) (A R : List UInt8) (u : Nat) (hu : u ≤ 1000000) (h : d.data.toList = A ++ (Lib.decDigits u ++ R)) (hR : ∀ x R', R = x :: R' → ¬ isD x) : digF d A.length = (((u : Nat) : Int), A.length + (Lib.decDigits u).length) := by
  obtain ⟨h1, h2, h3⟩ := dec_dig u u (Nat.le_refl _)
  have := dgF_split d R hR _ A 0 h h1 (by rw [h2]; exact hu)
  unfold digF
  rw [this, h2]
  rw [if_neg]
  have : 0 < (Lib.decDigits u).length := List.length_pos_iff.2 h3
  show ¬ A.length + (Lib.decDigits u).length = A.length
  omega
theorem digF_bad (d : ByteArray) (A R : List UInt8) (h : d.data.toList = A ++ R) (hR : ∀ x R', R = x :: R' → ¬ isD x) : digF d A.length = (-1, A.length) := by
  have := dgF_split d R hR [] A 0 h (by simp) (by unfold vaF; omega)
  unfold digF
  rw [this]
  exact if_pos rfl
end Go.Proofs.YtcajejfddfiidaaDoor
