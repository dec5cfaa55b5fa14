import Derived.Test.YtjohnhaahpggkabDoorPcsE
namespace Go.Proofs.YtjohnhaahpggkabDoor
set_option linter.unusedVariables false
set_option linter.unusedSimpArgs false

/-! Pieces of a text as the scanner meets them. -/
/-- l is the whole token tk, whatever comes behind that does not meld with it. -/
def Whl (tk : Tk) (l : List UInt8) : Prop := l ≠ [] ∧ ∀ r, meldF l r = false → firstTk (l ++ r) = (tk, l.length)
/-- l is passed over. -/
def Skp (l : List UInt8) : Prop := ∀ r, skipL false (l ++ r) = l.length + skipL false r

theorem run_app {l r : List UInt8} (hl : l.all isR = true) (hne : l ≠ []) (hm : meldF l r = false) : runL (l ++ r) = l := by
  unfold runL
  rw [List.takeWhile_append_of_pos (fun x hx => List.all_eq_true.1 hl x hx)]
  have : r.takeWhile isR = [] := by
    cases r with
    | nil => rfl
    | cons y r =>
      have hy : isR y = false := by
        unfold meldF at hm
        rw [List.getLast?_eq_some_getLast hne] at hm
        simp only [List.head?_cons] at hm
        have hx : isR (l.getLast hne) = true := List.all_eq_true.1 hl _ (List.getLast_mem hne)
        rw [hx] at hm
        simp only [Bool.true_and, Bool.or_eq_false_iff] at hm
        exact hm.2
      rw [List.takeWhile_cons_of_neg (by simp [hy])]
  rw [this, List.append_nil]

theorem name_whl {l : List UInt8} (h : NameL l) : Whl ⟨1, 0, l⟩ l := by
  obtain ⟨h1, h2, r, rfl⟩ := h
  refine ⟨by simp, fun t hm => ?_⟩
  have hr := run_app h2 (by simp) hm
  rw [List.cons_append] at hr ⊢
  rw [first_L 81 _ (by decide), hr]
  have hk : kwK (81 :: r) = -1 := by
    rcases kwK_mem (81 :: r) with ⟨h, _⟩ | ⟨_, _, h⟩
    · exact h
    · exfalso
      have : ∀ x ∈ kwL, x.head? ≠ some 81 := by decide
      exact this _ h rfl
  unfold wordTk
  rw [if_neg (by omega), if_pos hk]
theorem num_whl {v : Nat} {l : List UInt8} (h : NumL v l) : Whl ⟨2, (v : Int), []⟩ l := by
  obtain ⟨h1, h2, h3, _, c, r, rfl, hc⟩ := h
  refine ⟨by simp, fun t hm => ?_⟩
  have hr := run_app h3 (by simp) hm
  have hL : isL c = false := by
    rw [isD_iff] at hc
    unfold isL; simp; omega
  rw [List.cons_append] at hr ⊢
  rw [first_D c _ hL hc, hr]
  unfold numTk
  rw [h1]
  simp [numE, numV, h2]
theorem kw_facts : ∀ x ∈ kwL, x.all isR = true ∧ x ≠ [] ∧ isL (x.headD 0) = true ∧ x.length ≤ 32 := by decide
theorem kw_whl {l : List UInt8} (h : l ∈ kwL) : Whl ⟨kwK l, 0, []⟩ l := by
  obtain ⟨h1, h2, h3, h4⟩ := kw_facts l h
  refine ⟨h2, fun t hm => ?_⟩
  have hr := run_app h1 h2 hm
  have hk : ¬ kwK l = -1 := by
    rcases kwK_mem l with ⟨_, h'⟩ | ⟨h', _, _⟩
    · exact absurd h h'
    · omega
  cases l with
  | nil => exact absurd rfl h2
  | cons c r =>
    rw [List.cons_append] at hr ⊢
    rw [first_L c _ h3, hr]
    unfold wordTk
    rw [if_neg (by omega), if_neg hk]
theorem sg_facts : ∀ x ∈ sgL, (x.length = 1 ∨ x.length = 2) ∧ isL (x.headD 0) = false ∧ isD (x.headD 0) = false := by decide
theorem sg_two : ∀ x ∈ sgL, x.length = 2 → ∃ c, x = [c, 61] ∧ (c = 61 ∨ c = 33 ∨ c = 60 ∨ c = 62) := by
  intro x hx hl
  have : ∀ x ∈ sgL, x.length = 2 → (x = [61, 61] ∨ x = [33, 61] ∨ x = [60, 61] ∨ x = [62, 61]) := by decide
  rcases this x hx hl with rfl | rfl | rfl | rfl
  · exact ⟨61, rfl, .inl rfl⟩
  · exact ⟨33, rfl, .inr (.inl rfl)⟩
  · exact ⟨60, rfl, .inr (.inr (.inl rfl))⟩
  · exact ⟨62, rfl, .inr (.inr (.inr rfl))⟩
theorem sg_whl {l : List UInt8} (h : l ∈ sgL) : Whl ⟨sgK l, 0, []⟩ l := by
  obtain ⟨h1, h2, h3⟩ := sg_facts l h
  have hk : sgK l ≠ -1 := by
    rcases sgK_mem l with ⟨_, h'⟩ | ⟨h', _, _⟩
    · exact absurd h h'
    · omega
  cases l with
  | nil => simp at h1
  | cons c r =>
    refine ⟨by simp, fun t hm => ?_⟩
    rw [List.cons_append, first_S c _ h2 h3]
    cases r with
    | nil =>
      have hno : ¬ (2 ≤ (c :: ([] ++ t)).length ∧ sgK ((c :: ([] ++ t)).take 2) ≠ -1) := by
        rintro ⟨ha, hb⟩
        cases t with
        | nil => simp at ha
        | cons y t =>
          simp only [List.nil_append, List.take_succ_cons, List.take_zero] at hb
          rcases sgK_mem [c, y] with ⟨h', _⟩ | ⟨_, _, h'⟩
          · exact hb h'
          · obtain ⟨d, e, hd⟩ := sg_two _ h' rfl
            simp at e
            obtain ⟨rfl, rfl⟩ := e
            have hc33 : c ≠ 33 := by
              rintro rfl
              exact absurd h (by decide)
            unfold meldF at hm
            rcases hd with rfl | rfl | rfl | rfl
            · simp at hm
            · exact hc33 rfl
            · simp at hm
            · simp at hm
      unfold signTk
      rw [if_neg hno, if_pos (by simpa using hk)]
      simp
    | cons d r =>
      have hr : r = [] := by
        rcases h1 with h1 | h1
        · simp at h1
        · simpa using h1
      subst hr
      unfold signTk
      rw [if_pos ⟨by simp, by simpa using hk⟩]
      simp
/-- Blanks. -/
theorem skp_blank {l : List UInt8} (h : l.all isB = true) : Skp l := by
  intro r
  induction l with
  | nil => simp
  | cons c l ih =>
    simp only [List.all_cons, Bool.and_eq_true] at h
    rw [List.cons_append, skipL, if_pos h.1, ih h.2]
    simp; omega
/-- A comment and its line's end. -/
theorem skp_comment {l : List UInt8} (h : ∀ c ∈ l, ¬ c = 10) : Skp (35 :: l ++ [10]) := by
  intro r
  have key : ∀ (l : List UInt8), (∀ c ∈ l, ¬ c = 10) → skipL true (l ++ 10 :: r) = l.length + 1 + skipL false r := by
    intro l
    induction l with
    | nil => intro _; simp [skipL]
    | cons c l ih =>
      intro hl
      have hc : ¬ c.toNat = 10 := fun e => hl c (by simp) (UInt8.toNat_inj.1 e)
      rw [List.cons_append, skipL, if_neg hc, ih (fun x hx => hl x (by simp [hx]))]
      simp; omega
  have e35 : isB 35 = false := by decide
  have n35 : (35 : UInt8).toNat = 35 := rfl
  rw [List.cons_append, List.cons_append, skipL, if_neg (by simp [e35]), if_pos n35, List.append_assoc]
  rw [show [10] ++ r = 10 :: r from rfl, key l h]
  simp; omega
end Go.Proofs.YtjohnhaahpggkabDoor
