import Derived.Test.YtddphepgcihdbaaTbM
namespace Go.Proofs.Ytddphepgcihdbaa
open Go.RowKit
set_option linter.unusedVariables false
set_option linter.unusedSimpArgs false

/-- The shift at a minute. -/
def plG (m : Int) (H : List Sh) : Int := H.foldl (fun p x => if x.m ≤ m then x.plus else p) 0
theorem pl_step (m : Int) (H : List Sh) (k : Nat) (h : k < H.length) : plG m (H.take (k + 1)) = if H[k].m ≤ m then H[k].plus else plG m (H.take k) := by
  unfold plG
  rw [List.take_succ_eq_append_getElem h, List.foldl_append]; rfl
theorem pl_end (m : Int) (H : List Sh) : plG m (H.take H.length) = plG m H := by rw [List.take_length]
/-- Local time, within the calendar. -/
def loF (m p : Int) : Int := min (max (m + p) 0) 210379679
/-- The week in force on a day. -/
def wkG (d : Int) (w0 : List Int) (S : List Sn) : List Int := S.foldl (fun p x => if x.fr ≤ d ∧ d ≤ x.till then x.wk else p) w0
theorem wk_step (d : Int) (w0 : List Int) (S : List Sn) (k : Nat) (h : k < S.length) : wkG d w0 (S.take (k + 1)) = if S[k].fr ≤ d ∧ d ≤ S[k].till then S[k].wk else wkG d w0 (S.take k) := by
  unfold wkG
  rw [List.take_succ_eq_append_getElem h, List.foldl_append]; rfl
/-- The kind of a day. -/
def knF (t : Tt) (d : Int) : Int := match t.X.find? (fun x => x.day == d) with
  | some x => x.kind
  | none => (wkG d t.wk t.S).getD ((d + 5) % 7).toNat 0
theorem find_drop (X : List Ex) (d : Int) (k : Nat) (h : k < X.length) : (X.drop k).find? (fun x => x.day == d) = if X[k].day = d then some X[k] else (X.drop (k + 1)).find? (fun x => x.day == d) := by
  rw [List.drop_eq_getElem_cons h, List.find?_cons]
  by_cases e : X[k].day = d
  · simp [e]
  · have : (X[k].day == d) = false := beq_eq_false_iff_ne.2 e
    rw [this, if_neg e]
/-- The last row up to a minute of the day. -/
def lrG (c : Int) (R : List Rw) : Option Rw := R.foldl (fun p x => if x.m ≤ c then some x else p) none
theorem lr_step (c : Int) (R : List Rw) (k : Nat) (h : k < R.length) : lrG c (R.take (k + 1)) = if R[k].m ≤ c then some R[k] else lrG c (R.take k) := by
  unfold lrG
  rw [List.take_succ_eq_append_getElem h, List.foldl_append]; rfl
/-- The rows of a day's kind. -/
def rwF (t : Tt) (d : Int) : List Rw := match t.D[(knF t d).toNat]? with
  | some x => x.rows
  | none => []
/-- The slot in force. -/
def slF (t : Tt) (m : Int) : Int := match lrG (loF m (plG m t.H) % 1440) (rwF t (loF m (plG m t.H) / 1440)) with
  | some x => x.s
  | none => if loF m (plG m t.H) / 1440 = 0 then -1 else match (rwF t (loF m (plG m t.H) / 1440 - 1)).getLast? with
    | some x => x.s
    | none => 0
/-- What a question about a number up to most is refused with. -/
def erF (t : Tt) (n most : Int) : Int := if t.err = 0 then (if 0 ≤ n ∧ n ≤ most then 0 else 189) else t.err
theorem err_zero {t : Tt} (h : t.err = 0) : t.nmsB = true ∧ t.limB = true ∧ t.rowB = true ∧ t.oneB = true ∧ t.clkB = true ∧ t.datB = true ∧ t.kinB = true ∧ t.ordB = true := by
  unfold Tt.err at h
  cases h1 : t.nmsB <;> cases h2 : t.limB <;> cases h3 : t.rowB <;> cases h4 : t.oneB <;> cases h5 : t.clkB <;> cases h6 : t.datB <;> cases h7 : t.kinB <;> cases h8 : t.ordB <;> simp_all
theorem pl_bounds {t : Tt} (h : t.clkB = true) (m : Int) : -720 ≤ plG m t.H ∧ plG m t.H ≤ 840 := by
  simp only [Tt.clkB, Bool.and_eq_true, List.all_eq_true] at h
  have h2 := h.2
  unfold plG
  have key : ∀ (H : List Sh) (p : Int), (∀ x ∈ H, inB x.plus (-720) 840 = true) → (-720 ≤ p ∧ p ≤ 840) → -720 ≤ H.foldl (fun p x => if x.m ≤ m then x.plus else p) p ∧ H.foldl (fun p x => if x.m ≤ m then x.plus else p) p ≤ 840 := by
    intro H
    induction H with
    | nil => intro p _ hp; exact hp
    | cons x H ih =>
      intro p hx hp
      rw [List.foldl_cons]
      refine ih _ (fun y hy => hx y (List.mem_cons_of_mem _ hy)) ?_
      have := hx x (List.mem_cons_self ..)
      simp only [inB, Bool.and_eq_true, decide_eq_true_eq] at this
      split
      · exact this
      · exact hp
  exact key t.H 0 h2 (by omega)
theorem lo_bounds (m p : Int) : 0 ≤ loF m p ∧ loF m p ≤ 210379679 := by unfold loF; omega
theorem wkG_len (d : Int) (w0 : List Int) (S : List Sn) (h : w0.length = 7) : (wkG d w0 S).length = 7 := by
  unfold wkG
  induction S generalizing w0 with
  | nil => exact h
  | cons x S ih =>
    rw [List.foldl_cons]
    apply ih
    split
    · rfl
    · exact h
theorem wkG_all (d : Int) (w0 : List Int) (S : List Sn) (p : Int → Bool) (h : w0.all p = true) (hs : ∀ x ∈ S, x.wk.all p = true) : (wkG d w0 S).all p = true := by
  unfold wkG
  induction S generalizing w0 with
  | nil => exact h
  | cons x S ih =>
    rw [List.foldl_cons]
    apply ih
    · split
      · exact hs x (List.mem_cons_self ..)
      · exact h
    · exact fun y hy => hs y (List.mem_cons_of_mem _ hy)
theorem kn_bounds {t : Tt} (h : t.kinB = true) (d : Int) : 0 ≤ knF t d ∧ knF t d < (t.D.length : Int) := by
  simp only [Tt.kinB, Bool.and_eq_true] at h
  obtain ⟨h1, h2, h3⟩ := h
  unfold knF
  split
  · rename_i x hx
    have hm := List.mem_of_find?_eq_some hx
    have := List.all_eq_true.1 h3 x hm
    simpa [kdB] using this
  · have hl := wkG_len d t.wk t.S rfl
    have ha := wkG_all d t.wk t.S _ h1 (fun x hx => List.all_eq_true.1 h2 x hx)
    have hi : ((d + 5) % 7).toNat < (wkG d t.wk t.S).length := by rw [hl]; omega
    rw [List.getD_eq_getElem?_getD, List.getElem?_eq_getElem hi]
    have := List.all_eq_true.1 ha _ (List.getElem_mem hi)
    simpa [kdB] using this
theorem row_at {t : Tt} (h : t.kinB = true) (d : Int) : ∃ hi : (knF t d).toNat < t.D.length, rwF t d = t.D[(knF t d).toNat].rows := by
  have := kn_bounds h d
  have hi : (knF t d).toNat < t.D.length := by omega
  refine ⟨hi, ?_⟩
  unfold rwF
  rw [List.getElem?_eq_getElem hi]
theorem row_pos {t : Tt} (h : t.kinB = true) (h2 : t.rowB = true) (d : Int) : 0 < (rwF t d).length := by
  obtain ⟨hi, e⟩ := row_at h d
  rw [e]
  simp only [Tt.rowB, Bool.and_eq_true] at h2
  have := List.all_eq_true.1 h2.2 _ (List.getElem_mem hi)
  simpa using this
end Go.Proofs.Ytddphepgcihdbaa
