import Derived.Test.YtddphepgcihdbaaGen
import Derived.Deep.RegionHeld3
namespace Go.Proofs.Ytddphepgcihdbaa
open Go.RowKit
set_option linter.unusedVariables false


def cntF (l : Array Bool) : Nat := l.toList.count false
theorem cntF_set {l : Array Bool} {i : Nat} (h : l.getD i true = false) : cntF (l.setIfInBounds i true) + 1 = cntF l := by
  unfold cntF
  have hi : i < l.size := by
    rcases Nat.lt_or_ge i l.size with h' | h'
    · exact h'
    · simp [Array.getElem?_eq_none h'] at h
  have he : l.toList[i]'(by simpa using hi) = false := by
    have : l[i] = false := by simpa [Array.getD, hi] using h
    simpa using this
  rw [Array.toList_setIfInBounds, List.count_set (by simpa using hi)]
  have hp : 0 < l.toList.count false := List.count_pos_iff.2 (he ▸ List.getElem_mem _)
  rw [he]
  simp only [BEq.rfl, if_true, show (true == false) = false from rfl, Bool.false_eq_true, if_false]
  omega
theorem cntF_zero {l : Array Bool} (h : cntF l = 0) (i : Nat) : l.getD i true = true := by
  unfold cntF at h
  rcases Nat.lt_or_ge i l.size with h' | h'
  · have := List.count_eq_zero.1 h
    cases hv : l[i] with
    | true => simp [h', hv]
    | false => exact absurd (by rw [← hv]; simp) this
  · simp [Array.getElem?_eq_none h']
/-- All edges lead back. -/
def backB (ops : Array Oper) : Bool := (List.range ops.size).all fun i => ((ops[i]?).map (·.after.all fun e => decide (e.on < i))).getD true
theorem backB_spec {ops : Array Oper} (h : backB ops = true) {i : Nat} {o : Oper} (ho : ops[i]? = some o) : ∀ e ∈ o.after, e.on < i := by
  intro e he
  have hlt : i < ops.size := (Array.getElem?_eq_some_iff.1 ho).1
  have := List.all_eq_true.1 h i (by simpa using hlt)
  rw [ho] at this
  simp only [Option.map_some, Option.getD_some, Array.all_eq_true_iff_forall_mem] at this
  simpa using this e he
theorem all_listed {ops : Array Oper} {md : Region.Mode} {l : Array Bool} (hb : backB ops = true) (hsz : l.size = ops.size) (hr : Region.ready md ops l = []) : ∀ i, l.getD i true = true := by
  intro i
  induction i using Nat.strongRecOn with
  | ind i ih =>
    rcases Nat.lt_or_ge i ops.size with hlt | hge
    · cases hv : l.getD i true with
      | true => rfl
      | false =>
        exfalso
        have hm : i ∈ Region.ready md ops l := mem_ready.2 ⟨hv, ops[i], Array.getElem?_eq_getElem hlt, fun e he _ => by
          have hlt' := backB_spec hb (Array.getElem?_eq_getElem hlt) e he
          have := ih e.on hlt'
          have hs : e.on < l.size := by omega
          simpa [Array.getD, hs] using this⟩
        rw [hr] at hm
        cases hm
    · simp [Array.getElem?_eq_none (show l.size ≤ i by omega)]
/-- **An invariant over all orders.** -/
theorem wpAnyH_inv {P : Program} {ops : Array Oper} {Q : Exit → Act → World → Prop} {md : Region.Mode} {S : World → Prop} (I : Array Bool → Act → World → Prop) (hb : backB ops = true)
    (hS : ∀ l a w, I l a w → S w)
    (hstep : ∀ l a w i o, I l a w → ops[i]? = some o → l.getD i true = false → (∀ e ∈ o.after, Region.binds md e = true → l.getD e.on false = true) → ∀ K : Act → World → Prop, (∀ a' w', I (l.setIfInBounds i true) a' w' → K a' w') → if Region.wanted o (yielded ops a.tmps) = true then Oper.wp P o a w K Q else K (a.put o.dst undef) w)
    (hdone : ∀ l a w, I l a w → (∀ i, l.getD i true = true) → Q .normal a w) :
    ∀ (fuel : Nat) (l : Array Bool) (a : Act) (w : World), l.size = ops.size → cntF l ≤ fuel → I l a w → wpAnyH P md ops Q S fuel l a w := by
  intro fuel
  induction fuel with
  | zero =>
    intro l a w hsz hc hI
    have hall := cntF_zero (Nat.le_zero.1 hc)
    refine ⟨?_, hdone l a w hI hall⟩
    cases hr : Region.ready md ops l with
    | nil => rfl
    | cons j js =>
      have hm : j ∈ Region.ready md ops l := by rw [hr]; simp
      have := (mem_ready.1 hm).1
      rw [hall j] at this
      cases this
  | succ fuel ih =>
    intro l a w hsz hc hI
    refine ⟨fun hr => hdone l a w hI (all_listed hb hsz hr), fun i hi => ?_⟩
    obtain ⟨h0, o, ho, hall⟩ := mem_ready.1 hi
    have hst := hstep l a w i o hI ho h0 hall (fun a' w' => S w' ∧ wpAnyH P md ops Q S fuel (l.setIfInBounds i true) a' w') (fun a' w' h => ⟨hS _ _ _ h, ih _ _ _ (by simpa using hsz) (by have := cntF_set h0; omega) h⟩)
    unfold wpOp
    rw [ho]
    dsimp only
    split at hst
    · rw [if_pos (by assumption)]; exact .inl hst
    · rw [if_neg (by assumption)]; exact hst
end Go.Proofs.Ytddphepgcihdbaa
