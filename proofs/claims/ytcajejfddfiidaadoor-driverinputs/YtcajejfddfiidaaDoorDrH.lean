import Derived.Test.YtcajejfddfiidaaDoorDrG
namespace Go.Proofs.YtcajejfddfiidaaDoor
open Go.RowKit
set_option linter.unusedVariables false
set_option linter.unusedSimpArgs false

/-- A written list begins with a stretch. -/
theorem stretch_of : ∀ (L : List En) (e : En) (a i : Nat) (t : ByteArray), trR a i (e :: L) = some t → ∃ k L' t', L = List.replicate k e ++ L' ∧ toB e = true ∧ t = lnF a (i + k) e.heads e.stage ++ t' ∧ trR (i + k + 1) (i + k + 1) L' = some t' ∧ nxS e L' = false := by
  intro L
  induction L with
  | nil =>
    intro e a i t h
    unfold trR at h
    cases hb : toB e with
    | false => rw [hb] at h; cases h
    | true =>
      rw [hb, if_pos rfl, if_neg (by simp [nxS])] at h
      unfold trR at h
      simp only [Option.map_some, Option.some.injEq] at h
      exact ⟨0, [], ⟨#[]⟩, rfl, rfl, h.symm, rfl, rfl⟩
  | cons f L ih =>
    intro e a i t h
    unfold trR at h
    cases hb : toB e with
    | false => rw [hb] at h; cases h
    | true =>
      rw [hb, if_pos rfl] at h
      cases hn : nxS e (f :: L) with
      | true =>
        rw [hn, if_pos rfl] at h
        have hf : f = e := eqE_of hn
        subst hf
        obtain ⟨k, L', t', h1, h2, h3, h4, h5⟩ := ih f a (i + 1) t h
        refine ⟨k + 1, L', t', by rw [h1, List.replicate_succ, List.cons_append], rfl, ?_, ?_, h5⟩
        · rw [h3]; congr 2; omega
        · rw [← h4]; congr 1 <;> omega
      | false =>
        rw [hn, if_neg (by simp)] at h
        obtain ⟨t', h1, h2⟩ := Option.map_eq_some_iff.1 h
        exact ⟨0, f :: L, t', rfl, rfl, h2.symm, h1, hn⟩
theorem ln_pos (a b : Nat) (h : ByteArray) (s : Int) : 0 < (lnF a b h s).data.toList.length := by rw [ln_list]; simp; omega
/-- What is guessed of a written text. -/
theorem guess_of (d : ByteArray) : ∀ (m : Nat) (L L0 : List En) (A : List UInt8) (t : ByteArray), d.data.toList = A ++ t.data.toList → trR L0.length L0.length L = some t → L0.length + L.length ≤ 65536 → t.data.toList.length < m → gsF d m A.length L0 = some (L0 ++ L) := by
  intro m
  induction m with
  | zero => intro L L0 A t _ _ _ h; omega
  | succ m ih =>
    intro L L0 A t hd ht hl hm
    cases L with
    | nil =>
      unfold trR at ht
      cases ht
      rw [gsF_end d _ _ _ (end_split d A (by rw [hd]; simp))]; simp
    | cons e L =>
      obtain ⟨k, L', t', h1, h2, h3, h4, h5⟩ := stretch_of L e _ _ t ht
      have h2' : hdB e.heads = true ∧ stB e.stage = true := by unfold toB at h2; rw [Bool.and_eq_true] at h2; exact h2
      have h3' : t.data.toList = (lnF L0.length (L0.length + k) e.heads e.stage).data.toList ++ t'.data.toList := by rw [h3]; simp
      have hlen : L.length = k + L'.length := by rw [h1]; simp
      rw [List.length_cons] at hl
      obtain ⟨g1, g2⟩ := line_guess d A t'.data.toList L0.length (L0.length + k) e.heads e.stage (by rw [hd, h3']) (by omega) (by omega) h2'.1 h2'.2 L0 rfl
      have hpos := ln_pos L0.length (L0.length + k) e.heads e.stage
      rw [h3', List.length_append] at hm
      have hsz : A.length < d.size := by
        have : d.size = d.data.toList.length := rfl
        rw [this, hd, h3', List.length_append, List.length_append]; omega
      rw [gsF_at d m _ _ hsz, g1]
      show gsF d m (upF d 10 A.length + 1) _ = _
      rw [g2, show L0.length + k + 1 - L0.length = k + 1 by omega]
      have := ih L' (L0 ++ List.replicate (k + 1) ⟨e.heads, e.stage⟩) (A ++ (lnF L0.length (L0.length + k) e.heads e.stage).data.toList) t' (by rw [hd, h3']; simp) (by rw [List.length_append, List.length_replicate]; exact h4) (by rw [List.length_append, List.length_replicate]; omega) (by omega)
      rw [List.length_append] at this
      rw [this, h1, List.replicate_succ]
      simp
theorem rtR_iff (d : ByteArray) (L : List En) : rtR d = some L ↔ trA L = some d := by
  constructor
  · intro h
    unfold rtR at h
    obtain ⟨L1, _, h2⟩ := Option.bind_eq_some_iff.1 h
    by_cases e : trA L1 = some d
    · rw [if_pos e] at h2; cases h2; exact e
    · rw [if_neg e] at h2; cases h2
  · intro h
    have h' := h
    unfold trA at h'
    by_cases hl : 65536 < L.length
    · rw [if_pos hl] at h'; cases h'
    · rw [if_neg hl] at h'
      have := guess_of d (d.size + 1) L [] [] d (by simp) h' (by simp; omega) (by show d.size < _; omega)
      unfold rtR
      rw [show gsF d (d.size + 1) 0 [] = some L from by simpa using this]
      show (if trA L = some d then some L else none) = some L
      rw [if_pos h]
theorem trA_inj {L M : List En} {d : ByteArray} (h1 : trA L = some d) (h2 : trA M = some d) : L = M := by
  have := (rtR_iff d L).2 h1
  rw [(rtR_iff d M).2 h2] at this
  cases this; rfl
end Go.Proofs.YtcajejfddfiidaaDoor
