import Derived.Test.YtoaokpmnjppfcaaWbA
import Derived.Test.YtoaokpmnjppfcaaWaR
namespace Go.Proofs.Ytoaokpmnjppfcaa
open Go.RowKit
set_option linter.unusedVariables false
set_option linter.unusedSimpArgs false

/-- How the reference's state goes with the lamps. -/
structure Rel (n : Nat) (f : Nat → Lm) (tk : Int) (la : ByteArray) (ru gn : Nat → Int) : Prop where
  t0 : 0 ≤ tk
  ru : ∀ k, k < n → ru k = (f k).lo
  gn : ∀ k, k < n → gn k = (f k).fr - 1
  fr : ∀ k, k < n → 0 ≤ (f k).fr
  z : tk = 0 → ∀ k, k < n → (f k).ch = 0
  p : 0 < tk → la.size = n ∧ ∀ k, k < n → ltr la k = (f k).ch ∧ letB (f k).ch = true
/-- The first alarm of a group by itself, as the reference tells it. -/
def gaF (g : Gp) (k : Nat) (tk : Int) (l : Lm) (c : Int) : Al :=
  if tk = 0 then (if c = 114 then al0 else ⟨2, tk, k, -1⟩)
  else if (!decide (l.ch = c) && !flB g l.ch c) = true then ⟨3, tk, k, -1⟩
  else if (decide (l.ch = 97) && (!decide (c = 97) && decide ((if l.ch = c then l.lo + 1 else l.lo) < g.amber)) || decide (c = 97) && (decide (l.ch = 97) && decide ((if l.ch = c then l.lo + 1 else l.lo) = g.amber + 1))) = true then ⟨4, tk, k, -1⟩
  else if (decide (l.ch = 108) && (!decide (c = 108) && decide ((if l.ch = c then l.lo + 1 else l.lo) < g.lead)) || decide (c = 108) && (decide (l.ch = 108) && decide ((if l.ch = c then l.lo + 1 else l.lo) = g.lead + 1))) = true then ⟨5, tk, k, -1⟩
  else if (decide (l.ch = 103) && (!decide (c = 103) && decide ((if l.ch = c then l.lo + 1 else l.lo) < g.min))) = true then ⟨6, tk, k, -1⟩
  else al0
theorem cmp_eq (a : Int) : cmpI a a = 0 := by unfold cmpI; simp
theorem ino_ah {a x : Al} (h : a.t = x.t) : (inoF a x < 0) ↔ ahB a x = true := by
  unfold inoF ahB
  rw [h, cmp_eq]
  simp only [orL, if_true]
  unfold cmpI
  by_cases h1 : a.k < x.k
  · have : ¬ a.k = x.k := by omega
    simp [h1, this]
  · by_cases h2 : x.k < a.k
    · have : ¬ a.k = x.k := by omega
      simp [h1, h2, this]
    · have e : a.k = x.k := by omega
      simp only [e, Int.lt_irrefl, if_false, if_true]
      by_cases h3 : a.a < x.a
      · simp [h3]
      · by_cases h4 : x.a < a.a
        · have : ¬ a.a = x.a := by omega
          simp [h3, h4, this]
        · have e2 : a.a = x.a := by omega
          simp only [e2, Int.lt_irrefl, if_false, if_true]
          by_cases h5 : a.b < x.b
          · simp [h5]
          · by_cases h6 : x.b < a.b
            · simp [h5, h6]
            · simp [h5, h6]
theorem rs_le {t : Int} {x a : Al} (h : Pz t x) (ht : a.t = t) (ha : a.k ≠ 0) : rsF x a = leF x a := by
  unfold rsF leF
  by_cases hx : x.k = 0
  · rw [if_pos (.inl hx), if_pos (.inl hx)]
  · have e : a.t = x.t := by rw [ht, h.2 hx]
    by_cases hi : inoF a x < 0
    · rw [if_pos (.inr hi), if_pos (.inr ⟨ha, (ino_ah e).1 hi⟩)]
    · rw [if_neg (by simp [hx, hi]), if_neg (by rintro (c | ⟨_, c⟩); exact hx c; exact hi ((ino_ah e).2 c))]
theorem pz_le {t : Int} {x a : Al} (h : Pz t x) (ha : Pz t a) : Pz t (leF x a) := by
  unfold leF
  split
  · exact ha
  · exact h
/-- Behind an alarm of a lesser kind of the same group another one changes nothing. -/
theorem le_le {x : Al} {i j t g b : Int} (hi : 0 < i) (hij : i < j) : leF (leF x ⟨i, t, g, b⟩) ⟨j, t, g, b⟩ = leF x ⟨i, t, g, b⟩ := by
  have hi0 : ¬ i = 0 := by omega
  have hj0 : ¬ j = 0 := by omega
  have hne : ¬ j = i := by omega
  have hlt : ¬ j < i := by omega
  by_cases c : x.k = 0 ∨ ((⟨i, t, g, b⟩ : Al).k ≠ 0 ∧ ahB ⟨i, t, g, b⟩ x = true)
  · have e : leF x ⟨i, t, g, b⟩ = ⟨i, t, g, b⟩ := by unfold leF; rw [if_pos c]
    rw [e]
    unfold leF ahB
    rw [if_neg (by simp [hi0, hne, hlt])]
  · have e : leF x ⟨i, t, g, b⟩ = x := by unfold leF; rw [if_neg c]
    rw [e]
    have hx : ¬ x.k = 0 := fun h => c (.inl h)
    have hn : ¬ ahB ⟨i, t, g, b⟩ x = true := fun h => c (.inr ⟨hi0, h⟩)
    unfold leF
    rw [if_neg ?_]
    rintro (h | ⟨_, h⟩)
    · exact hx h
    · unfold ahB at h hn
      dsimp only at h hn
      by_cases e1 : j = x.k
      · have : ¬ i = x.k := by omega
        rw [if_neg this] at hn
        exact hn (by simp; omega)
      · rw [if_neg e1] at h
        have hjx : j < x.k := by simpa using h
        have : ¬ i = x.k := by omega
        rw [if_neg this] at hn
        exact hn (by simp; omega)
theorem put_le {t : Int} {x a : Al} {b : Bool} (h : Pz t x) (ht : a.t = t) (ha : a.k ≠ 0) : put x b a = if b = true then leF x a else x := by
  cases b with
  | false => rfl
  | true => exact rs_le h ht ha
theorem le_none {t : Int} {x : Al} (h : Pz t x) : leF x al0 = x := by
  unfold leF
  by_cases hx : x.k = 0
  · rw [if_pos (.inl hx)]; exact (h.1 hx).symm
  · rw [if_neg]
    rintro (c | ⟨c, _⟩)
    · exact hx c
    · exact c rfl
/-- Puts in rising order: the first that is wanted. -/
theorem puts {t g : Int} {x : Al} {b2 b3 b4 b5 b6 : Bool} (h : Pz t x) : put (put (put (put (put x b2 ⟨2, t, g, -1⟩) b3 ⟨3, t, g, -1⟩) b4 ⟨4, t, g, -1⟩) b5 ⟨5, t, g, -1⟩) b6 ⟨6, t, g, -1⟩ =
    leF x (if b2 = true then ⟨2, t, g, -1⟩ else if b3 = true then ⟨3, t, g, -1⟩ else if b4 = true then ⟨4, t, g, -1⟩ else if b5 = true then ⟨5, t, g, -1⟩ else if b6 = true then ⟨6, t, g, -1⟩ else al0) := by
  have pa : ∀ k : Int, k ≠ 0 → Pz t (⟨k, t, g, -1⟩ : Al) := fun k hk => ⟨fun e => absurd e hk, fun _ => rfl⟩
  have st : ∀ (y : Al) (b : Bool) (k : Int), k ≠ 0 → Pz t y → put y b ⟨k, t, g, -1⟩ = if b = true then leF y ⟨k, t, g, -1⟩ else y := fun y b k hk hy => put_le hy rfl hk
  have keep : ∀ (i j : Int) (b : Bool), 0 < i → i < j → put (leF x ⟨i, t, g, -1⟩) b ⟨j, t, g, -1⟩ = leF x ⟨i, t, g, -1⟩ := fun i j b hi hij => by
    rw [st _ _ _ (by omega) (pz_le h (pa i (by omega)))]
    cases b with
    | false => rfl
    | true => exact le_le hi hij
  cases b2 with
  | true => rw [st x true 2 (by decide) h, if_pos rfl, keep 2 3 b3 (by decide) (by decide), keep 2 4 b4 (by decide) (by decide), keep 2 5 b5 (by decide) (by decide), keep 2 6 b6 (by decide) (by decide), if_pos rfl]
  | false =>
    rw [st x false 2 (by decide) h]
    simp only [Bool.false_eq_true, if_false]
    cases b3 with
    | true => rw [st x true 3 (by decide) h, if_pos rfl, keep 3 4 b4 (by decide) (by decide), keep 3 5 b5 (by decide) (by decide), keep 3 6 b6 (by decide) (by decide), if_pos rfl]
    | false =>
      rw [st x false 3 (by decide) h]
      simp only [Bool.false_eq_true, if_false]
      cases b4 with
      | true => rw [st x true 4 (by decide) h, if_pos rfl, keep 4 5 b5 (by decide) (by decide), keep 4 6 b6 (by decide) (by decide), if_pos rfl]
      | false =>
        rw [st x false 4 (by decide) h]
        simp only [Bool.false_eq_true, if_false]
        cases b5 with
        | true => rw [st x true 5 (by decide) h, if_pos rfl, keep 5 6 b6 (by decide) (by decide), if_pos rfl]
        | false =>
          rw [st x false 5 (by decide) h]
          simp only [Bool.false_eq_true, if_false]
          cases b6 with
          | true => rw [st x true 6 (by decide) h, if_pos rfl, if_pos rfl]
          | false => rw [st x false 6 (by decide) h]; simp only [Bool.false_eq_true, if_false]; exact (le_none h).symm
theorem mf_fl {g : Gp} {n p c : Int} (hp : letB p = true) : mfB ⟨n, g.min, g.amber, g.lead⟩ p c = (decide (p = c) || flB g p c) := by
  unfold mfB flB
  unfold letB at hp
  by_cases h1 : p = 114
  · subst h1; simp [eq_comm]
  · by_cases h2 : p = 108
    · subst h2; simp [eq_comm]
    · by_cases h3 : p = 103
      · subst h3; simp [eq_comm]
      · have h4 : p = 97 := by simpa [h1, h2, h3] using hp
        subst h4; simp [eq_comm]
/-- A look at a group is one alarm of the reference's. -/
theorem lk_ga {G : List Gp} {n k : Nat} {f : Nat → Lm} {tk : Int} {la s : ByteArray} {ru gn : Nat → Int} {x : Al} (hr : Rel n f tk la ru gn) (hk : k < n) (hc : letB (ltr s k) = true) (h : Pz tk x) :
    lkF x (grF G k) (tnF f tk s k) = leF x (gaF (G.getD k gp0) k tk (f k) (ltr s k)) := by
  unfold lkF
  have e : (tnF f tk s k).t = tk := rfl
  have eg : grF G k = ⟨k, (G.getD k gp0).min, (G.getD k gp0).amber, (G.getD k gp0).lead⟩ := rfl
  rw [eg, e, puts h]
  congr 1
  have hw : (tnF f tk s k).was = f k := rfl
  have hnw : (tnF f tk s k).now = shF (f k) tk (ltr s k) := rfl
  clear eg e
  generalize G.getD k gp0 = g at *
  unfold gaF
  by_cases ht : tk = 0
  · have hz := hr.z ht k hk
    rw [if_pos ht]
    by_cases c1 : ltr s k = 114
    · rw [if_pos c1]
      have b2 : ¬ (decide (tk = 0) && !decide ((tnF f tk s k).now.ch = 114)) = true := by simp [hnw, shF, c1]
      have b3 : ¬ (decide (0 < tk) && !mfB ⟨k, g.min, g.amber, g.lead⟩ (tnF f tk s k).was.ch (tnF f tk s k).now.ch) = true := by simp [ht]
      have b4 : ¬ (shB (tnF f tk s k) 97 g.amber || ovB (tnF f tk s k) 97 g.amber) = true := by simp [shB, ovB, hw, hnw, hz, shF, c1]
      have b5 : ¬ (shB (tnF f tk s k) 108 g.lead || ovB (tnF f tk s k) 108 g.lead) = true := by simp [shB, ovB, hw, hnw, hz, shF, c1]
      have b6 : ¬ (shB (tnF f tk s k) 103 g.min) = true := by simp [shB, hw, hz]
      rw [if_neg b2, if_neg b3, if_neg b4, if_neg b5, if_neg b6]
    · rw [if_neg c1]
      have hch : (tnF f tk s k).now.ch = ltr s k := rfl
      have b2 : (decide (tk = 0) && !decide ((tnF f tk s k).now.ch = 114)) = true := by rw [hch]; simp [c1, ht]
      rw [if_pos b2]
  · have hp := (hr.p (by have := hr.t0; omega)).2 k hk
    rw [if_neg ht]
    have b2 : ¬ (decide (tk = 0) && !decide ((tnF f tk s k).now.ch = 114)) = true := by simp [ht]
    have htk : 0 < tk := by have := hr.t0; omega
    rw [if_neg b2]
    have hch : (shF (f k) tk (ltr s k)).ch = ltr s k := rfl
    have hlo : (shF (f k) tk (ltr s k)).lo = if ltr s k = (f k).ch then (f k).lo + 1 else 1 := rfl
    have e3 : (decide (0 < tk) && !mfB ⟨k, g.min, g.amber, g.lead⟩ (tnF f tk s k).was.ch (tnF f tk s k).now.ch) = (!decide ((f k).ch = ltr s k) && !flB g (f k).ch (ltr s k)) := by
      rw [hw, hnw, hch, mf_fl hp.2]
      simp [htk]
    rw [e3]
    unfold shB ovB
    rw [hw, hnw, hch, hlo]
    have hl2 := hp.2
    generalize (f k).ch = p at *
    generalize (f k).lo = lo at *
    generalize ltr s k = c at *
    by_cases c3 : (!decide (p = c) && !flB g p c) = true
    · rw [if_pos c3, if_pos c3]
    · rw [if_neg c3, if_neg c3]
      have key : p ≠ c → (c = 97 → 0 < g.amber ∧ p = 103) ∧ (c = 108 → 0 < g.lead ∧ p = 114) := fun hpc => by
        have hfl : flB g p c = true := by
          cases hf : flB g p c with
          | true => rfl
          | false => exact absurd (by simp [hf, hpc]) c3
        unfold flB at hfl
        unfold letB at hl2
        by_cases h1 : p = 114
        · rw [if_pos h1] at hfl
          simp at hfl
          omega
        · rw [if_neg h1] at hfl
          by_cases h2 : p = 108
          · rw [if_pos h2] at hfl
            simp at hfl
            omega
          · rw [if_neg h2] at hfl
            by_cases h3 : p = 103
            · rw [if_pos h3] at hfl
              simp at hfl
              omega
            · rw [if_neg h3] at hfl
              simp at hfl
              omega
      have e4 : ∀ z : Int, (p ≠ c → c = z → 0 < (if z = 97 then g.amber else g.lead)) → (z = 97 ∨ z = 108) → (decide (p = z) && (!decide (c = z) && decide (lo < (if z = 97 then g.amber else g.lead))) || decide (c = z) && decide ((if c = p then lo + 1 else 1) = (if z = 97 then g.amber else g.lead) + 1)) = (decide (p = z) && (!decide (c = z) && decide ((if p = c then lo + 1 else lo) < (if z = 97 then g.amber else g.lead))) || decide (c = z) && (decide (p = z) && decide ((if p = c then lo + 1 else lo) = (if z = 97 then g.amber else g.lead) + 1))) := fun z hz _ => by
        generalize (if z = 97 then g.amber else g.lead) = m at *
        rw [Bool.eq_iff_iff]
        simp only [Bool.or_eq_true, Bool.and_eq_true, decide_eq_true_eq, Bool.not_eq_true', decide_eq_false_iff_not]
        by_cases hpc : p = c
        · rw [if_pos hpc, if_pos hpc.symm]
          omega
        · rw [if_neg hpc, if_neg (Ne.symm hpc)]
          have := hz hpc
          omega
      have f4 := e4 97 (fun a b => by rw [if_pos rfl]; exact ((key a).1 b).1) (.inl rfl)
      have f5 := e4 108 (fun a b => by rw [if_neg (by decide)]; exact ((key a).2 b).1) (.inr rfl)
      rw [if_pos rfl] at f4
      rw [if_neg (by decide)] at f5
      rw [f4, f5]
      have f6 : (decide (p = 103) && (!decide (c = 103) && decide (lo < g.min))) = (decide (p = 103) && (!decide (c = 103) && decide ((if p = c then lo + 1 else lo) < g.min))) := by
        rw [Bool.eq_iff_iff]
        simp only [Bool.and_eq_true, decide_eq_true_eq, Bool.not_eq_true', decide_eq_false_iff_not]
        by_cases hpc : p = c
        · rw [if_pos hpc]; omega
        · rw [if_neg hpc]
      rw [f6]
end Go.Proofs.Ytoaokpmnjppfcaa
