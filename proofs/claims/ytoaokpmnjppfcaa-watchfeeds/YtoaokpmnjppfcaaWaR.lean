import Derived.Test.YtoaokpmnjppfcaaWaQ
namespace Go.Proofs.Ytoaokpmnjppfcaa
open Go.RowKit
set_option linter.unusedVariables false
set_option linter.unusedSimpArgs false

/-- An alarm of tick t, or none. -/
def Pz (t : Int) (x : Al) : Prop := (x.k = 0 → x = al0) ∧ (x.k ≠ 0 → x.t = t)
theorem pz_rs {t : Int} {x a : Al} (h : Pz t x) (ha : a.k ≠ 0) (ht : a.t = t) : Pz t (rsF x a) := by
  unfold rsF
  split
  · exact ⟨fun e => absurd e ha, fun _ => ht⟩
  · exact h
theorem pz_put {t : Int} {x a : Al} {b : Bool} (h : Pz t x) (ha : b = true → a.k ≠ 0) (ht : a.t = t) : Pz t (put x b a) := by
  cases b with
  | false => exact h
  | true => exact pz_rs h (ha rfl) ht
theorem pz_lk {t : Int} {x : Al} {g : Gr} {n : Tn} (h : Pz t x) (ht : n.t = t) : Pz t (lkF x g n) := by
  unfold lkF
  refine pz_put (pz_put (pz_put (pz_put (pz_put h ?_ ht) ?_ ht) ?_ ht) ?_ ht) ?_ ht <;> (intro _ e; cases e)
theorem pz_pr {t : Int} {x : Al} {c : Cf} {a b : Tn} (h : Pz t x) (ht : a.t = t) : Pz t (prF x c a b) := by
  unfold prF
  refine pz_put (pz_put (pz_put h ?_ ht) ?_ ht) ?_ ht
  · intro _ e; cases e
  · intro hb; simpa using hb
  · intro hb; simpa using hb
theorem pz_lkN {R : List Gr} {f : Nat → Lm} {t : Int} {s : ByteArray} {x : Al} (h : Pz t x) : ∀ k, Pz t (lkN R f t s x k)
  | 0 => h
  | k + 1 => pz_lk (pz_lkN h k) rfl
theorem pz_prN {C : List Cf} {f : Nat → Lm} {t : Int} {s : ByteArray} {x : Al} (h : Pz t x) : ∀ k, Pz t (prN C f t s x k)
  | 0 => h
  | k + 1 => pz_pr (pz_prN h k) rfl
theorem pz_msL {t : Int} {s : ByteArray} : ∀ n k, Pz t (msL t s k n)
  | 0, _ => ⟨fun _ => rfl, fun e => absurd rfl e⟩
  | n + 1, k => by
    unfold msL
    split
    · exact pz_msL n (k + 1)
    · exact ⟨fun e => absurd e (by show ¬ (1 : Int) = 0; decide), fun _ => rfl⟩
theorem pz_msF {n : Nat} {t : Int} {s : ByteArray} : Pz t (msF n t s) := by
  unfold msF
  split
  · exact pz_msL _ _
  · exact ⟨fun e => absurd e (by show ¬ (1 : Int) = 0; decide), fun _ => rfl⟩
theorem pz_fr (R : List Gr) (C : List Cf) (f : Nat → Lm) (t : Int) (s : ByteArray) : Pz t (frF R C f t s) := by
  unfold frF
  split
  · exact pz_prN (pz_lkN pz_msF _) _
  · exact pz_msF
/-- What Judge answers of the texts that are left. -/
def jgL (R : List Gr) (C : List Cf) (st : Sta) : List ByteArray → Al
  | [] => al0
  | s :: r => if (fdA R C st s).k = 0 then jgL R C (fdS R C st s) r else fdA R C st s
def st0 (L0 : List Al) : Sta := ⟨fun _ => lm0, 0, al0, L0⟩
/-- The numbers of a state, k texts fed at most. -/
structure Sok (st : Sta) (k : Nat) : Prop where
  lm : ∀ i, (0 ≤ (st.f i).lo ∧ (st.f i).lo ≤ k) ∧ (0 ≤ (st.f i).fr ∧ (st.f i).fr ≤ k)
  tk : 0 ≤ st.tk ∧ st.tk ≤ k
theorem sok0 (L0 : List Al) : Sok (st0 L0) 0 := ⟨fun i => ⟨⟨Int.le_refl _, Int.le_refl _⟩, Int.le_refl _, Int.le_refl _⟩, Int.le_refl _, Int.le_refl _⟩
theorem Sok.up {st : Sta} {k m : Nat} (h : Sok st k) (hm : k ≤ m) : Sok st m := ⟨fun i => by have := h.lm i; omega, by have := h.tk; omega⟩
theorem sh_ok {l : Lm} {t c : Int} {k : Nat} (h1 : 0 ≤ l.lo ∧ l.lo ≤ k) (h2 : 0 ≤ l.fr ∧ l.fr ≤ k) (h3 : 0 ≤ t ∧ t ≤ k) : (0 ≤ (shF l t c).lo ∧ (shF l t c).lo ≤ (k + 1 : Nat)) ∧ (0 ≤ (shF l t c).fr ∧ (shF l t c).fr ≤ (k + 1 : Nat)) := by
  unfold shF
  dsimp only
  split <;> split <;> omega
theorem Sok.next {R : List Gr} {C : List Cf} {st : Sta} {k : Nat} (h : Sok st k) (s : ByteArray) : Sok (fdS R C st s) (k + 1) := by
  unfold fdS
  split
  · refine ⟨fun i => ?_, by have := h.tk; dsimp only; omega⟩
    dsimp only
    unfold lmF
    split
    · unfold lmN
      have := h.lm i
      split
      · exact sh_ok this.1 this.2 h.tk
      · omega
    · have := h.lm i; omega
  · exact h.up (by omega)
theorem fok_of {G : List Gp} {C : List Cf} {st : Sta} {k : Nat} (hg : gridB G C = true) (h : Sok st k) (hk : k ≤ 4611686018427387904) (lC : C.length ≤ 4398046511000) : FOk (grL G) C st.f st.tk where
  n64 := by rw [grL_len]; exact grid_len hg
  m40 := lC
  gr := fun i hi => by
    rw [grL_get]
    have hi' : i < G.length := by rwa [grL_len] at hi
    have hb := grid_gp hg i hi'
    unfold grF
    rw [List.getD_eq_getElem?_getD, List.getElem?_eq_getElem hi']
    simp [gpB, timeB, amberB] at hb
    simp only [Option.getD_some]
    omega
  cf := fun i hi => by
    have := grid_cf hg i hi
    rw [grL_len]
    omega
  lm := fun i => by have := h.lm i; omega
  tk := by have := h.tk; omega
theorem jg_t (R : List Gr) (C : List Cf) : ∀ (l : List ByteArray) (st : Sta), st.tr.k = 0 → (jgL R C st l).k ≠ 0 → st.tk ≤ (jgL R C st l).t
  | [], st, _, h => absurd rfl h
  | s :: r, st, h0, h => by
    unfold jgL at h ⊢
    have ea : fdA R C st s = frF R C st.f st.tk s := by unfold fdA; rw [if_pos h0]
    by_cases hz : (fdA R C st s).k = 0
    · rw [if_pos hz] at h ⊢
      have es : fdS R C st s = ⟨lmF R st.f st.tk s, st.tk + 1, st.tr, st.lg⟩ := by
        unfold fdS trN lgN
        rw [if_pos h0, ← ea, if_pos hz, if_pos hz]
      have := jg_t R C r (fdS R C st s) (by rw [es]; exact h0) h
      rw [es] at this ⊢
      dsimp only at this
      omega
    · rw [if_neg hz] at h ⊢
      rw [ea] at h ⊢
      rw [(pz_fr R C st.f st.tk s).2 h]
      exact Int.le_refl _
/-- The state behind the first i texts. -/
def stN (R : List Gr) (C : List Cf) (T : List ByteArray) (L0 : List Al) : Nat → Sta
  | 0 => st0 L0
  | i + 1 => fdS R C (stN R C T L0 i) (T.getD i ⟨#[]⟩)
theorem stN_ok (R : List Gr) (C : List Cf) (T : List ByteArray) (L0 : List Al) : ∀ i, Sok (stN R C T L0 i) i
  | 0 => sok0 L0
  | i + 1 => (stN_ok R C T L0 i).next _
/-- What a monitor that is fed shows, by what Judge answers. -/
structure Jv (R : List Gr) (C : List Cf) (T : List ByteArray) (L0 : List Al) (x : Al) (i : Nat) (st : Sta) : Prop where
  tr : st.tr = if x.k ≠ 0 ∧ x.t < i then x else al0
  lg : st.lg = if x.k ≠ 0 ∧ x.t < i then L0 ++ [x] else L0
  jg : st.tr.k = 0 → jgL R C st (T.drop i) = x ∧ st.tk = i
theorem jv_zero (R : List Gr) (C : List Cf) (T : List ByteArray) (L0 : List Al) : Jv R C T L0 (jgL R C (st0 L0) T) 0 (st0 L0) := by
  have hn : ¬ ((jgL R C (st0 L0) T).k ≠ 0 ∧ (jgL R C (st0 L0) T).t < (0 : Nat)) := by
    rintro ⟨h1, h2⟩
    have := jg_t R C T (st0 L0) rfl h1
    have e : (st0 L0).tk = 0 := rfl
    omega
  exact ⟨by rw [if_neg hn]; rfl, by rw [if_neg hn]; rfl, fun _ => ⟨by rw [List.drop_zero], rfl⟩⟩
theorem Jv.next {R : List Gr} {C : List Cf} {T : List ByteArray} {L0 : List Al} {x : Al} {i : Nat} {st : Sta} (h : Jv R C T L0 x i st) (hi : i < T.length) :
    fdA R C st (T.getD i ⟨#[]⟩) = (if x.k ≠ 0 ∧ x.t = i then x else al0) ∧ Jv R C T L0 x (i + 1) (fdS R C st (T.getD i ⟨#[]⟩)) := by
  have hd : T.drop i = T.getD i ⟨#[]⟩ :: T.drop (i + 1) := by
    rw [List.getD_eq_getElem?_getD, List.getElem?_eq_getElem hi]
    exact List.drop_eq_getElem_cons hi
  generalize T.getD i ⟨#[]⟩ = s at *
  by_cases h0 : st.tr.k = 0
  · obtain ⟨j1, j2⟩ := h.jg h0
    have nx : ¬ (x.k ≠ 0 ∧ x.t < i) := fun c => by
      have := h.tr
      rw [if_pos c] at this
      rw [this] at h0
      exact c.1 h0
    have ea : fdA R C st s = frF R C st.f st.tk s := by unfold fdA; rw [if_pos h0]
    have etr : st.tr = al0 := by have := h.tr; rwa [if_neg nx] at this
    have elg : st.lg = L0 := by have := h.lg; rwa [if_neg nx] at this
    rw [hd] at j1
    unfold jgL at j1
    by_cases hz : (fdA R C st s).k = 0
    · rw [if_pos hz] at j1
      have es : fdS R C st s = ⟨lmF R st.f st.tk s, st.tk + 1, st.tr, st.lg⟩ := by
        unfold fdS trN lgN
        rw [if_pos h0, ← ea, if_pos hz, if_pos hz]
      have hx : x.k ≠ 0 → (i : Int) + 1 ≤ x.t := fun hx => by
        have := jg_t R C (T.drop (i + 1)) (fdS R C st s) (by rw [es]; exact h0) (by rw [j1]; exact hx)
        rw [j1, es] at this
        dsimp only at this
        omega
      have n1 : ¬ (x.k ≠ 0 ∧ x.t = i) := fun c => by have := hx c.1; omega
      have n2 : ¬ (x.k ≠ 0 ∧ x.t < ((i + 1 : Nat) : Int)) := fun c => by have := hx c.1; omega
      refine ⟨?_, ?_, ?_, fun _ => ⟨j1, by rw [es]; dsimp only; omega⟩⟩
      · rw [if_neg n1]
        rw [ea] at hz ⊢
        exact (pz_fr R C st.f st.tk s).1 hz
      · rw [if_neg n2, es]; exact etr
      · rw [if_neg n2, es]; exact elg
    · rw [if_neg hz] at j1
      have es : fdS R C st s = ⟨lmF R st.f st.tk s, st.tk + 1, frF R C st.f st.tk s, st.lg ++ [frF R C st.f st.tk s]⟩ := by
        unfold fdS trN lgN
        rw [if_pos h0, ← ea, if_neg hz, if_neg hz]
      have ex : frF R C st.f st.tk s = x := by rw [← ea]; exact j1
      have hxk : x.k ≠ 0 := by rw [← j1]; exact hz
      have hxt : x.t = i := by
        have := (pz_fr R C st.f st.tk s).2 (by rw [ex]; exact hxk)
        rw [ex] at this
        omega
      have c2 : x.k ≠ 0 ∧ x.t < ((i + 1 : Nat) : Int) := ⟨hxk, by omega⟩
      refine ⟨?_, ?_, ?_, fun c => ?_⟩
      · rw [if_pos ⟨hxk, hxt⟩]; exact j1
      · rw [if_pos c2, es]; exact ex
      · rw [if_pos c2, es]; dsimp only; rw [ex, elg]
      · rw [es] at c
        dsimp only at c
        rw [ex] at c
        exact absurd c hxk
  · have c : x.k ≠ 0 ∧ x.t < i := by
      by_cases c : x.k ≠ 0 ∧ x.t < i
      · exact c
      · have := h.tr
        rw [if_neg c] at this
        rw [this] at h0
        exact absurd rfl h0
    have es : fdS R C st s = st := by unfold fdS; rw [if_neg h0]
    have ea : fdA R C st s = al0 := by unfold fdA; rw [if_neg h0]
    have c2 : x.k ≠ 0 ∧ x.t < ((i + 1 : Nat) : Int) := ⟨c.1, by omega⟩
    have n1 : ¬ (x.k ≠ 0 ∧ x.t = i) := fun d => by omega
    rw [es, ea]
    refine ⟨by rw [if_neg n1], ?_, ?_, fun e => absurd e h0⟩
    · rw [if_pos c2]; have := h.tr; rwa [if_pos c] at this
    · rw [if_pos c2]; have := h.lg; rwa [if_pos c] at this
theorem Jv.last {R : List Gr} {C : List Cf} {T : List ByteArray} {L0 : List Al} {x : Al} {st : Sta} (h : Jv R C T L0 x T.length st) (hx : x.k ≠ 0) : x.t < T.length := by
  by_cases c : x.k ≠ 0 ∧ x.t < T.length
  · exact c.2
  · have := h.tr
    rw [if_neg c] at this
    have j := (h.jg (by rw [this]; rfl)).1
    rw [List.drop_length] at j
    unfold jgL at j
    rw [← j] at hx
    exact absurd rfl hx
theorem jg_log (R : List Gr) (C : List Cf) (L0 L1 : List Al) : ∀ (l : List ByteArray) (f : Nat → Lm) (t : Int) (tr : Al), jgL R C ⟨f, t, tr, L0⟩ l = jgL R C ⟨f, t, tr, L1⟩ l
  | [], _, _, _ => rfl
  | s :: r, f, t, tr => by
    unfold jgL
    have ea : fdA R C ⟨f, t, tr, L0⟩ s = fdA R C ⟨f, t, tr, L1⟩ s := rfl
    rw [ea]
    by_cases hz : (fdA R C ⟨f, t, tr, L1⟩ s).k = 0
    · rw [if_pos hz, if_pos hz]
      unfold fdS
      dsimp only
      by_cases h0 : tr.k = 0
      · rw [if_pos h0, if_pos h0]
        have : (frF R C f t s).k = 0 := by unfold fdA at hz; rwa [if_pos h0] at hz
        unfold lgN
        rw [if_pos this, if_pos this]
        exact jg_log R C L0 L1 r _ _ _
      · rw [if_neg h0, if_neg h0]
        exact jg_log R C L0 L1 r _ _ _
    · rw [if_neg hz, if_neg hz]
end Go.Proofs.Ytoaokpmnjppfcaa
