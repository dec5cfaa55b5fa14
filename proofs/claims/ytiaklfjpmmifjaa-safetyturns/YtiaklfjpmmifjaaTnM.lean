import Derived.Test.YtiaklfjpmmifjaaRfC
namespace Go.Proofs.Ytiaklfjpmmifjaa
open Go.RowKit
set_option linter.unusedVariables false

/-- Two numbers changed with one another. -/
def tau (i j k : Nat) : Nat := if k = i then j else if k = j then i else k
theorem tau_tau (i j k : Nat) : tau i j (tau i j k) = k := by
  unfold tau; split <;> (try split) <;> (try split) <;> omega
theorem tau_lt {i j k n : Nat} (hi : i < n) (hj : j < n) (hk : k < n) : tau i j k < n := by
  unfold tau; split <;> (try split) <;> omega
theorem tau_inj {i j a b : Nat} (h : tau i j a = tau i j b) : a = b := by
  rw [← tau_tau i j a, h, tau_tau]

/-! The greatest of a list's numbers. -/
def fm (h : Gp → Nat → Option Int) : List Gp → Nat → Int → Int
  | [], _, n => n
  | x :: xs, k, n => fm h xs (k + 1) (match h x k with | some v => (if n < v then v else n) | none => n)
theorem fm_max (h : Gp → Nat → Option Int) : ∀ (G : List Gp) (o : Nat) (n : Int), n ≤ fm h G o n ∧ (∀ (i : Nat) (hi : i < G.length) (v : Int), h G[i] (o + i) = some v → v ≤ fm h G o n) ∧
    (fm h G o n = n ∨ ∃ (i : Nat) (hi : i < G.length), h G[i] (o + i) = some (fm h G o n))
  | [], o, n => ⟨by simp [fm], fun i hi => by simp at hi, .inl rfl⟩
  | x :: xs, o, n => by
    obtain ⟨h1, h2, h3⟩ := fm_max h xs (o + 1) (match h x o with | some v => (if n < v then v else n) | none => n)
    have e : fm h (x :: xs) o n = fm h xs (o + 1) (match h x o with | some v => (if n < v then v else n) | none => n) := rfl
    rw [e]
    refine ⟨?_, fun i hi v hv => ?_, ?_⟩
    · refine Int.le_trans ?_ h1
      split
      · split <;> omega
      · omega
    · cases i with
      | zero =>
        simp only [List.getElem_cons_zero, Nat.add_zero] at hv
        refine Int.le_trans ?_ h1
        rw [hv]
        show v ≤ if n < v then v else n
        split <;> omega
      | succ i =>
        refine h2 i (by simpa using hi) v ?_
        rw [show o + 1 + i = o + (i + 1) by omega]
        simpa using hv
    · rcases h3 with h3 | ⟨i, hi, h3⟩
      · rw [h3]
        cases hx : h x o with
        | none => exact .inl rfl
        | some v =>
          by_cases hnv : n < v
          · exact .inr ⟨0, by simp, by simp [hx, hnv]⟩
          · exact .inl (by simp [hnv])
      · exact .inr ⟨i + 1, by simpa using hi, by rw [show o + (i + 1) = o + 1 + i by omega]; simpa using h3⟩
theorem fm_turn (h h' : Gp → Nat → Option Int) (G G' : List Gp) (i j : Nat) (hi : i < G.length) (hj : j < G.length) (hl : G'.length = G.length) (he : ∀ (k : Nat) (h1 : k < G'.length) (h2 : tau i j k < G.length), h' G'[k] k = h G[tau i j k] (tau i j k)) : fm h' G' 0 0 = fm h G 0 0 := by
  obtain ⟨a1, a2, a3⟩ := fm_max h G 0 0
  obtain ⟨b1, b2, b3⟩ := fm_max h' G' 0 0
  refine Int.le_antisymm ?_ ?_
  · rcases b3 with e | ⟨k, hk, e⟩
    · omega
    · rw [Nat.zero_add, he k hk (tau_lt hi hj (by omega))] at e
      exact a2 (tau i j k) (tau_lt hi hj (by omega)) _ (by rw [Nat.zero_add]; exact e)
  · rcases a3 with e | ⟨k, hk, e⟩
    · omega
    · have hk' : tau i j k < G'.length := by rw [hl]; exact tau_lt hi hj hk
      have := he (tau i j k) hk' (by rw [tau_tau]; exact hk)
      simp only [tau_tau] at this
      refine b2 (tau i j k) hk' _ ?_
      rw [Nat.zero_add, this]
      rw [Nat.zero_add] at e
      exact e
theorem wF_fm (C : List Cf) (F T : Nat) (all : Bool) (g : Int) : ∀ (G : List Gp) (o : Nat) (w : Int), wF C F T all g G o w = fm (fun x o => if (all || loses F T o) = true then some (waitV x C (o : Int) g) else none) G o w
  | [], _, _ => rfl
  | x :: xs, o, w => by
    unfold wF fm
    rw [wF_fm C F T all g xs]
    congr 1
    cases (all || loses F T o) <;> rfl
theorem mvF_fm (G : List Gp) (C : List Cf) (F T : Nat) (all : Bool) : ∀ (L : List Gp) (k : Nat) (n : Int), mvF G C F T all L k n = fm (fun x k => some (atV G C F T all x k)) L k n
  | [], _, _ => rfl
  | x :: xs, k, n => by
    unfold mvF fm
    rw [mvF_fm G C F T all xs]
theorem holdF_fm (F T : Nat) : ∀ (G : List Gp) (o : Nat) (w : Int), holdF F T G o w = fm (fun x o => if loses F T o = true then some (x.min - 1) else none) G o w
  | [], _, _ => rfl
  | x :: xs, o, w => by
    unfold holdF fm
    rw [holdF_fm F T xs]
    congr 1
    cases loses F T o <;> rfl

/-! Rows. -/
theorem ord_trans {a b c : Cf} (h : ordB a b = true) (h' : ordB b c = true) : ordB a c = true := by
  simp [ordB] at *; omega
theorem rows_pair (n : Nat) : ∀ (L : List Cf) (p : Option Cf), rowsB n p L = true ↔ (∀ c ∈ L, cfB n c = true) ∧ L.Pairwise (fun c d => ordB c d = true) ∧ ∀ c, L.head? = some c → ordP p c = true
  | [], p => by simp [rowsB]
  | c :: cs, p => by
    unfold rowsB
    rw [Bool.and_eq_true, Bool.and_eq_true, rows_pair n cs (some c)]
    constructor
    · rintro ⟨⟨h1, h2⟩, h3, h4, h5⟩
      refine ⟨fun d hd => ?_, ?_, fun d hd => ?_⟩
      · rcases List.mem_cons.1 hd with rfl | hd
        · exact h1
        · exact h3 d hd
      · refine List.Pairwise.cons (fun d hd => ?_) h4
        cases cs with
        | nil => simp at hd
        | cons e es =>
          have he : ordB c e = true := h5 e rfl
          rcases List.mem_cons.1 hd with rfl | hd
          · exact he
          · exact ord_trans he ((List.pairwise_cons.1 h4).1 d hd)
      · simp at hd; rw [← hd]; exact h2
    · rintro ⟨h1, h2, h3⟩
      obtain ⟨h4, h5⟩ := List.pairwise_cons.1 h2
      refine ⟨⟨h1 c (by simp), h3 c rfl⟩, fun d hd => h1 d (by simp [hd]), h5, fun d hd => ?_⟩
      cases cs with
      | nil => simp at hd
      | cons e es => simp at hd; rw [← hd]; exact h4 e (by simp)
/-- Rows in order, each pair once, its lesser number first. -/
structure Srt (n : Nat) (L : List Cf) : Prop where
  ok : ∀ c ∈ L, cfB n c = true
  ord : L.Pairwise (fun c d => ordB c d = true)
theorem Srt.of {n : Nat} {L : List Cf} (h : rowsB n none L = true) : Srt n L := ⟨((rows_pair n L none).1 h).1, ((rows_pair n L none).1 h).2.1⟩
theorem Srt.to {n : Nat} {L : List Cf} (h : Srt n L) : rowsB n none L = true := (rows_pair n L none).2 ⟨h.ok, h.ord, fun _ _ => rfl⟩
theorem cf_in {n : Nat} {c : Cf} (h : cfB n c = true) : 0 ≤ c.a ∧ c.a < c.b ∧ c.b < (n : Int) ∧ 0 ≤ c.ab ∧ c.ab ≤ 3600 ∧ 0 ≤ c.ba ∧ c.ba ≤ 3600 := by
  simp [cfB, timeB] at h; omega
theorem inter_mem {n : Nat} : ∀ {L : List Cf}, Srt n L → ∀ c ∈ L, interF L c.a c.b = (c.ab, true) ∧ interF L c.b c.a = (c.ba, true)
  | [], _, c, h => by simp at h
  | d :: L, hs, c, h => by
    have hd := cf_in (hs.ok d (by simp))
    have hc := cf_in (hs.ok c h)
    rcases List.mem_cons.1 h with rfl | h
    · unfold interF
      rw [if_pos ⟨rfl, rfl⟩, if_neg (by omega), if_pos ⟨rfl, rfl⟩]
      exact ⟨rfl, rfl⟩
    · have ho := (List.pairwise_cons.1 hs.ord).1 c h
      simp [ordB] at ho
      have ih := inter_mem (L := L) ⟨fun e he => hs.ok e (by simp [he]), (List.pairwise_cons.1 hs.ord).2⟩ c h
      unfold interF
      rw [if_neg (by omega), if_neg (by omega), if_neg (by omega), if_neg (by omega)]
      exact ih
theorem inter_some : ∀ {L : List Cf} {a b : Int}, (interF L a b).2 = true → ∃ c ∈ L, (c.a = a ∧ c.b = b ∧ interF L a b = (c.ab, true)) ∨ (c.a = b ∧ c.b = a ∧ interF L a b = (c.ba, true))
  | [], a, b, h => by simp [interF] at h
  | d :: L, a, b, h => by
    unfold interF at h ⊢
    by_cases h1 : d.a = a ∧ d.b = b
    · rw [if_pos h1]; exact ⟨d, by simp, .inl ⟨h1.1, h1.2, rfl⟩⟩
    · rw [if_neg h1] at h ⊢
      by_cases h2 : d.a = b ∧ d.b = a
      · rw [if_pos h2]; exact ⟨d, by simp, .inr ⟨h2.1, h2.2, rfl⟩⟩
      · rw [if_neg h2] at h ⊢
        obtain ⟨c, hc, hh⟩ := inter_some h
        exact ⟨c, by simp [hc], hh⟩
theorem inter_no : ∀ {L : List Cf} {a b : Int}, (interF L a b).2 = false → interF L a b = (0, false)
  | [], a, b, h => rfl
  | d :: L, a, b, h => by
    unfold interF at h ⊢
    by_cases h1 : d.a = a ∧ d.b = b
    · rw [if_pos h1] at h; simp at h
    · rw [if_neg h1] at h ⊢
      by_cases h2 : d.a = b ∧ d.b = a
      · rw [if_pos h2] at h; simp at h
      · rw [if_neg h2] at h ⊢
        exact inter_no h
theorem inter_sym : ∀ (L : List Cf) (a b : Int), (interF L a b).2 = (interF L b a).2
  | [], a, b => rfl
  | d :: L, a, b => by
    have ih := inter_sym L a b
    unfold interF
    (repeat' split) <;> first | rfl | exact ih | (exfalso; omega)
theorem inter_self {n : Nat} {L : List Cf} (hs : Srt n L) (a : Int) : interF L a a = (0, false) := by
  refine inter_no ?_
  cases h : (interF L a a).2 with
  | false => rfl
  | true =>
    obtain ⟨c, hc, hh⟩ := inter_some h
    have := cf_in (hs.ok c hc)
    rcases hh with hh | hh <;> omega

/-! The turned rows. -/
def rowT (C : List Cf) (i j a b : Nat) : List Cf := if (interF C (tau i j a : Nat) (tau i j b : Nat)).2 = true then [⟨a, b, (interF C (tau i j a : Nat) (tau i j b : Nat)).1, (interF C (tau i j b : Nat) (tau i j a : Nat)).1⟩] else []
def innT (C : List Cf) (i j a : Nat) : Nat → List Cf
  | 0 => []
  | k + 1 => innT C i j a k ++ (if a < k then rowT C i j a k else [])
def outT (C : List Cf) (i j n : Nat) : Nat → List Cf
  | 0 => []
  | a + 1 => outT C i j n a ++ innT C i j a n
theorem mem_inn (C : List Cf) (i j a : Nat) (c : Cf) : ∀ k, c ∈ innT C i j a k ↔ ∃ b, b < k ∧ a < b ∧ c ∈ rowT C i j a b
  | 0 => by simp [innT]
  | k + 1 => by
    unfold innT
    rw [List.mem_append, mem_inn C i j a c k]
    constructor
    · rintro (⟨b, h1, h2, h3⟩ | h)
      · exact ⟨b, by omega, h2, h3⟩
      · split at h
        · rename_i hk; exact ⟨k, by omega, hk, h⟩
        · simp at h
    · rintro ⟨b, h1, h2, h3⟩
      rcases Nat.lt_or_ge b k with hb | hb
      · exact .inl ⟨b, hb, h2, h3⟩
      · obtain rfl : b = k := by omega
        rw [if_pos h2]; exact .inr h3
theorem mem_out (C : List Cf) (i j n : Nat) (c : Cf) : ∀ m, c ∈ outT C i j n m ↔ ∃ a b, a < m ∧ b < n ∧ a < b ∧ c ∈ rowT C i j a b
  | 0 => by simp [outT]
  | m + 1 => by
    unfold outT
    rw [List.mem_append, mem_out C i j n c m, mem_inn]
    constructor
    · rintro (⟨a, b, h1, h2, h3, h4⟩ | ⟨b, h1, h2, h3⟩)
      · exact ⟨a, b, by omega, h2, h3, h4⟩
      · exact ⟨m, b, by omega, h1, h2, h3⟩
    · rintro ⟨a, b, h1, h2, h3, h4⟩
      rcases Nat.lt_or_ge a m with ha | ha
      · exact .inl ⟨a, b, ha, h2, h3, h4⟩
      · obtain rfl : a = m := by omega
        exact .inr ⟨b, h2, h3, h4⟩
theorem row_ab {C : List Cf} {i j a b : Nat} {c : Cf} (h : c ∈ rowT C i j a b) : (interF C (tau i j a : Nat) (tau i j b : Nat)).2 = true ∧ c = ⟨a, b, (interF C (tau i j a : Nat) (tau i j b : Nat)).1, (interF C (tau i j b : Nat) (tau i j a : Nat)).1⟩ := by
  unfold rowT at h
  split at h
  · rename_i h1; exact ⟨h1, List.mem_singleton.1 h⟩
  · simp at h
theorem inn_ord (C : List Cf) (i j a : Nat) : ∀ k, (innT C i j a k).Pairwise (fun c d => ordB c d = true)
  | 0 => List.Pairwise.nil
  | k + 1 => by
    unfold innT
    refine List.pairwise_append.2 ⟨inn_ord C i j a k, ?_, fun c hc d hd => ?_⟩
    · split
      · unfold rowT; split <;> simp
      · exact List.Pairwise.nil
    · obtain ⟨b, h1, h2, h3⟩ := (mem_inn C i j a c k).1 hc
      split at hd
      · have e1 := (row_ab h3).2
        have e2 := (row_ab hd).2
        rw [e1, e2]; simp [ordB]; omega
      · simp at hd
theorem out_ord (C : List Cf) (i j n : Nat) : ∀ m, (outT C i j n m).Pairwise (fun c d => ordB c d = true)
  | 0 => List.Pairwise.nil
  | m + 1 => by
    unfold outT
    refine List.pairwise_append.2 ⟨out_ord C i j n m, inn_ord C i j m n, fun c hc d hd => ?_⟩
    obtain ⟨a, b, h1, h2, h3, h4⟩ := (mem_out C i j n c m).1 hc
    obtain ⟨b', h5, h6, h7⟩ := (mem_inn C i j m d n).1 hd
    rw [(row_ab h4).2, (row_ab h7).2]; simp [ordB]; omega
theorem interI {n : Nat} {L : List Cf} (hs : Srt n L) (a b : Int) : 0 ≤ (interF L a b).1 ∧ (interF L a b).1 ≤ 3600 := by
  cases h : (interF L a b).2 with
  | false => rw [inter_no h]; simp
  | true =>
    obtain ⟨c, hc, hh⟩ := inter_some h
    have := cf_in (hs.ok c hc)
    rcases hh with ⟨_, _, e⟩ | ⟨_, _, e⟩ <;> rw [e] <;> omega
theorem out_srt {n : Nat} {C : List Cf} (hs : Srt n C) (i j : Nat) : Srt n (outT C i j n n) := by
  refine ⟨fun c hc => ?_, out_ord C i j n n⟩
  obtain ⟨a, b, h1, h2, h3, h4⟩ := (mem_out C i j n c n).1 hc
  rw [(row_ab h4).2]
  have i1 := interI hs (tau i j a : Nat) (tau i j b : Nat)
  have i2 := interI hs (tau i j b : Nat) (tau i j a : Nat)
  simp [cfB, timeB]; omega
/-- The turned rows' intergreens. -/
theorem inter_out {n : Nat} {C : List Cf} (hs : Srt n C) (i j a b : Nat) (ha : a < n) (hb : b < n) : interF (outT C i j n n) (a : Int) (b : Int) = interF C (tau i j a : Nat) (tau i j b : Nat) := by
  have ho := out_srt hs i j
  have key : ∀ a b : Nat, a < n → b < n → a < b → interF (outT C i j n n) (a : Int) (b : Int) = interF C (tau i j a : Nat) (tau i j b : Nat) ∧ interF (outT C i j n n) (b : Int) (a : Int) = interF C (tau i j b : Nat) (tau i j a : Nat) := by
    intro a b ha hb hab
    cases h : (interF C (tau i j a : Nat) (tau i j b : Nat)).2 with
    | true =>
      have hr : (⟨a, b, (interF C (tau i j a : Nat) (tau i j b : Nat)).1, (interF C (tau i j b : Nat) (tau i j a : Nat)).1⟩ : Cf) ∈ outT C i j n n := (mem_out C i j n _ n).2 ⟨a, b, ha, hb, hab, by unfold rowT; rw [if_pos h]; simp⟩
      have hm := inter_mem ho _ hr
      have h' := h
      rw [inter_sym] at h'
      exact ⟨hm.1.trans (Prod.ext rfl h.symm), hm.2.trans (Prod.ext rfl h'.symm)⟩
    | false =>
      have h' := h
      rw [inter_sym] at h'
      have hn : (interF (outT C i j n n) (a : Int) (b : Int)).2 = false := by
        cases h2 : (interF (outT C i j n n) (a : Int) (b : Int)).2 with
        | false => rfl
        | true =>
          obtain ⟨c, hc, hh⟩ := inter_some h2
          obtain ⟨a', b', q1, q2, q3, q4⟩ := (mem_out C i j n c n).1 hc
          obtain ⟨r1, r2⟩ := row_ab q4
          rw [r2] at hh
          simp only at hh
          rcases hh with ⟨e1, e2, _⟩ | ⟨e1, e2, _⟩
          · obtain rfl : a' = a := by omega
            obtain rfl : b' = b := by omega
            rw [r1] at h; cases h
          · omega
      have hn' := hn
      rw [inter_sym] at hn'
      exact ⟨(inter_no hn).trans (inter_no h).symm, (inter_no hn').trans (inter_no h').symm⟩
  rcases Nat.lt_trichotomy a b with h | h | h
  · exact (key a b ha hb h).1
  · subst h; rw [inter_self ho, inter_self hs]
  · exact (key b a hb ha h).2
/-- As many rows. -/
theorem len_le {α β : Type} (f : α → β) : ∀ (L : List α) (M : List β), L.Pairwise (fun x y => f x ≠ f y) → (∀ x ∈ L, f x ∈ M) → L.length ≤ M.length
  | [], M, _, _ => by simp
  | x :: L, M, hp, hm => by
    obtain ⟨h1, h2⟩ := List.pairwise_cons.1 hp
    obtain ⟨M1, M2, rfl⟩ := List.append_of_mem (hm x (by simp))
    have := len_le f L (M1 ++ M2) h2 (fun y hy => by
      have := hm y (by simp [hy])
      rcases List.mem_append.1 this with h | h
      · exact List.mem_append.2 (.inl h)
      · rcases List.mem_cons.1 h with h | h
        · exact absurd h.symm (h1 y hy)
        · exact List.mem_append.2 (.inr h))
    simp at this ⊢; omega
def prT (i j : Nat) (c : Cf) : Nat × Nat := (min (tau i j c.a.toNat) (tau i j c.b.toNat), max (tau i j c.a.toNat) (tau i j c.b.toNat))
theorem srt_ne {n : Nat} {L : List Cf} (hs : Srt n L) (i j : Nat) : L.Pairwise (fun c d => prT i j c ≠ prT i j d) := by
  refine hs.ord.imp_of_mem (fun {c d} hc hd ho he => ?_)
  have h1 := cf_in (hs.ok c hc)
  have h2 := cf_in (hs.ok d hd)
  simp [ordB] at ho
  unfold prT at he
  obtain ⟨e1, e2⟩ := Prod.mk.inj he
  have hab : (tau i j c.a.toNat = tau i j d.a.toNat ∧ tau i j c.b.toNat = tau i j d.b.toNat) ∨ (tau i j c.a.toNat = tau i j d.b.toNat ∧ tau i j c.b.toNat = tau i j d.a.toNat) := by omega
  rcases hab with ⟨q1, q2⟩ | ⟨q1, q2⟩
  · have r1 := tau_inj q1
    have r2 := tau_inj q2
    omega
  · have r1 := tau_inj q1
    have r2 := tau_inj q2
    omega
theorem out_len {n : Nat} {C : List Cf} (hs : Srt n C) {i j : Nat} (hi : i < n) (hj : j < n) : (outT C i j n n).length = C.length := by
  have ho := out_srt hs i j
  refine Nat.le_antisymm ?_ ?_
  · have := len_le (prT i j) (outT C i j n n) (C.map fun c => (c.a.toNat, c.b.toNat)) (srt_ne ho i j) (fun c hc => ?_)
    · simpa using this
    · obtain ⟨a, b, h1, h2, h3, h4⟩ := (mem_out C i j n c n).1 hc
      obtain ⟨r1, r2⟩ := row_ab h4
      obtain ⟨d, hd, hh⟩ := inter_some r1
      have hd' := cf_in (hs.ok d hd)
      rw [List.mem_map]
      refine ⟨d, hd, ?_⟩
      rw [r2]
      unfold prT
      simp only [Int.toNat_natCast]
      rcases hh with ⟨e1, e2, _⟩ | ⟨e1, e2, _⟩ <;> (refine Prod.ext ?_ ?_ <;> simp only <;> omega)
  · have := len_le (prT i j) C ((outT C i j n n).map fun c => (c.a.toNat, c.b.toNat)) (srt_ne hs i j) (fun c hc => ?_)
    · simpa using this
    · have hc' := cf_in (hs.ok c hc)
      have hm := inter_mem hs c hc
      have la : c.a.toNat < n := by omega
      have lb : c.b.toNat < n := by omega
      have ta := tau_lt hi hj la
      have tb := tau_lt hi hj lb
      have hne : tau i j c.a.toNat ≠ tau i j c.b.toNat := fun e => by have := tau_inj e; omega
      have ea : ((c.a.toNat : Nat) : Int) = c.a := by omega
      have eb : ((c.b.toNat : Nat) : Int) = c.b := by omega
      rw [List.mem_map]
      rcases Nat.lt_or_gt_of_ne hne with h | h
      · have hr : (interF C (tau i j (tau i j c.a.toNat) : Nat) (tau i j (tau i j c.b.toNat) : Nat)).2 = true := by rw [tau_tau, tau_tau, ea, eb, hm.1]
        refine ⟨_, (mem_out C i j n _ n).2 ⟨tau i j c.a.toNat, tau i j c.b.toNat, ta, tb, h, by unfold rowT; rw [if_pos hr]; exact List.mem_singleton.2 rfl⟩, ?_⟩
        unfold prT
        simp only [Int.toNat_natCast]
        refine Prod.ext ?_ ?_ <;> simp only <;> omega
      · have hr : (interF C (tau i j (tau i j c.b.toNat) : Nat) (tau i j (tau i j c.a.toNat) : Nat)).2 = true := by rw [tau_tau, tau_tau, ea, eb, hm.2]
        refine ⟨_, (mem_out C i j n _ n).2 ⟨tau i j c.b.toNat, tau i j c.a.toNat, tb, ta, h, by unfold rowT; rw [if_pos hr]; exact List.mem_singleton.2 rfl⟩, ?_⟩
        unfold prT
        simp only [Int.toNat_natCast]
        refine Prod.ext ?_ ?_ <;> simp only <;> omega
/-- A clash. -/
theorem clash_any' (n M : Nat) : ∀ (L : List Cf), (clashF n M L).2.2 = true ↔ ∃ c ∈ L, hit n M c = true
  | [] => by simp [clashF]
  | c :: L => by
    unfold clashF
    by_cases h : hit n M c = true
    · rw [if_pos h]; simp [h]
    · rw [if_neg h, clash_any' n M L]; simp [h]
theorem clash_out {n M M' : Nat} {C : List Cf} (hs : Srt n C) {i j : Nat} (hi : i < n) (hj : j < n) (hM : ∀ k, k < n → hasN M' (k : Int) = hasN M (tau i j k : Nat)) : (clashF n M' (outT C i j n n)).2.2 = (clashF n M C).2.2 := by
  rw [Bool.eq_iff_iff, clash_any', clash_any']
  constructor
  · rintro ⟨c, hc, hh⟩
    obtain ⟨a, b, h1, h2, h3, h4⟩ := (mem_out C i j n c n).1 hc
    obtain ⟨r1, r2⟩ := row_ab h4
    rw [r2] at hh
    simp only [hit, hM a h1, hM b h2, Bool.and_eq_true] at hh
    obtain ⟨d, hd, h5⟩ := inter_some r1
    have hd' := cf_in (hs.ok d hd)
    refine ⟨d, hd, ?_⟩
    simp only [hit, Bool.and_eq_true, decide_eq_true_eq]
    rcases h5 with ⟨e1, e2, _⟩ | ⟨e1, e2, _⟩
    · rw [e1, e2]; exact ⟨⟨hh.1.1, by have := tau_lt hi hj h1; omega⟩, hh.2.1, by have := tau_lt hi hj h2; omega⟩
    · rw [e1, e2]; exact ⟨⟨hh.2.1, by have := tau_lt hi hj h2; omega⟩, hh.1.1, by have := tau_lt hi hj h1; omega⟩
  · rintro ⟨c, hc, hh⟩
    have hc' := cf_in (hs.ok c hc)
    have hm := inter_mem hs c hc
    have la : c.a.toNat < n := by omega
    have lb : c.b.toNat < n := by omega
    have ta := tau_lt hi hj la
    have tb := tau_lt hi hj lb
    have ea : ((c.a.toNat : Nat) : Int) = c.a := by omega
    have eb : ((c.b.toNat : Nat) : Int) = c.b := by omega
    have hne : tau i j c.a.toNat ≠ tau i j c.b.toNat := fun e => by have := tau_inj e; omega
    have m1 := hM _ ta
    have m2 := hM _ tb
    rw [tau_tau, ea] at m1
    rw [tau_tau, eb] at m2
    simp only [hit, Bool.and_eq_true, decide_eq_true_eq] at hh
    rcases Nat.lt_or_gt_of_ne hne with h | h
    · have hr : (interF C (tau i j (tau i j c.a.toNat) : Nat) (tau i j (tau i j c.b.toNat) : Nat)).2 = true := by rw [tau_tau, tau_tau, ea, eb, hm.1]
      refine ⟨_, (mem_out C i j n _ n).2 ⟨tau i j c.a.toNat, tau i j c.b.toNat, ta, tb, h, by unfold rowT; rw [if_pos hr]; exact List.mem_singleton.2 rfl⟩, ?_⟩
      simp only [hit, m1, m2, Bool.and_eq_true, decide_eq_true_eq]
      exact ⟨⟨hh.1.1, by omega⟩, hh.2.1, by omega⟩
    · have hr : (interF C (tau i j (tau i j c.b.toNat) : Nat) (tau i j (tau i j c.a.toNat) : Nat)).2 = true := by rw [tau_tau, tau_tau, ea, eb, hm.2]
      refine ⟨_, (mem_out C i j n _ n).2 ⟨tau i j c.b.toNat, tau i j c.a.toNat, tb, ta, h, by unfold rowT; rw [if_pos hr]; exact List.mem_singleton.2 rfl⟩, ?_⟩
      simp only [hit, m1, m2, Bool.and_eq_true, decide_eq_true_eq]
      exact ⟨⟨hh.2.1, by omega⟩, hh.1.1, by omega⟩

/-! All together. -/
def turnG (G : List Gp) (i j : Nat) (hi : i < G.length) (hj : j < G.length) : List Gp := (G.set i G[j]).set j G[i]
theorem turnG_len (G : List Gp) (i j : Nat) (hi : i < G.length) (hj : j < G.length) : (turnG G i j hi hj).length = G.length := by simp [turnG]
theorem turnG_get (G : List Gp) (i j : Nat) (hi : i < G.length) (hj : j < G.length) (k : Nat) (h1 : k < (turnG G i j hi hj).length) (h2 : tau i j k < G.length) : (turnG G i j hi hj)[k] = G[tau i j k] := by
  have hk : k < G.length := by rw [turnG_len] at h1; exact h1
  show ((G.set i G[j]).set j G[i])[k]'(by simpa using hk) = _
  rw [List.getElem_set]
  by_cases ej : j = k
  · subst ej
    rw [if_pos rfl]
    have e : tau i j j = i := by unfold tau; split <;> (try split) <;> omega
    simp only [e]
  · rw [if_neg ej, List.getElem_set]
    by_cases ei : i = k
    · subst ei
      rw [if_pos rfl]
      have e : tau i j i = j := by unfold tau; rw [if_pos rfl]
      simp only [e]
    · rw [if_neg ei]
      have e : tau i j k = k := by unfold tau; rw [if_neg (fun h => ei h.symm), if_neg (fun h => ej h.symm)]
      simp only [e]
theorem grid_parts {G : List Gp} {C : List Cf} (h : gridB G C = true) : G.length ≤ 64 ∧ (∀ x ∈ G, gpB x = true) ∧ Srt G.length C := by
  simp only [gridB, Bool.and_eq_true, decide_eq_true_eq, List.all_eq_true] at h
  exact ⟨h.1, h.2.1, Srt.of h.2.2⟩
theorem grid_turn {G : List Gp} {C : List Cf} (h : gridB G C = true) {i j : Nat} (hi : i < G.length) (hj : j < G.length) : gridB (turnG G i j hi hj) (outT C i j G.length G.length) = true := by
  obtain ⟨h1, h2, h3⟩ := grid_parts h
  simp only [gridB, Bool.and_eq_true, decide_eq_true_eq, List.all_eq_true]
  refine ⟨by rw [turnG_len]; exact h1, fun x hx => ?_, by rw [turnG_len]; exact (out_srt h3 i j).to⟩
  obtain ⟨k, hk, rfl⟩ := List.getElem_of_mem hx
  rw [turnG_get G i j hi hj k hk (tau_lt hi hj (by rw [turnG_len] at hk; exact hk))]
  exact h2 _ (List.getElem_mem _)
theorem hold_turn {G : List Gp} {C : List Cf} (h : gridB G C = true) {i j F T F' T' : Nat} (hi : i < G.length) (hj : j < G.length) (hF : ∀ k, k < G.length → hasN F' (k : Int) = hasN F (tau i j k : Nat)) (hT : ∀ k, k < G.length → hasN T' (k : Int) = hasN T (tau i j k : Nat)) : holdV (turnG G i j hi hj) (outT C i j G.length G.length) F' T' = holdV G C F T := by
  unfold holdV
  rw [if_pos h, if_pos (grid_turn h hi hj), holdF_fm, holdF_fm]
  congr 1
  refine fm_turn _ _ G _ i j hi hj (turnG_len G i j hi hj) (fun k h1 h2 => ?_)
  have hk : k < G.length := by rw [turnG_len] at h1; exact h1
  simp only [turnG_get G i j hi hj k h1 h2, loses, hF k hk, hT k hk]
  rfl
theorem span_turn {G : List Gp} {C : List Cf} (h : gridB G C = true) {i j F T F' T' : Nat} (all : Bool) (hi : i < G.length) (hj : j < G.length) (hF : ∀ k, k < G.length → hasN F' (k : Int) = hasN F (tau i j k : Nat)) (hT : ∀ k, k < G.length → hasN T' (k : Int) = hasN T (tau i j k : Nat)) : spanV (turnG G i j hi hj) (outT C i j G.length G.length) F' T' all = spanV G C F T all := by
  obtain ⟨h1, h2, h3⟩ := grid_parts h
  unfold spanV
  rw [if_pos h, if_pos (grid_turn h hi hj), turnG_len, clash_out h3 hi hj hF, clash_out h3 hi hj hT]
  have hw : ∀ (k : Nat), k < G.length → wF (outT C i j G.length G.length) F' T' all (k : Int) (turnG G i j hi hj) 0 0 = wF C F T all (tau i j k : Nat) G 0 0 := by
    intro k hk
    rw [wF_fm, wF_fm]
    refine fm_turn _ _ G _ i j hi hj (turnG_len G i j hi hj) (fun o g1 g2 => ?_)
    have ho : o < G.length := by rw [turnG_len] at g1; exact g1
    simp only [turnG_get G i j hi hj o g1 g2, loses, hF o ho, hT o ho, waitV, inter_out h3 i j o k ho hk]
    rfl
  have hm : mvF (turnG G i j hi hj) (outT C i j G.length G.length) F' T' all (turnG G i j hi hj) 0 0 = mvF G C F T all G 0 0 := by
    rw [mvF_fm, mvF_fm]
    refine fm_turn _ _ G _ i j hi hj (turnG_len G i j hi hj) (fun k g1 g2 => ?_)
    have hk : k < G.length := by rw [turnG_len] at g1; exact g1
    simp only [turnG_get G i j hi hj k g1 g2, atV, loses, hF k hk, hT k hk, hw k hk]
    rfl
  rw [hm]
end Go.Proofs.Ytiaklfjpmmifjaa
