import Derived.Test.YtjohnhaahpggkabDoorPcsC
namespace Go.Proofs.YtjohnhaahpggkabDoor
set_option linter.unusedVariables false

/-! What the numbers that the statements write are read as. -/
def Dig (b : Nat) (l : List UInt8) : Prop := ∀ c ∈ l, ¬ c.toNat = 95 ∧ dv c < b
theorem Dig.app {b : Nat} {l m : List UInt8} (h : Dig b l) (k : Dig b m) : Dig b (l ++ m) := fun c hc => by
  rcases List.mem_append.1 hc with h1 | h1
  · exact h c h1
  · exact k c h1
theorem valD_app (b : Nat) (l m : List UInt8) : ∀ a, valD b a (l ++ m) = valD b (valD b a l) m := by
  induction l with
  | nil => intro a; rfl
  | cons c l ih =>
    intro a
    simp only [List.cons_append, valD]
    split <;> exact ih _
theorem okD_dig {b : Nat} {g : Bool} (l : List UInt8) (h : Dig b l) : ∀ p, (l ≠ [] ∨ p = false) → okD b g p l = true := by
  induction l with
  | nil => intro p hp; simp [okD]; exact hp.resolve_left (by simp)
  | cons c l ih =>
    intro p hp
    have hc := h c (by simp)
    unfold okD
    rw [if_neg hc.1, if_pos hc.2]
    exact ih (fun x hx => h x (by simp [hx])) false (.inr rfl)
theorem decL_dig (n : Nat) : Dig 10 (decL n) := by
  intro c hc
  have h := List.all_eq_true.1 (decL_all n) c hc
  have h2 := (dv_lt10 c).2 h
  rw [isD_iff] at h
  exact ⟨by omega, h2⟩
theorem dg_dv : ∀ d, d < 10 → dv (dg d) = d ∧ ¬ (dg d).toNat = 95 := by decide
theorem hx_dv (g : Bool) : ∀ d, d < 16 → dv (hx g d) = d ∧ ¬ (hx g d).toNat = 95 := by cases g <;> decide
theorem decL_val (n : Nat) : valD 10 0 (decL n) = n := by
  induction n using Nat.strongRecOn with
  | ind n ih =>
    by_cases h : n < 10
    · rw [decL_small h]
      have := dg_dv n h
      simp only [valD]; rw [if_neg this.2, this.1]; omega
    · rw [decL_big h, valD_app, ih (n / 10) (by omega)]
      have := dg_dv (n % 10) (by omega)
      simp only [valD]; rw [if_neg this.2, this.1]; omega
theorem hexL_dig (g : Bool) (n : Nat) : Dig 16 (hexL g n) := by
  induction n using Nat.strongRecOn with
  | ind n ih =>
    by_cases h : n < 16
    · rw [hexL_small h]
      intro c hc
      have := hx_dv g n h
      simp at hc; subst hc
      exact ⟨this.2, by omega⟩
    · rw [hexL_big h]
      refine (ih (n / 16) (by omega)).app ?_
      intro c hc
      have := hx_dv g (n % 16) (by omega)
      simp at hc; subst hc
      exact ⟨this.2, by omega⟩
theorem hexL_val (g : Bool) (n : Nat) : valD 16 0 (hexL g n) = n := by
  induction n using Nat.strongRecOn with
  | ind n ih =>
    by_cases h : n < 16
    · rw [hexL_small h]
      have := hx_dv g n h
      simp only [valD]; rw [if_neg this.2, this.1]; omega
    · rw [hexL_big h, valD_app, ih (n / 16) (by omega)]
      have := hx_dv g (n % 16) (by omega)
      simp only [valD]; rw [if_neg this.2, this.1]; omega
/-- Two noughts ahead change nothing. -/
theorem zeros_val (b : Nat) (l : List UInt8) : valD b 0 (48 :: 48 :: l) = valD b 0 l := by
  simp [valD, dv]
theorem zeros_dig {b : Nat} (hb : 1 ≤ b) {l : List UInt8} (h : Dig b l) : Dig b (48 :: 48 :: l) := by
  have h48 : dv 48 = 0 := by decide
  intro c hc
  simp only [List.mem_cons] at hc
  rcases hc with rfl | rfl | hc
  · exact ⟨by decide, by omega⟩
  · exact ⟨by decide, by omega⟩
  · exact h c hc
theorem gap_tail {b : Nat} (r : List UInt8) (h : Dig b r) : okD b true false (r.flatMap (fun x => [95, x])) = true ∧ ∀ a, valD b a (r.flatMap (fun x => [95, x])) = valD b a r := by
  induction r with
  | nil => exact ⟨rfl, fun a => rfl⟩
  | cons c r ih =>
    obtain ⟨h1, h2⟩ := ih (fun x hx => h x (by simp [hx]))
    have hc := h c (by simp)
    have e95 : (95 : UInt8).toNat = 95 := rfl
    rw [List.flatMap_cons]
    constructor
    · simp only [List.cons_append, List.nil_append, okD, e95, if_true]
      rw [if_neg (by simp), if_neg hc.1, if_pos hc.2]
      exact h1
    · intro a
      simp only [List.cons_append, List.nil_append, valD, e95, if_true]
      rw [if_neg hc.1, if_neg hc.1]
      exact h2 _
theorem gap_ok {b : Nat} (l : List UInt8) (h : Dig b l) (hl : l ≠ []) : okD b true true (gapL l) = true ∧ valD b 0 (gapL l) = valD b 0 l := by
  cases l with
  | nil => exact absurd rfl hl
  | cons c r =>
    have hc := h c (by simp)
    obtain ⟨h1, h2⟩ := gap_tail r (fun x hx => h x (by simp [hx]))
    constructor
    · simp only [gapL, okD]; rw [if_neg hc.1, if_pos hc.2]; exact h1
    · simp only [gapL, valD]; rw [if_neg hc.1, if_neg hc.1]; exact h2 _

/-- The digits of a number, with noughts ahead and gaps or without. -/
def dress (z g : Bool) (l : List UInt8) : List UInt8 := if g = true then gapL (if z = true then 48 :: 48 :: l else l) else (if z = true then 48 :: 48 :: l else l)
theorem dress_ok {b : Nat} (hb : 1 ≤ b) (z g : Bool) (l : List UInt8) (h : Dig b l) (hl : l ≠ []) : okD b true true (dress z g l) = true ∧ valD b 0 (dress z g l) = valD b 0 l := by
  have hz : Dig b (if z = true then 48 :: 48 :: l else l) ∧ (if z = true then 48 :: 48 :: l else l) ≠ [] ∧ valD b 0 (if z = true then 48 :: 48 :: l else l) = valD b 0 l := by
    cases z
    · exact ⟨by simpa using h, by simpa using hl, rfl⟩
    · exact ⟨by simpa using zeros_dig hb h, by simp, by simpa using zeros_val b l⟩
  unfold dress
  cases g
  · rw [if_neg (by simp)]
    exact ⟨okD_dig _ hz.1 true (.inl hz.2.1), hz.2.2⟩
  · rw [if_pos rfl]
    have := gap_ok _ hz.1 hz.2.1
    exact ⟨this.1, this.2.trans hz.2.2⟩
/-- A text that is one or more digits with gaps begins with a digit, and no x follows. -/
theorem okD_head {l : List UInt8} (h : okD 10 true true l = true) : ∃ c r, l = c :: r ∧ isD c = true ∧ ¬ r.head? = some 120 := by
  cases l with
  | nil => simp [okD] at h
  | cons c r =>
    unfold okD at h
    split at h
    · simp at h
    · rename_i h95
      split at h
      · rename_i hd
        refine ⟨c, r, rfl, (dv_lt10 c).1 hd, ?_⟩
        intro hx
        cases r with
        | nil => simp at hx
        | cons d r =>
          simp at hx; subst hx
          unfold okD at h
          have e1 : ¬ (120 : UInt8).toNat = 95 := by decide
          have e2 : ¬ dv 120 < 10 := by decide
          rw [if_neg e1, if_neg e2] at h
          cases h
      · cases h
theorem num_decL (z g : Bool) (n : Nat) : numOf (dress z g (decL n)) = some n := by
  have hne : decL n ≠ [] := by have := (decL_len n).1; intro h; rw [h] at this; simp at this
  obtain ⟨h1, h2⟩ := dress_ok (b := 10) (by omega) z g (decL n) (decL_dig n) hne
  obtain ⟨c, r, e, hc, hx⟩ := okD_head h1
  rw [decL_val] at h2
  rw [e] at h1 h2 ⊢
  simp only [numOf]
  rw [if_neg (by simp [hc]), if_neg (by intro h; exact hx h.2), if_pos h1, h2]
theorem num_hexL (z g u : Bool) (n : Nat) : numOf (48 :: 120 :: dress z g (hexL u n)) = some n := by
  have hne : hexL u n ≠ [] := by have := (hexL_len u n).1; intro h; rw [h] at this; simp at this
  obtain ⟨h1, h2⟩ := dress_ok (b := 16) (by omega) z g (hexL u n) (hexL_dig u n) hne
  rw [hexL_val] at h2
  simp only [numOf]
  rw [if_neg (by decide), if_pos ⟨by decide, rfl⟩]
  rw [if_pos (show okD 16 true true (120 :: dress z g (hexL u n)).tail = true from h1)]
  exact congrArg some h2

/-- One part of a duration. -/
theorem dur_part (u : UInt8) (k n : Nat) (us : List (UInt8 × Nat)) (t : List UInt8) (hu : isD u = false) :
    durOf ((u, k) :: us) (decL n ++ u :: t) = (durOf us t).map (n * k + ·) := by
  have hall := decL_all n
  have hne : decL n ≠ [] := by have := (decL_len n).1; intro h; rw [h] at this; simp at this
  have e1 : (decL n ++ u :: t).takeWhile isD = decL n := by
    rw [List.takeWhile_append_of_pos (fun x hx => List.all_eq_true.1 hall x hx), List.takeWhile_cons_of_neg (by simp [hu])]; simp
  have e2 : (decL n ++ u :: t).dropWhile isD = u :: t := by
    rw [List.dropWhile_append_of_pos (fun x hx => List.all_eq_true.1 hall x hx), List.dropWhile_cons_of_neg (by simp [hu])]
  conv => lhs; unfold durOf
  rw [e1, e2, if_pos ⟨hne, rfl⟩, decL_val]; rfl
theorem dur_skip (u v : UInt8) (k n : Nat) (us : List (UInt8 × Nat)) (t : List UInt8) (hv : isD v = false) (hne : v ≠ u) :
    durOf ((u, k) :: us) (decL n ++ v :: t) = durOf us (decL n ++ v :: t) := by
  have hall := decL_all n
  have e2 : (decL n ++ v :: t).dropWhile isD = v :: t := by
    rw [List.dropWhile_append_of_pos (fun x hx => List.all_eq_true.1 hall x hx), List.dropWhile_cons_of_neg (by simp [hv])]
  conv => lhs; unfold durOf
  rw [e2, if_neg (by intro h; simp at h; exact hne h.2)]
theorem dur_nil (us : List (UInt8 × Nat)) : durOf us [] = some 0 := by
  induction us with
  | nil => rfl
  | cons p us ih => obtain ⟨u, k⟩ := p; unfold durOf; rw [if_neg (by simp)]; exact ih
/-- A duration's text. -/
def durL (a b c : Bool) (h m s : Nat) : List UInt8 := (if a = true then decL h ++ [104] else []) ++ (if b = true then decL m ++ [109] else []) ++ (if c = true then decL s ++ [115] else [])
def durV (a b c : Bool) (h m s : Nat) : Nat := (if a = true then 3600 * h else 0) + (if b = true then 60 * m else 0) + (if c = true then s else 0)
theorem dur_read (a b c : Bool) (h m s : Nat) : durOf hms (durL a b c h m s) = some (durV a b c h m s) := by
  have i1 : isD 104 = false := by decide
  have i2 : isD 109 = false := by decide
  have i3 : isD 115 = false := by decide
  unfold hms durL durV
  cases a <;> cases b <;> cases c <;> simp [List.append_assoc, dur_part, dur_skip, dur_nil, i1, i2, i3] <;> omega
theorem okD_no {l : List UInt8} {u : UInt8} {t : List UInt8} (hl : Dig 10 l) (hu1 : ¬ u.toNat = 95) (hu2 : ¬ dv u < 10) : ∀ p, okD 10 true p (l ++ u :: t) = false := by
  induction l with
  | nil => intro p; simp only [List.nil_append, okD]; rw [if_neg hu1, if_neg hu2]
  | cons c l ih =>
    intro p
    have hc := hl c (by simp)
    simp only [List.cons_append, okD]
    rw [if_neg hc.1, if_pos hc.2]
    exact ih (fun x hx => hl x (by simp [hx])) false
theorem num_dur_of (n : Nat) (u : UInt8) (t : List UInt8) (v : Nat) (hu1 : ¬ u.toNat = 95) (hu2 : ¬ dv u < 10) (hu3 : u ≠ 120) (hd : durOf hms (decL n ++ u :: t) = some v) : numOf (decL n ++ u :: t) = some v := by
  have hno := okD_no (u := u) (t := t) (decL_dig n) hu1 hu2 true
  have hall := decL_all n
  cases hl : decL n with
  | nil => have := (decL_len n).1; rw [hl] at this; simp at this
  | cons c r =>
    rw [hl] at hno hd hall
    simp only [List.cons_append] at hno hd ⊢
    have hc : isD c = true := by simp at hall; exact hall.1
    simp only [numOf]
    rw [if_neg (by simp [hc]), if_neg ?_, if_neg (by simp [hno])]
    · exact hd
    · rintro ⟨_, h⟩
      cases r with
      | nil => simp at h; exact hu3 h
      | cons d r =>
        simp at h
        have hd : isD d = true := by simp at hall; exact hall.2.1
        rw [h] at hd
        revert hd; decide
theorem num_durL (a b c : Bool) (h m s : Nat) (hany : a = true ∨ b = true ∨ c = true) : numOf (durL a b c h m s) = some (durV a b c h m s) := by
  have hr := dur_read a b c h m s
  unfold durL at hr ⊢
  cases a
  · cases b
    · obtain rfl : c = true := by simpa using hany
      simp at hr ⊢
      exact num_dur_of s 115 [] _ (by decide) (by decide) (by decide) hr
    · simp [List.append_assoc] at hr ⊢
      exact num_dur_of m 109 _ _ (by decide) (by decide) (by decide) hr
  · simp [List.append_assoc] at hr ⊢
    exact num_dur_of h 104 _ _ (by decide) (by decide) (by decide) hr
end Go.Proofs.YtjohnhaahpggkabDoor
