namespace Go.Proofs.YtjohnhaahpggkabDoor
set_option linter.unusedVariables false

/-! Digits, numbers, durations: plain lists of bytes. -/
/-- A digit's value in base 16; 16 of what is none. -/
def dv (c : UInt8) : Nat := if 48 ≤ c.toNat ∧ c.toNat ≤ 57 then c.toNat - 48 else if 97 ≤ c.toNat ∧ c.toNat ≤ 102 then c.toNat - 87 else if 65 ≤ c.toNat ∧ c.toNat ≤ 70 then c.toNat - 55 else 16
def isD (c : UInt8) : Bool := decide (48 ≤ c.toNat ∧ c.toNat ≤ 57)
def isL (c : UInt8) : Bool := decide (97 ≤ c.toNat ∧ c.toNat ≤ 122 ∨ 65 ≤ c.toNat ∧ c.toNat ≤ 90)
def isR (c : UInt8) : Bool := isL c || isD c || decide (c.toNat = 95)

theorem isD_iff (c : UInt8) : isD c = true ↔ 48 ≤ c.toNat ∧ c.toNat ≤ 57 := by simp [isD]
theorem dv_digit {c : UInt8} (h : isD c = true) : dv c = c.toNat - 48 := by rw [isD_iff] at h; unfold dv; rw [if_pos h]
theorem dv_lt10 (c : UInt8) : dv c < 10 ↔ isD c = true := by
  rw [isD_iff]; unfold dv; split
  · omega
  · split
    · omega
    · split <;> omega
theorem dv_le (c : UInt8) : dv c ≤ 16 := by
  unfold dv; split
  · omega
  · split
    · omega
    · split <;> omega

/-- One or more digits of base b; where gaps are let (g), one byte 95 may stand between two. p: a 95 stands right ahead, or the begin. -/
def okD (b : Nat) (g : Bool) : Bool → List UInt8 → Bool
  | p, [] => !p
  | p, c :: l => if c.toNat = 95 then (if (p || !g) = true then false else okD b g true l) else if dv c < b then okD b g false l else false
/-- Their value. -/
def valD (b : Nat) : Nat → List UInt8 → Nat
  | a, [] => a
  | a, c :: l => if c.toNat = 95 then valD b a l else valD b (a * b + dv c) l

theorem valD_ge (b : Nat) (hb : 1 ≤ b) : ∀ (l : List UInt8) (a : Nat), a ≤ valD b a l
  | [], a => Nat.le_refl _
  | c :: l, a => by
    unfold valD; split
    · exact valD_ge b hb l a
    · refine Nat.le_trans ?_ (valD_ge b hb l _)
      have : a * 1 ≤ a * b := Nat.mul_le_mul_left a hb
      omega

/-- The duration that is left: units with their worth, in their order. -/
def durOf : List (UInt8 × Nat) → List UInt8 → Option Nat
  | [], t => if t = [] then some 0 else none
  | (u, k) :: us, t =>
    if t.takeWhile isD ≠ [] ∧ (t.dropWhile isD).head? = some u then
      (durOf us (t.dropWhile isD).tail).map (valD 10 0 (t.takeWhile isD) * k + ·)
    else durOf us t

def hms : List (UInt8 × Nat) := [(104, 3600), (109, 60), (115, 1)]

theorem takeDrop (t : List UInt8) : t.takeWhile isD ++ t.dropWhile isD = t := List.takeWhile_append_dropWhile

theorem durOf_mem : ∀ (us : List (UInt8 × Nat)) (t : List UInt8) (v : Nat), durOf us t = some v → ∀ x ∈ t, isD x = true ∨ x ∈ us.map (·.1)
  | [], t, v, h, x, hx => by
    unfold durOf at h; split at h
    · rename_i e; subst e; simp at hx
    · cases h
  | (u, k) :: us, t, v, h, x, hx => by
    unfold durOf at h; split at h
    · rename_i hc
      obtain ⟨h1, h2⟩ := hc
      cases hd : durOf us (t.dropWhile isD).tail with
      | none => rw [hd] at h; simp at h
      | some v' =>
        have ih := durOf_mem us _ v' hd
        rw [← takeDrop t] at hx
        rcases List.mem_append.1 hx with hx | hx
        · left
          have := List.all_takeWhile (p := isD) (l := t)
          exact List.all_eq_true.1 this x hx
        · cases hdw : t.dropWhile isD with
          | nil => rw [hdw] at hx; simp at hx
          | cons y r =>
            rw [hdw] at h2 hx ih
            simp only [List.head?_cons, Option.some.injEq] at h2
            subst h2
            rcases List.mem_cons.1 hx with hx | hx
            · right; simp [hx]
            · rcases ih x (by simpa using hx) with h' | h'
              · exact .inl h'
              · right; simp only [List.map_cons, List.mem_cons]; exact .inr h'
    · rcases durOf_mem us t v h x hx with h' | h'
      · exact .inl h'
      · right; simp only [List.map_cons, List.mem_cons]; exact .inr h'

/-- A byte that is no digit and no unit: no duration. -/
theorem durOf_bad (us : List (UInt8 × Nat)) (t : List UInt8) (x : UInt8) (hx : x ∈ t) (h1 : isD x = false) (h2 : x ∉ us.map (·.1)) : durOf us t = none := by
  cases h : durOf us t with
  | none => rfl
  | some v =>
    rcases durOf_mem us t v h x hx with h' | h'
    · rw [h1] at h'; cases h'
    · exact absurd h' h2

theorem okD_digits (b : Nat) (g : Bool) (hb : 10 ≤ b) : ∀ (l : List UInt8) (p : Bool), (∀ x ∈ l, isD x = true) → okD b g p l = (if l = [] then !p else true)
  | [], p, _ => by simp [okD]
  | c :: l, p, h => by
    have hc : isD c = true := h c (by simp)
    have h95 : ¬ c.toNat = 95 := by have := (isD_iff c).1 hc; omega
    have hv : dv c < b := by have := (dv_lt10 c).2 hc; omega
    rw [okD, if_neg h95, if_pos hv, okD_digits b g hb l false (fun x hx => h x (by simp [hx]))]
    simp

theorem okD_only10 (g : Bool) : ∀ (l : List UInt8) (p : Bool), okD 10 g p l = true → (∀ x ∈ l, x.toNat ≠ 95) → ∀ x ∈ l, isD x = true
  | [], p, _, _, x, hx => by simp at hx
  | c :: l, p, h, h95, x, hx => by
    have hc : ¬ c.toNat = 95 := h95 c (by simp)
    rw [okD, if_neg hc] at h
    split at h
    · rename_i hv
      rcases List.mem_cons.1 hx with hx | hx
      · subst hx; exact (dv_lt10 x).1 hv
      · exact okD_only10 g l false h (fun y hy => h95 y (by simp [hy])) x hx
    · cases h

theorem okD_first (b : Nat) (g : Bool) (c : UInt8) (l : List UInt8) (h : okD b g true (c :: l) = true) : dv c < b ∧ c.toNat ≠ 95 := by
  rw [okD] at h
  split at h
  · simp at h
  · rename_i h95
    split at h
    · rename_i hv; exact ⟨hv, h95⟩
    · cases h

/-! A step of a duration by its first byte u. -/
theorem dur_hit (u : UInt8) (k : Nat) (us : List (UInt8 × Nat)) (d r : List UInt8) (hu : isD u = false) (hd : ∀ x ∈ d, isD x = true) (hne : d ≠ []) :
    durOf ((u, k) :: us) (d ++ u :: r) = (durOf us r).map (valD 10 0 d * k + ·) := by
  have e1 : (d ++ u :: r).takeWhile isD = d := by
    rw [List.takeWhile_append_of_pos hd, List.takeWhile_cons_of_neg (by simp [hu])]; simp
  have e2 : (d ++ u :: r).dropWhile isD = u :: r := by
    rw [List.dropWhile_append_of_pos hd, List.dropWhile_cons_of_neg (by simp [hu])]
  rw [durOf, e1, e2, if_pos ⟨hne, rfl⟩]; rfl

theorem dur_absent (u : UInt8) (k : Nat) (us : List (UInt8 × Nat)) (t : List UInt8) (h : u ∉ t) : durOf ((u, k) :: us) t = durOf us t := by
  rw [durOf, if_neg]
  rintro ⟨_, h2⟩
  have : u ∈ t.dropWhile isD := by
    cases hd : t.dropWhile isD with
    | nil => rw [hd] at h2; simp at h2
    | cons y r => rw [hd] at h2; simp at h2; simp [h2]
  exact h ((List.dropWhile_suffix isD).mem this)

theorem dur_ill (u : UInt8) (k : Nat) (us : List (UInt8 × Nat)) (d r : List UInt8) (hu : isD u = false) (hfirst : u ∉ d) (hill : d = [] ∨ ∃ x ∈ d, isD x = false) (hus : u ∉ us.map (·.1)) :
    durOf ((u, k) :: us) (d ++ u :: r) = none := by
  rw [durOf, if_neg]
  · exact durOf_bad us _ u (by simp) hu hus
  · rintro ⟨h1, h2⟩
    rcases hill with rfl | ⟨x, hx, hxd⟩
    · rw [List.nil_append, List.takeWhile_cons_of_neg (by simp [hu])] at h1; exact h1 rfl
    · -- the run of digits ends within d, at a byte that is not u
      have key : ∀ (d : List UInt8), u ∉ d → (∃ x ∈ d, isD x = false) → ((d ++ u :: r).dropWhile isD).head? ≠ some u := by
        intro d
        induction d with
        | nil => rintro _ ⟨x, hx, _⟩; simp at hx
        | cons c d ih =>
          intro hf hx
          by_cases hc : isD c = true
          · rw [List.cons_append, List.dropWhile_cons_of_pos hc]
            refine ih (fun h => hf (by simp [h])) ?_
            obtain ⟨x, hx, hxd⟩ := hx
            rcases List.mem_cons.1 hx with e | e
            · subst e; rw [hc] at hxd; cases hxd
            · exact ⟨x, e, hxd⟩
          · rw [List.cons_append, List.dropWhile_cons_of_neg hc]
            simp only [List.head?_cons, ne_eq, Option.some.injEq]
            intro e; exact hf (by simp [e])
      exact key d hfirst ⟨x, hx, hxd⟩ h2

/-- The number that a text is: none where it has no form. -/
def numOf (l : List UInt8) : Option Nat :=
  match l with
  | [] => none
  | c :: r =>
    if isD c = false then none
    else if c.toNat = 48 ∧ r.head? = some 120 then (if okD 16 true true r.tail = true then some (valD 16 0 r.tail) else none)
    else if okD 10 true true (c :: r) = true then some (valD 10 0 (c :: r))
    else durOf hms (c :: r)

/-- What Number answers of it. -/
def numV (o : Option Nat) : Int := match o with | none => 0 | some v => if v ≤ 2147483647 then v else 0
def numE (o : Option Nat) : Int := match o with | none => 22 | some v => if v ≤ 2147483647 then 0 else 23

end Go.Proofs.YtjohnhaahpggkabDoor
