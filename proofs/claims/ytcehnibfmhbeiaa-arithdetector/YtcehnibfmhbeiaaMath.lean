namespace Go.Proofs.Ytcehnibfmhbeiaa

/-- How many bits in a row, up to tick k (it not counted), were 1. -/
def rl (B : Nat → Bool) : Nat → Nat
  | 0 => 0
  | k + 1 => if B k then rl B k + 1 else 0
theorem rl_le (B : Nat → Bool) : ∀ k, rl B k ≤ k
  | 0 => Nat.le_refl _
  | k + 1 => by have := rl_le B k; simp only [rl]; split <;> omega
theorem rl_all (B : Nat → Bool) : ∀ k i, k - rl B k ≤ i → i < k → B i = true
  | 0, i, _, h => absurd h (Nat.not_lt_zero _)
  | k + 1, i, h1, h2 => by
    simp only [rl] at h1
    by_cases hb : B k = true
    · rw [if_pos hb] at h1
      by_cases hi : i = k
      · subst hi; exact hb
      · exact rl_all B k i (by omega) (by omega)
    · rw [if_neg hb] at h1; omega
theorem rl_ge (B : Nat → Bool) : ∀ k m, m ≤ k → (∀ i, k - m ≤ i → i < k → B i = true) → m ≤ rl B k
  | 0, m, h, _ => by omega
  | k + 1, m, h, hall => by
    rcases Nat.eq_zero_or_pos m with h0 | h0
    · omega
    · simp only [rl]
      rw [if_pos (hall k (by omega) (by omega))]
      have := rl_ge B k (m - 1) (by omega) (fun i h1 h2 => hall i (by omega) (by omega))
      omega
/-- Tick j is active. -/
def act (B : Nat → Bool) (D : Int) (j : Nat) : Bool := decide (D < (rl B (j + 1) : Int))
theorem act_iff (B : Nat → Bool) (D j : Nat) : act B D j = true ↔ D ≤ j ∧ ∀ i, j - D ≤ i → i ≤ j → B i = true := by
  unfold act
  rw [decide_eq_true_iff]
  constructor
  · intro h
    have hle := rl_le B (j + 1)
    have h' : D < rl B (j + 1) := by omega
    exact ⟨by omega, fun i h1 h2 => rl_all B (j + 1) i (by omega) (by omega)⟩
  · rintro ⟨h1, h2⟩
    have := rl_ge B (j + 1) (D + 1) (by omega) (fun i a b => h2 i (by omega) (by omega))
    omega
/-- One of the ticks lo to k is active, lo told by m: k - m. -/
def any (B : Nat → Bool) (D : Int) (k : Nat) : Nat → Bool
  | 0 => false
  | m + 1 => any B D k m || act B D (k - m)
theorem any_iff (B : Nat → Bool) (D : Int) (k : Nat) : ∀ m, any B D k m = true ↔ ∃ i, i < m ∧ act B D (k - i) = true
  | 0 => by simp [any]
  | m + 1 => by
    simp only [any, Bool.or_eq_true, any_iff B D k m]
    constructor
    · rintro (⟨i, h1, h2⟩ | h)
      · exact ⟨i, by omega, h2⟩
      · exact ⟨m, by omega, h⟩
    · rintro ⟨i, h1, h2⟩
      by_cases hi : i = m
      · subst hi; exact .inr h2
      · exact .inl ⟨i, by omega, h2⟩
/-- What Left is ahead of tick k: of whatever m, m is below it just if an active tick j lies ahead of k with k + m - j at most H. -/
def LeftIs (B : Nat → Bool) (D H : Int) (k : Nat) (L : Int) : Prop :=
  0 ≤ L ∧ ∀ m : Nat, ((m : Int) < L ↔ ∃ j, j < k ∧ act B D j = true ∧ (k + m - j : Int) ≤ H)
theorem LeftIs.zero (B : Nat → Bool) (D H : Int) : LeftIs B D H 0 0 :=
  ⟨Int.le_refl _, fun m => ⟨fun h => by omega, fun ⟨j, h, _⟩ => absurd h (Nat.not_lt_zero _)⟩⟩
theorem LeftIs.step {B : Nat → Bool} {D H : Int} {k : Nat} {L : Int} (h : LeftIs B D H k L) (hH : 0 ≤ H) :
    LeftIs B D H (k + 1) (if act B D k then H else if 0 < L then L - 1 else 0) := by
  by_cases ha : act B D k = true
  · rw [if_pos ha]
    refine ⟨hH, fun m => ⟨fun hm => ⟨k, by omega, ha, by push_cast; omega⟩, fun ⟨j, h1, _, h3⟩ => ?_⟩⟩
    push_cast at h3; omega
  · rw [if_neg ha]
    refine ⟨by have := h.1; split <;> omega, fun m => ?_⟩
    have hm := h.2 (m + 1)
    have e : (m : Int) < (if 0 < L then L - 1 else 0) ↔ ((m + 1 : Nat) : Int) < L := by split <;> (push_cast; omega)
    rw [e, hm]
    constructor
    · rintro ⟨j, h1, h2, h3⟩
      exact ⟨j, by omega, h2, by push_cast at h3 ⊢; omega⟩
    · rintro ⟨j, h1, h2, h3⟩
      refine ⟨j, ?_, h2, by push_cast at h3 ⊢; omega⟩
      rcases Nat.lt_or_ge j k with hj | hj
      · exact hj
      · exfalso
        have : j = k := by omega
        subst this
        exact ha h2
/-- On in tick k: by the state, and by the bits. -/
theorem on_iff {B : Nat → Bool} {D H : Int} {k : Nat} {L : Int} (h : LeftIs B D H k L) (hold : Nat) (m : Nat) (hm : ∀ i : Nat, i < m ↔ i ≤ k ∧ i ≤ hold) (hH : ∀ i : Nat, i ≤ k → ((i : Int) ≤ H ↔ i ≤ hold)) :
    (act B D k || decide (0 < L)) = any B D k m := by
  rw [Bool.eq_iff_iff]
  simp only [Bool.or_eq_true, decide_eq_true_iff, any_iff]
  have h0 := h.2 0
  constructor
  · rintro (ha | hl)
    · exact ⟨0, (hm 0).2 ⟨by omega, by omega⟩, by simpa using ha⟩
    · obtain ⟨j, h1, h2, h3⟩ := h0.1 (by simpa using hl)
      refine ⟨k - j, (hm _).2 ⟨by omega, (hH (k - j) (by omega)).1 (by push_cast at h3; omega)⟩, ?_⟩
      rw [show k - (k - j) = j by omega]; exact h2
  · rintro ⟨i, h1, h2⟩
    obtain ⟨h3, h4⟩ := (hm i).1 h1
    rcases Nat.eq_zero_or_pos i with hi | hi
    · subst hi; exact .inl (by simpa using h2)
    · right
      have := h0.2 ⟨k - i, by omega, h2, by have := (hH i h3).2 h4; push_cast; omega⟩
      simpa using this
end Go.Proofs.Ytcehnibfmhbeiaa
