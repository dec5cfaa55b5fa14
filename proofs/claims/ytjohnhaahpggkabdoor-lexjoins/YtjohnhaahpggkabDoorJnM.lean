import Derived.Test.YtjohnhaahpggkabDoorJnF
namespace Go.Proofs.YtjohnhaahpggkabDoor
open Go.RowKit
set_option linter.unusedVariables false
set_option linter.unusedSimpArgs false

theorem isEmpty_size (s : ByteArray) : s.toList.isEmpty = true ↔ s.size = 0 := by
  rw [Lib.toList_data, List.isEmpty_iff]
  have hl : s.data.toList.length = s.size := rfl
  constructor
  · intro h; rw [← hl, h]; rfl
  · intro h; exact List.eq_nil_of_length_eq_zero (by omega)
theorem dec_short (n k : Nat) (h : n < 10 ^ (k + 1)) : (Lib.decDigits n).length ≤ k + 1 := by
  induction k generalizing n with
  | zero => rw [dec_small (by simpa using h)]; simp
  | succ k ih =>
    by_cases h9 : n < 10
    · rw [dec_small h9]; simp
    · rw [dec_big h9]
      have := ih (n / 10) (by rw [Nat.pow_succ] at h; omega)
      simp; omega
theorem word_len : ∀ k : Nat, k < 78 → (wordL k).length ≤ 100 := by decide
theorem kindL_name {l : List UInt8} (h : kindL l = 1) : l ≠ [] ∧ l.length ≤ 32 := by
  unfold kindL at h
  split at h
  · rename_i h1
    rcases kwK_mem l with ⟨h2, _⟩ | ⟨h2, _, _⟩ <;> omega
  · split at h
    · rename_i h1
      rcases sgK_mem l with ⟨h2, _⟩ | ⟨h2, _, _⟩ <;> omega
    · unfold restK at h
      split at h
      · omega
      · rename_i h1
        split at h
        · split at h
          · omega
          · rename_i h3
            exact ⟨fun e => h1 (.inl e), by omega⟩
        · split at h <;> omega
theorem wordA_len (k : Int) : (wordA k).size ≤ 100 := by
  unfold wordA
  split
  · rename_i h
    rw [bs_sz]; exact word_len _ (by omega)
  · decide
theorem sp_facts (t : Tq) (b : Bool) (ht : t.Ok) (h : okF t b = true) : (spF t).size ≤ 100 ∧ (t.k = 0 → (spF t).size = 0) ∧ (t.k ≠ 0 → 0 < (spF t).size) := by
  unfold okF at h
  unfold spF
  split at h
  · rename_i h1
    rw [if_pos h1]
    simp only [Bool.and_eq_true, decide_eq_true_eq] at h
    obtain ⟨h2, h3⟩ := kindL_name h.2
    have hl : t.tx.data.toList.length = t.tx.size := rfl
    refine ⟨by omega, fun h0 => by omega, fun _ => ?_⟩
    rcases Nat.eq_zero_or_pos t.tx.size with h0 | h0
    · exact absurd (List.eq_nil_of_length_eq_zero (by omega)) h2
    · exact h0
  · rename_i h1
    rw [if_neg h1]
    split at h
    · rename_i h2
      rw [if_pos h2]
      simp only [Bool.and_eq_true, decide_eq_true_eq] at h
      have hn := ht.1.2
      have hit : (⟨(Lib.itoa t.n).toArray⟩ : ByteArray).size = (Lib.decDigits t.n.toNat).length := by
        unfold Lib.itoa; rw [if_neg (by omega)]; rfl
      rw [hit]
      have h3 := dec_short t.n.toNat 9 (by omega)
      have h4 := (dec_len t.n.toNat).1
      exact ⟨by omega, fun h0 => by omega, fun _ => by omega⟩
    · rename_i h2
      rw [if_neg h2]
      refine ⟨wordA_len _, fun h0 => by rw [h0]; rfl, fun h0 => ?_⟩
      rw [if_neg h0] at h
      simp only [Bool.and_eq_true, Bool.not_eq_true'] at h
      rcases Nat.eq_zero_or_pos (wordA t.k).size with h5 | h5
      · rw [(isEmpty_size _).2 h5] at h; simp at h
      · exact h5
/-- Which tokens may be written, in the reference's words. -/
theorem okF_split (t : Tq) (b : Bool) : okF t b = (okF t true && (decide (t.k ≠ 0) || b)) := by
  unfold okF
  split
  · rename_i h; rw [h]; simp
  · split
    · rename_i h; rw [h]; simp
    · split
      · rename_i h; rw [h]; cases b <;> simp
      · rename_i h; simp [h]

/-- The lengths with a blank each. -/
def sumL (L : List Tq) : Nat → Nat
  | 0 => 0
  | k + 1 => sumL L k + ((match L[k]? with | some t => (spF t).size | none => 0) + 1)
theorem sumL_succ (L : List Tq) (k : Nat) (h : k < L.length) : sumL L (k + 1) = sumL L k + (spF L[k]).size + 1 := by
  show sumL L k + _ = _
  rw [List.getElem?_eq_getElem h]; simp only; omega
theorem jnL_len (L : List Tq) : ∀ k, k ≤ L.length → (jnL L k).length + (if k = 0 then 0 else 1) = sumL L k
  | 0, _ => rfl
  | k + 1, h => by
    have ih := jnL_len L k (by omega)
    rw [jnL_succ L k (by omega), sumL_succ L k (by omega)]
    have hs : (spF (L[k]'(by omega))).data.toList.length = (spF (L[k]'(by omega))).size := rfl
    rw [List.length_append, List.length_append, hs]
    split at ih
    · rename_i h0; rw [if_pos h0, if_neg (by omega)]; simp; omega
    · rename_i h0; rw [if_neg h0, if_neg (by omega)]; simp; omega
theorem jnL_mono (L : List Tq) (k m : Nat) (h : k ≤ m) (hm : m ≤ L.length) : (jnL L k).length ≤ (jnL L m).length := by
  induction m with
  | zero => obtain rfl : k = 0 := by omega
            exact Nat.le_refl _
  | succ m ih =>
    by_cases e : k = m + 1
    · subst e; exact Nat.le_refl _
    · have := ih (by omega) (by omega)
      rw [jnL_succ L m (by omega), List.length_append]; omega
/-- There is one answer. -/
theorem Jn.one {L : List Tq} {B B' : List UInt8} {e e' : Int} (h : Jn L B e) (h' : Jn L B' e') : B = B' ∧ e = e' := by
  have top : ∀ k m, k ≤ L.length → m ≤ L.length → (∀ i (h : i < L.length), i < k → L[i].k ≠ 0) → (m = L.length ∨ ∃ h : m < L.length, L[m].k = 0) → k ≤ m := fun k m hk hm h1 h2 => by
    rcases h2 with h2 | ⟨h2, h3⟩
    · omega
    · rcases Nat.lt_or_ge m k with h4 | h4
      · exact absurd h3 (h1 m h2 h4)
      · exact h4
  cases h with
  | bad i h hb =>
    cases h' with
    | bad => exact ⟨rfl, rfl⟩
    | long k hk ho => rw [ho i h] at hb; cases hb
    | fine k hk ho => rw [ho i h] at hb; cases hb
  | long k hk ho he hl =>
    cases h' with
    | bad i h hb => rw [ho i h] at hb; cases hb
    | long => exact ⟨rfl, rfl⟩
    | fine m hm ho' he' hz hl' => have := jnL_mono L k m (top k m hk hm he hz) hm; omega
  | fine k hk ho he hz hl =>
    cases h' with
    | bad i h hb => rw [ho i h] at hb; cases hb
    | long m hm ho' he' hl' => have := jnL_mono L m k (top m k hm hk he' hz) hk; omega
    | fine m hm ho' he' hz' hl' =>
      have h1 := top k m hk hm he hz'
      have h2 := top m k hm hk he' hz
      obtain rfl : k = m := by omega
      exact ⟨rfl, rfl⟩
end Go.Proofs.YtjohnhaahpggkabDoor
