import Derived.Test.YtjohnhaahpggkabDoorNumF
namespace Go.Proofs.YtjohnhaahpggkabDoor
open Go.RowKit
set_option linter.unusedVariables false

/-- A byte of a text: nowhere, or a first place. -/
theorem find_byte (s : ByteArray) (c : UInt8) : (∀ j (hj : j < s.size), ¬ s[j] = c) ∨ ∃ i, ∃ hi : i < s.size, s[i] = c ∧ ∀ j (hj : j < s.size), j < i → ¬ s[j] = c := by
  have key : ∀ n, n ≤ s.size → (∀ j (hj : j < s.size), j < n → ¬ s[j] = c) ∨ ∃ i, ∃ hi : i < s.size, s[i] = c ∧ ∀ j (hj : j < s.size), j < i → ¬ s[j] = c := by
    intro n
    induction n with
    | zero => intro _; exact .inl (fun j _ h => by omega)
    | succ n ih =>
      intro hn
      rcases ih (by omega) with h | h
      · by_cases e : s[n] = c
        · exact .inr ⟨n, by omega, e, h⟩
        · left
          intro j hj hjn
          by_cases e2 : j = n
          · subst e2; exact e
          · exact h j hj (by omega)
      · exact .inr h
  rcases key s.size (Nat.le_refl _) with h | h
  · exact .inl (fun j hj => h j hj hj)
  · exact .inr h

theorem mem_get (s : ByteArray) (c : UInt8) : c ∈ s.data.toList ↔ ∃ i, ∃ hi : i < s.size, s[i] = c := by
  rw [List.mem_iff_getElem]
  constructor
  · rintro ⟨i, hi, e⟩; exact ⟨i, by simpa using hi, e⟩
  · rintro ⟨i, hi, e⟩; exact ⟨i, by simpa using hi, e⟩

theorem split_at (s : ByteArray) (c : UInt8) (i : Nat) (hi : i < s.size) (e : s[i] = c) : s.data.toList = (s.extract 0 i).data.toList ++ c :: (s.extract (i + 1) s.size).data.toList := by
  rw [Lib.extract_data, Lib.extract_data]
  simp only [List.drop_zero, Nat.sub_zero]
  have h1 : (s.data.toList.drop (i + 1)).take (s.size - (i + 1)) = s.data.toList.drop (i + 1) := List.take_of_length_le (by simp)
  rw [h1, ← e]
  have h2 := List.drop_eq_getElem_cons (l := s.data.toList) (i := i) (by simpa using hi)
  have h3 : s[i] :: s.data.toList.drop (i + 1) = s.data.toList.drop i := h2.symm
  rw [h3, List.take_append_drop]

/-- A step: what is left of a duration at a text, by the first place of the unit. -/
theorem dur_step_miss (t : ByteArray) (u : UInt8) (k : Nat) (us : List (UInt8 × Nat)) (h : ∀ j (hj : j < t.size), ¬ t[j] = u) : durOf ((u, k) :: us) t.data.toList = durOf us t.data.toList :=
  dur_absent u k us _ (fun hm => by obtain ⟨i, hi, e⟩ := (mem_get t u).1 hm; exact h i hi e)

theorem dur_step_hit (t : ByteArray) (u : UInt8) (k : Nat) (us : List (UInt8 × Nat)) (hu : isD u = false) (i : Nat) (hi : i < t.size) (e : t[i] = u) (h95 : ∀ j (hj : j < t.size), ¬ t[j] = 95)
    (hok : okD 10 true true (t.extract 0 i).data.toList = true) :
    durOf ((u, k) :: us) t.data.toList = (durOf us (t.extract (i + 1) t.size).data.toList).map (valD 10 0 (t.extract 0 i).data.toList * k + ·) := by
  rw [split_at t u i hi e]
  refine dur_hit u k us _ _ hu (okD_only10 true _ true hok ?_) ?_
  · intro x hx h
    have hx' : x ∈ t.data.toList := by rw [split_at t u i hi e]; exact List.mem_append.2 (.inl hx)
    obtain ⟨j, hj, ej⟩ := (mem_get t x).1 hx'
    exact h95 j hj (by rw [ej]; exact UInt8.toNat_inj.1 h)
  · intro h; rw [h] at hok; simp [okD] at hok

theorem dur_step_ill (t : ByteArray) (u : UInt8) (k : Nat) (us : List (UInt8 × Nat)) (hu : isD u = false) (hus : u ∉ us.map (·.1)) (i : Nat) (hi : i < t.size) (e : t[i] = u) (hf : ∀ j (hj : j < t.size), j < i → ¬ t[j] = u)
    (hok : okD 10 true true (t.extract 0 i).data.toList = false) :
    durOf ((u, k) :: us) t.data.toList = none := by
  rw [split_at t u i hi e]
  refine dur_ill u k us _ _ hu ?_ ?_ hus
  · intro hm
    obtain ⟨j, hj, ej⟩ := (mem_get _ u).1 hm
    have hs : (t.extract 0 i).size = i := by simp; omega
    have : (t.extract 0 i)[j] = t[j]'(by omega) := by simp [ByteArray.getElem_extract]
    exact hf j (by omega) (by omega) (by rw [← this]; exact ej)
  · by_cases hne : (t.extract 0 i).data.toList = []
    · exact .inl hne
    · right
      apply Classical.byContradiction
      intro hno
      have hall : ∀ x ∈ (t.extract 0 i).data.toList, isD x = true := by
        intro x hx
        cases hd : isD x with
        | true => rfl
        | false => exact absurd ⟨x, hx, hd⟩ hno
      rw [okD_digits 10 true (by omega) _ true hall, if_neg hne] at hok
      cases hok

theorem no95_tail (t : ByteArray) (i : Nat) (h95 : ∀ j (hj : j < t.size), ¬ t[j] = 95) : ∀ j (hj : j < (t.extract i t.size).size), ¬ (t.extract i t.size)[j] = 95 := by
  intro j hj
  have hs : (t.extract i t.size).size = t.size - i := by simp
  have : (t.extract i t.size)[j] = t[i + j]'(by omega) := ByteArray.getElem_extract hj
  rw [this]; exact h95 _ _
end Go.Proofs.YtjohnhaahpggkabDoor
