import Derived.Test.YtjohnhaahpggkabDoorNumH
namespace Go.Proofs.YtjohnhaahpggkabDoor
open Go.RowKit
set_option linter.unusedVariables false

theorem span_at (s : ByteArray) (i q : Nat) (hiq : i ≤ q) (hq : q ≤ s.size) (hall : ∀ j (hj : j < s.size), i ≤ j → j < q → isD s[j] = true) (hend : q = s.size ∨ ∃ h : q < s.size, isD s[q] = false) :
    (s.data.toList.drop i).takeWhile isD = (s.extract i q).data.toList ∧ (s.data.toList.drop i).dropWhile isD = s.data.toList.drop q := by
  have e : s.data.toList.drop i = (s.extract i q).data.toList ++ s.data.toList.drop q := by
    rw [Lib.extract_data]
    have h2 := List.take_append_drop (q - i) (s.data.toList.drop i)
    rw [List.drop_drop] at h2
    have : i + (q - i) = q := by omega
    rw [this] at h2
    exact h2.symm
  have hd : ∀ x ∈ (s.extract i q).data.toList, isD x = true := by
    intro x hx
    obtain ⟨j, hj, ej⟩ := (mem_get _ x).1 hx
    have hs : (s.extract i q).size = q - i := by simp; omega
    have : (s.extract i q)[j] = s[i + j]'(by omega) := ByteArray.getElem_extract hj
    rw [← ej, this]; exact hall _ _ (by omega) (by omega)
  have hdrop : (s.data.toList.drop q).takeWhile isD = [] ∧ (s.data.toList.drop q).dropWhile isD = s.data.toList.drop q := by
    rcases hend with h | ⟨h, hn⟩
    · rw [drop_end s q (by omega)]; exact ⟨rfl, rfl⟩
    · rw [drop_get s q h]
      exact ⟨List.takeWhile_cons_of_neg (by simp [hn]), List.dropWhile_cons_of_neg (by simp [hn])⟩
  rw [e, List.takeWhile_append_of_pos hd, List.dropWhile_append_of_pos hd, hdrop.1, hdrop.2]
  simp

/-- The reference's state: what is left from place i on. -/
def DurI (R : Option Nat) (us : List (UInt8 × Nat)) (s : ByteArray) (i v : Nat) : Prop := ∃ acc, Cl v acc ∧ (durOf us (s.data.toList.drop i)).map (acc + ·) = R

theorem Cl.step2 {v V x d n n' : Nat} (k : Nat) (hk : 1 ≤ k) (h : Cl v V) (hd : d = min x 1099511627776) (e : n = min (v + d * k) 1099511627776) (e' : n' = V + x * k) : Cl n n' := by
  subst e e'
  have h1 : x ≤ x * k := Nat.le_mul_of_pos_right x hk
  have h2 : d ≤ d * k := Nat.le_mul_of_pos_right d hk
  refine ⟨fun hV => ?_, fun hV => ?_⟩
  · have := h.1 (by omega)
    have hdx : d = x := by omega
    subst hdx; omega
  · by_cases hv : 2147483647 < V
    · have := h.2 hv; omega
    · have := h.1 (by omega)
      by_cases hx : x ≤ 1099511627776
      · have hdx : d = x := by omega
        subst hdx; omega
      · omega

theorem DurI.skip {R : Option Nat} {us : List (UInt8 × Nat)} {s : ByteArray} {i q v : Nat} {u : UInt8} {k : Nat} (h : DurI R ((u, k) :: us) s i v) (hiq : i ≤ q) (hq : q ≤ s.size) (hall : ∀ j (hj : j < s.size), i ≤ j → j < q → isD s[j] = true)
    (hend : q = s.size ∨ ∃ h : q < s.size, isD s[q] = false) (hno : q = i ∨ q = s.size ∨ ∃ h : q < s.size, ¬ s[q] = u) : DurI R us s i v := by
  obtain ⟨acc, h1, h2⟩ := h
  refine ⟨acc, h1, ?_⟩
  obtain ⟨e1, e2⟩ := span_at s i q hiq hq hall hend
  rw [← h2, durOf, e1, e2, if_neg]
  rintro ⟨h3, h4⟩
  rcases hno with h | h | ⟨h, hn⟩
  · apply h3; rw [Lib.extract_data, h]; simp
  · rw [drop_end s q (by omega)] at h4; simp at h4
  · rw [drop_get s q h] at h4; simp at h4; exact hn h4

theorem DurI.take {R : Option Nat} {us : List (UInt8 × Nat)} {s : ByteArray} {i q v d n : Nat} {u : UInt8} {k : Nat} (h : DurI R ((u, k) :: us) s i v) (hiq : i < q) (hq : q < s.size) (hall : ∀ j (hj : j < s.size), i ≤ j → j < q → isD s[j] = true)
    (hu : isD u = false) (e : s[q] = u) (hk : 1 ≤ k) (hd : d = min (valD 10 0 (s.extract i q).data.toList) 1099511627776) (hn : n = min (v + d * k) 1099511627776) : DurI R us s (q + 1) n := by
  obtain ⟨acc, h1, h2⟩ := h
  obtain ⟨e1, e2⟩ := span_at s i q (by omega) (by omega) hall (.inr ⟨hq, by rw [e]; exact hu⟩)
  refine ⟨acc + valD 10 0 (s.extract i q).data.toList * k, h1.step2 k hk hd hn rfl, ?_⟩
  have e3 : (s.data.toList.drop q).tail = s.data.toList.drop (q + 1) := by rw [drop_get s q hq]; rfl
  have e4 : (s.data.toList.drop q).head? = some u := by rw [drop_get s q hq, e]; rfl
  have e5 : (s.extract i q).data.toList ≠ [] := by
    intro h
    have h6 : (s.extract i q).data.toList.length = q - i := by rw [Lib.extract_data]; simp; omega
    rw [h] at h6; simp at h6; omega
  rw [← h2, durOf, e1, e2, if_pos ⟨e5, e4⟩, e3, Option.map_map]
  congr 1; funext x; simp; omega

theorem digits_all (s : ByteArray) (i q : Nat) (hiq : i < q) (hq : q ≤ s.size) (hall : ∀ j (hj : j < s.size), i ≤ j → j < q → isD s[j] = true) : okD 10 false true (s.extract i q).data.toList = true := by
  have hd : ∀ x ∈ (s.extract i q).data.toList, isD x = true := by
    intro x hx
    obtain ⟨j, hj, ej⟩ := (mem_get _ x).1 hx
    have hs : (s.extract i q).size = q - i := by simp; omega
    have : (s.extract i q)[j] = s[i + j]'(by omega) := ByteArray.getElem_extract hj
    rw [← ej, this]; exact hall _ _ (by omega) (by omega)
  have e5 : (s.extract i q).data.toList ≠ [] := by
    intro h
    have h6 : (s.extract i q).data.toList.length = q - i := by rw [Lib.extract_data]; simp; omega
    rw [h] at h6; simp at h6; omega
  rw [okD_digits 10 false (by omega) _ true hd, if_neg e5]

theorem DurI.done {R : Option Nat} {s : ByteArray} {i v : Nat} (h : DurI R [] s i v) (hi : i ≤ s.size) : DurRes R (decide (i = s.size)) v := by
  obtain ⟨acc, h1, h2⟩ := h
  unfold durOf at h2
  have e : (s.data.toList.drop i = []) ↔ i = s.size := by
    rw [List.drop_eq_nil_iff]
    have : s.data.toList.length = s.size := by simp
    omega
  by_cases ht : i = s.size
  · rw [if_pos (e.2 ht)] at h2
    refine ⟨by rw [← h2]; simp [ht], fun V hV => ?_⟩
    rw [← h2] at hV; simp at hV; rw [← hV]; exact h1
  · rw [if_neg (fun h => ht (e.1 h))] at h2
    refine ⟨by rw [← h2]; simp [ht], fun V hV => ?_⟩
    rw [← h2] at hV; simp at hV
end Go.Proofs.YtjohnhaahpggkabDoor
