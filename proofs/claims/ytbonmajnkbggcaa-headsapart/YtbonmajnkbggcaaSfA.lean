import Derived.Test.YtbonmajnkbggcaaSfM
import Derived.Test.YtbonmajnkbggcaaRuC
namespace Go.Proofs.Ytbonmajnkbggcaa
open Go.RowKit
set_option linter.unusedVariables false

theorem letN_rng (a : Int) : 0 ≤ letN a ∧ letN a < 256 := by
  unfold letN
  repeat' split
  all_goals omega
theorem showS_size (A : List Int) : (showS A).size = A.length := by
  unfold showS strOfNums
  simp [ByteArray.size]
theorem showS_at (A : List Int) (k : Nat) (h : k < (showS A).size) (h' : k < A.length) : ((showS A)[k]'h).toNat = (letN A[k]).toNat := by
  have e : (showS A)[k]'h = UInt8.ofNat (letN A[k]).toNat := by
    unfold showS strOfNums
    simp [ByteArray.getElem_eq_getElem_data]
  rw [e, UInt8.toNat_ofNat']
  have := letN_rng A[k]
  omega
/-- A list of m pictures of n letters each: f j k is what group k shows in picture j. -/
def Film (w : World) (v : Value) (n m : Nat) (f : Nat → Nat → Int) : Prop :=
  ∃ g c, v = .slice (some ⟨g, 0, none⟩) m c ∧ g < w.heap.size ∧ ∀ j, j < m → ∃ s : ByteArray, w.cell? ⟨g, j, none⟩ = some (.string s) ∧ s.size = n ∧ ∀ (k : Nat) (h : k < s.size), (s[k]'h).toNat = (letN (f j k)).toNat
theorem Film.below {w w' : World} {v : Value} {n m : Nat} {f : Nat → Nat → Int} (h : Film w v n m f) (hb : Below w.heap.size w w') : Film w' v n m f := by
  obtain ⟨g, c, e, hg, P⟩ := h
  refine ⟨g, c, e, Nat.lt_of_lt_of_le hg hb.size, fun j hj => ?_⟩
  obtain ⟨s, h1, h2⟩ := P j hj
  exact ⟨s, (hb.cell (p := ⟨g, j, none⟩) hg).trans h1, h2⟩
theorem film_run {w : World} {base g c : Nat} {G : List Gp} {C : List Cf} {Ms : List Nat} (h : w.ownsRow base 9 1 (.slice (some ⟨g, 0, none⟩) (Ms.length + 1) c) (Ms.length + 1) (picsF G C Ms Ms.length)) : Film w (.slice (some ⟨g, 0, none⟩) (Ms.length + 1) c) G.length (Ms.length + 1) (fun j k => (runF G C Ms j).a k) := by
  refine ⟨g, c, rfl, (own_lt h g rfl).2, fun j hj => ⟨picF G C Ms j, ?_, ?_, fun k hk => ?_⟩⟩
  · refine (h.cellAt j (by omega)).trans ?_
    unfold picsF
    rw [List.getElem?_map, List.getElem?_range hj]; rfl
  · unfold picF; rw [showS_size, lst_len]
  · unfold picF at hk ⊢
    have hk' := hk
    rw [showS_size] at hk'
    rw [showS_at _ _ _ hk', lst_get]
theorem let0 : (letN 0).toNat = 114 := rfl
theorem let1 : (letN 1).toNat = 108 := rfl
theorem let2 : (letN 2).toNat = 103 := rfl
theorem let3 : (letN 3).toNat = 97 := rfl
end Go.Proofs.Ytbonmajnkbggcaa
