import Derived.Test.YtbgfeogigjjmdaaHxJ
namespace Go.Proofs.Ytbgfeogigjjmdaa
open Go.RowKit
set_option linter.unusedVariables false

/-- A line that may end with a line feed, without its end. -/
def stripS (l : List UInt8) : List UInt8 := if Lib.hasSuffix l [10] = true then Lib.trimSuffix (Lib.trimSuffix l [10]) [13] else l
theorem suf_iff (l : List UInt8) (c : UInt8) : Lib.hasSuffix l [c] = true ↔ ∃ p, l = p ++ [c] := by
  unfold Lib.hasSuffix
  rw [List.isSuffixOf_iff_suffix]
  constructor
  · rintro ⟨p, h⟩; exact ⟨p, h.symm⟩
  · rintro ⟨p, h⟩; exact ⟨p, h.symm⟩
theorem trim_snoc (p : List UInt8) (c : UInt8) : Lib.trimSuffix (p ++ [c]) [c] = p := by
  unfold Lib.trimSuffix
  rw [if_pos ((suf_iff _ _).2 ⟨p, rfl⟩)]
  simp
theorem trim_not (l : List UInt8) (c : UInt8) (h : Lib.hasSuffix l [c] = false) : Lib.trimSuffix l [c] = l := by
  unfold Lib.trimSuffix; rw [h]; rfl
def mn (l : List UInt8) : List Nat := l.map (·.toNat)
theorem strip_end (p : List UInt8) : mn (stripS (p ++ [10])) = strip (mn p, true) := by
  have h1 : Lib.hasSuffix (p ++ [10]) [10] = true := (suf_iff _ _).2 ⟨p, rfl⟩
  unfold stripS
  rw [if_pos h1, trim_snoc]
  unfold strip
  cases h : Lib.hasSuffix p [13] with
  | true =>
    obtain ⟨q, rfl⟩ := (suf_iff _ _).1 h
    rw [trim_snoc]
    simp [mn]
  | false =>
    rw [trim_not _ _ h]
    have : ¬ ((mn p).getLast? = some 13) := by
      intro e
      unfold mn at e
      rw [List.getLast?_map, Option.map_eq_some_iff] at e
      obtain ⟨c, hc, e2⟩ := e
      have hc13 : c = 13 := UInt8.toNat_inj.1 (by simpa using e2)
      subst hc13
      have hp : p ≠ [] := by intro e; subst e; simp at hc
      have : Lib.hasSuffix p [13] = true := (suf_iff _ _).2 ⟨p.dropLast, by
        have := List.dropLast_concat_getLast hp
        rw [List.getLast?_eq_some_getLast hp] at hc
        injection hc with hc
        rw [hc] at this; exact this.symm⟩
      rw [h] at this; cases this
    simp [this]
theorem strip_open (p : List UInt8) (h : 10 ∉ p) : mn (stripS p) = strip (mn p, false) := by
  have h1 : ¬ Lib.hasSuffix p [10] = true := by
    intro e
    obtain ⟨q, rfl⟩ := (suf_iff _ _).1 e
    simp at h
  unfold stripS strip
  rw [if_neg h1]; simp

set_option maxRecDepth 100000 in
set_option maxHeartbeats 1000000 in
theorem withoutEnd_any (s : ByteArray) (w : World) (hs : s.size < 4611686018427387904) :
    Calls Try.prog 20 #[.string s] w fun e w' => e = .returned (.string ⟨(stripS s.data.toList).toArray⟩) ∧ w = w' := by
  have hC := (Try.strings_CutSuffix s ⟨#[10]⟩ w (by omega)).mono fun e w' h => (⟨h.1, h.2.symm⟩ : e = _ ∧ w = w')
  rw [show ((⟨#[10]⟩ : ByteArray).data.toList) = [10] from rfl] at hC
  unfold stripS
  cases h : Lib.hasSuffix s.data.toList [10] with
  | false =>
    rw [h, trim_not _ _ h] at hC
    have e : (⟨s.data.toList.toArray⟩ : ByteArray) = s := by cases s; simp
    rw [e] at hC
    simp only [Bool.false_eq_true, if_false, e]
    clear e h
    go_enter Try.func20, Try.ntmps20
    go_wp2_with (go_at_call 34; (with_reducible refine Calls.mono hC ?_); rintro e w2 ⟨rfl, rfl⟩)
    go_ret
    exact ⟨rfl, rfl⟩
  | true =>
    rw [h] at hC
    have hl : (Lib.trimSuffix s.data.toList [10]).length ≤ s.size := by
      rw [Lib.size_eq]
      unfold Lib.trimSuffix
      split <;> first | exact List.length_take_le' _ _ | exact Nat.le_refl _
    have hT := (Try.strings_TrimSuffix ⟨(Lib.trimSuffix s.data.toList [10]).toArray⟩ ⟨#[13]⟩ w (by show Array.size _ ≤ _; simp; omega)).mono fun e w' h => (⟨h.1, h.2.symm⟩ : e = _ ∧ w = w')
    rw [show ((⟨#[13]⟩ : ByteArray).data.toList) = [13] from rfl] at hT
    simp only [if_true] at hT ⊢
    generalize Lib.trimSuffix s.data.toList [10] = l1 at *
    generalize Lib.trimSuffix l1 [13] = l2 at *
    clear h hl
    go_enter Try.func20, Try.ntmps20
    go_wp2_with (first | (go_at_call 34; (with_reducible refine Calls.mono hC ?_); rintro e w2 ⟨rfl, rfl⟩) | (go_at_call 35; (with_reducible refine Calls.mono hT ?_); rintro e w2 ⟨rfl, rfl⟩))
    go_ret
    exact ⟨rfl, rfl⟩
end Go.Proofs.Ytbgfeogigjjmdaa
