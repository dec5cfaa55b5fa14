import Derived.Lib.DecodeN
import Derived.Test.YtcajejfddfiidaaDoorHas
namespace Go.Proofs.YtcajejfddfiidaaDoor
open Go.RowKit
set_option linter.unusedVariables false
set_option linter.unusedSimpArgs false


theorem dec_hi (n b0 b1 b2 b3 : Nat) (h : 128 ≤ b0) (hn : 1 ≤ n) : 128 ≤ (Lib.decodeN n b0 b1 b2 b3).1 ∧ 1 ≤ (Lib.decodeN n b0 b1 b2 b3).2 ∧ (Lib.decodeN n b0 b1 b2 b3).2 ≤ n ∧ (Lib.decodeN n b0 b1 b2 b3).2 ≤ 4 ∧ (1 < (Lib.decodeN n b0 b1 b2 b3).2 → 128 ≤ b1) ∧ (2 < (Lib.decodeN n b0 b1 b2 b3).2 → 128 ≤ b2) ∧ (3 < (Lib.decodeN n b0 b1 b2 b3).2 → 128 ≤ b3) := by
  unfold Lib.decodeN
  repeat' split
  all_goals (simp only; omega)
/-- A blank of the document's. -/
def blU (c : UInt8) : Bool := decide (c.toNat = 32 ∨ c.toNat = 9 ∨ c.toNat = 10 ∨ c.toNat = 13)
/-- The words of a text: the longest runs without a blank. -/
def wsA (cur : List UInt8) : List UInt8 → List (List UInt8)
  | [] => if cur = [] then [] else [cur]
  | c :: l => if blU c = true then (if cur = [] then wsA [] l else cur :: wsA [] l) else wsA (cur ++ [c]) l
theorem wsA_skip : ∀ (p cur l : List UInt8), (∀ c ∈ p, blU c = false) → wsA cur (p ++ l) = wsA (cur ++ p) l
  | [], cur, l, _ => by simp
  | c :: p, cur, l, h => by
    have hc := h c (by simp)
    rw [List.cons_append, wsA, if_neg (by rw [hc]; decide), wsA_skip p (cur ++ [c]) l (fun x hx => h x (by simp [hx]))]
    simp
theorem blU_hi {c : UInt8} (h : 128 ≤ c.toNat) : blU c = false := by
  unfold blU
  simp only [decide_eq_false_iff_not]
  omega
theorem dec_list (l : List UInt8) (c : UInt8) (r : List UInt8) (hl : l = c :: r) (hc : 128 ≤ c.toNat) : ∃ R sz : Nat, Utf8.decode ⟨l.toArray⟩ 0 = (R, sz) ∧ 128 ≤ R ∧ 1 ≤ sz ∧ sz ≤ l.length ∧ ∀ b ∈ l.take sz, blU b = false := by
  have hs : (ByteArray.mk l.toArray).size = l.length := by simp [ByteArray.size]
  have hg : ∀ j, j < l.length → ((ByteArray.mk l.toArray).get! j) = l.getD j 0 := fun j hj => by
    simp [ByteArray.get!, List.getD, hj, Array.getElem!_eq_getD]
  rw [Lib.decode_at, hs]
  have hln : 1 ≤ l.length := by rw [hl]; simp
  have h0 := hg 0 (by omega)
  have hb0 : 128 ≤ ((ByteArray.mk l.toArray).get! 0).toNat := by rw [h0, hl]; simpa using hc
  obtain ⟨d1, d2, d3, d4, e1, e2, e3⟩ := dec_hi (l.length - 0) ((ByteArray.mk l.toArray).get! 0).toNat ((ByteArray.mk l.toArray).get! (0 + 1)).toNat ((ByteArray.mk l.toArray).get! (0 + 2)).toNat ((ByteArray.mk l.toArray).get! (0 + 3)).toNat hb0 (by omega)
  generalize Lib.decodeN (l.length - 0) ((ByteArray.mk l.toArray).get! 0).toNat ((ByteArray.mk l.toArray).get! (0 + 1)).toNat ((ByteArray.mk l.toArray).get! (0 + 2)).toNat ((ByteArray.mk l.toArray).get! (0 + 3)).toNat = p at *
  obtain ⟨R, sz⟩ := p
  dsimp only at d1 d2 d3 d4 e1 e2 e3
  refine ⟨R, sz, rfl, d1, d2, by omega, fun b hb => ?_⟩
  obtain ⟨j, hj, rfl⟩ := List.mem_iff_getElem.1 hb
  rw [List.length_take] at hj
  rw [List.getElem_take]
  apply blU_hi
  have hjl : j < l.length := by omega
  have hgj := hg j hjl
  have ej : l.getD j 0 = l[j] := by simp [List.getD, hjl]
  rw [ej] at hgj
  rw [← hgj]
  rcases (by omega : j = 0 ∨ j = 1 ∨ j = 2 ∨ j = 3) with rfl | rfl | rfl | rfl
  · exact hb0
  · exact e1 (by omega)
  · exact e2 (by omega)
  · exact e3 (by omega)
end Go.Proofs.YtcajejfddfiidaaDoor
