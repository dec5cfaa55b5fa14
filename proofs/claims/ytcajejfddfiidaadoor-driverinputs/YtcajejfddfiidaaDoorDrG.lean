import Derived.Test.YtcajejfddfiidaaDoorDrF
namespace Go.Proofs.YtcajejfddfiidaaDoor
open Go.RowKit
set_option linter.unusedVariables false
set_option linter.unusedSimpArgs false

theorem notD (c : UInt8) (h : c.toNat < 48 ∨ 57 < c.toNat) : ¬ isD c := by unfold isD; omega
theorem headD (c : UInt8) (h : c.toNat < 48 ∨ 57 < c.toNat) (T : List UInt8) : ∀ x R', c :: T = x :: R' → ¬ isD x := by
  intro x R' e
  cases e
  exact notD c h
/-- A written line is guessed as what it was written of. -/
theorem line_guess (d : ByteArray) (A T : List UInt8) (a b : Nat) (h : ByteArray) (s : Int) (hd : d.data.toList = A ++ ((lnF a b h s).data.toList ++ T)) (hab : a ≤ b) (hb : b < 65536) (hh : hdB h = true) (hs : stB s = true) (L : List En) (hL : L.length = a) :
    gsS d A.length L = some (L ++ List.replicate (b + 1 - a) ⟨h, s⟩) ∧ upF d 10 A.length + 1 = A.length + (lnF a b h s).data.toList.length := by
  have hs' : -1 ≤ s ∧ s ≤ 255 := by unfold stB at hs; rw [Bool.and_eq_true] at hs; exact ⟨of_decide_eq_true hs.1, of_decide_eq_true hs.2⟩
  have n32 : ¬ isD 32 := notD 32 (by decide)
  have n10 : ¬ isD 10 := notD 10 (by decide)
  have n45 : ¬ isD 45 := notD 45 (by decide)
  rw [ln_list] at hd
  rw [ln_list]
  have hd : d.data.toList = A ++ (tkL a b ++ 32 :: (hsL h ++ 32 :: (sgL s ++ 10 :: T))) := by rw [hd]; simp
  have u32 : upF d 32 A.length = A.length + (tkL a b).length := upF_split d 32 _ _ A hd (tk_no a b 32 n32 (by decide))
  have hd2 : d.data.toList = (A ++ tkL a b ++ [32]) ++ (hsL h ++ 32 :: (sgL s ++ 10 :: T)) := by rw [hd]; simp
  have l2 : (A ++ tkL a b ++ [32]).length = A.length + (tkL a b).length + 1 := by simp; omega
  have v32 := upF_split d 32 _ _ (A ++ tkL a b ++ [32]) hd2 (hs_no h 32 hh (by decide) (by decide))
  rw [l2] at v32
  have hd3 : d.data.toList = (A ++ tkL a b ++ [32] ++ hsL h ++ [32]) ++ (sgL s ++ 10 :: T) := by rw [hd]; simp
  have l3 : (A ++ tkL a b ++ [32] ++ hsL h ++ [32]).length = A.length + (tkL a b).length + 1 + (hsL h).length + 1 := by simp; omega
  have hd4 : d.data.toList = A ++ ((tkL a b ++ [32] ++ hsL h ++ [32] ++ sgL s) ++ 10 :: T) := by rw [hd]; simp
  have u10 : upF d 10 A.length = A.length + (tkL a b ++ [32] ++ hsL h ++ [32] ++ sgL s).length := by
    refine upF_split d 10 _ _ A hd4 ?_
    simp only [List.mem_append, List.mem_singleton, not_or]
    exact ⟨⟨⟨⟨tk_no a b 10 n10 (by decide), by decide⟩, hs_no h 10 hh (by decide) (by decide)⟩, by decide⟩, sg_no s 10 n10 (by decide)⟩
  have l4 : (tkL a b ++ [32] ++ hsL h ++ [32] ++ sgL s).length = (tkL a b).length + 1 + (hsL h).length + 1 + (sgL s).length := by simp; omega
  rw [l4] at u10
  have eTo : gTo d A.length = (b : Int) := by
    unfold gTo
    rw [u32]
    by_cases e : a < b
    · have et : tkL a b = Lib.decDigits a ++ 45 :: Lib.decDigits b := by unfold tkL; rw [if_pos e]
      have u45 : upF d 45 A.length = A.length + (Lib.decDigits a).length := upF_split d 45 (Lib.decDigits b ++ 32 :: (hsL h ++ 32 :: (sgL s ++ 10 :: T))) _ A (by rw [hd, et]; simp) (dec_no a 45 n45)
      rw [u45, if_pos (by rw [et, List.length_append, List.length_cons]; omega)]
      have := digF_split d (A ++ Lib.decDigits a ++ [45]) (32 :: (hsL h ++ 32 :: (sgL s ++ 10 :: T))) b (by omega) (by rw [hd, et]; simp) (headD 32 (by decide) _)
      have lx : (A ++ Lib.decDigits a ++ [45]).length = A.length + (Lib.decDigits a).length + 1 := by simp; omega
      rw [lx] at this
      rw [this]
    · have hba : b = a := by omega
      have et : tkL a b = Lib.decDigits a := by unfold tkL; rw [if_neg e]
      have u45 := upF_past d 45 _ _ A hd (by rw [et]; exact dec_no a 45 n45)
      rw [if_neg (by omega)]
      have := digF_split d A (32 :: (hsL h ++ 32 :: (sgL s ++ 10 :: T))) a (by omega) (by rw [hd, et]) (headD 32 (by decide) _)
      rw [this, hba]
  have eHd : gHd d (A.length + (tkL a b).length) (A.length + (tkL a b).length + 1 + (hsL h).length) = h := by
    have ex := ext_split d (A ++ tkL a b ++ [32]) (hsL h) _ hd2
    rw [l2] at ex
    unfold gHd
    rw [ex, ByteArray.toList_eq]
    have ha : h.data.toList.all isL = true := by unfold hdB at hh; rw [Bool.and_eq_true] at hh; exact hh.2
    cases hE : h.data.toList.isEmpty with
    | true =>
      have eh : hsL h = [46] := by unfold hsL; rw [hE]; rfl
      rw [eh]
      rw [if_pos (by simp)]
      apply WideShapes.bytes_inj
      exact (List.isEmpty_iff.1 hE).symm
    | false =>
      have eh : hsL h = h.data.toList := by unfold hsL; rw [hE]; rfl
      rw [eh, if_neg]
      intro hc
      have hc := eq_of_beq hc
      have hm : (46 : UInt8) ∈ h.data.toList := by
        have : h.data.toList = [46] := by simpa using hc
        rw [this]; exact List.mem_singleton.2 rfl
      have := List.all_eq_true.1 ha 46 hm
      exact absurd this (by decide)
  have eSg : gSg d (A.length + (tkL a b).length + 1 + (hsL h).length) (A.length + ((tkL a b).length + 1 + (hsL h).length + 1 + (sgL s).length)) = s := by
    have ex := ext_split d (A ++ tkL a b ++ [32] ++ hsL h ++ [32]) (sgL s) _ hd3
    rw [l3] at ex
    unfold gSg
    have er : A.length + ((tkL a b).length + 1 + (hsL h).length + 1 + (sgL s).length) = A.length + (tkL a b).length + 1 + (hsL h).length + 1 + (sgL s).length := by omega
    rw [er, ex, ByteArray.toList_eq]
    by_cases e : 0 ≤ s
    · have es : sgL s = Lib.decDigits s.toNat := by unfold sgL; rw [if_pos e]
      rw [if_neg]
      · have := digF_split d (A ++ tkL a b ++ [32] ++ hsL h ++ [32]) (10 :: T) s.toNat (by omega) (by rw [hd3, es]) (headD 10 (by decide) _)
        rw [l3] at this
        rw [this]; show ((s.toNat : Nat) : Int) = s; omega
      · intro hc
        have hc := eq_of_beq hc
        have hm : (45 : UInt8) ∈ Lib.decDigits s.toNat := by
          have : sgL s = [45] := by simpa using hc
          rw [← es, this]; exact List.mem_singleton.2 rfl
        exact dec_no _ 45 n45 hm
    · have es : sgL s = [45] := by unfold sgL; rw [if_neg e]
      rw [es, if_pos (by simp)]; omega
  refine ⟨?_, ?_⟩
  · unfold gsS
    rw [eTo, u32, v32, u10, eHd, eSg, if_neg (by omega), if_neg (by omega), if_neg (by omega), hL]
    congr 3
  · rw [u10]; simp; omega
end Go.Proofs.YtcajejfddfiidaaDoor
