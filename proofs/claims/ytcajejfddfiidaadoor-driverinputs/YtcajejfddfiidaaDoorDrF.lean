import Derived.Test.YtcajejfddfiidaaDoorDrE
namespace Go.Proofs.YtcajejfddfiidaaDoor
open Go.RowKit
set_option linter.unusedVariables false
set_option linter.unusedSimpArgs false

theorem upF_past (d : ByteArray) (c : UInt8) (R : List UInt8) : ∀ (M A : List UInt8), d.data.toList = A ++ (M ++ R) → c ∉ M → A.length + M.length ≤ upF d c A.length := by
  intro M
  induction M with
  | nil => intro A h _; exact upF_ge d c _ _ (Nat.le_refl _)
  | cons x M ih =>
    intro A h hc
    obtain ⟨hh, hx⟩ := at_split d A (M ++ R) x h
    rw [upF_next d c _ hh (by rw [hx]; intro e; exact hc (by rw [e]; exact List.mem_cons_self ..))]
    have := ih (A ++ [x]) (by rw [h]; simp) (fun e => hc (List.mem_cons_of_mem _ e))
    rw [List.length_append, List.length_singleton] at this
    rw [List.length_cons]; omega
theorem ext_split (d : ByteArray) (A M R : List UInt8) (h : d.data.toList = A ++ (M ++ R)) : d.extract A.length (A.length + M.length) = ⟨M.toArray⟩ := by
  apply WideShapes.bytes_inj
  rw [ByteArray.data_extract, Array.toList_extract, h, List.extract_eq_take_drop]
  simp
/-- The bytes of ticks, of heads, of a stage. -/
def tkL (a b : Nat) : List UInt8 := if a < b then Lib.decDigits a ++ 45 :: Lib.decDigits b else Lib.decDigits a
def hsL (h : ByteArray) : List UInt8 := if h.data.toList.isEmpty then [46] else h.data.toList
def sgL (s : Int) : List UInt8 := if 0 ≤ s then Lib.decDigits s.toNat else [45]
theorem ti_list (n : Int) (h : 0 ≤ n) : (ti n).data.toList = Lib.decDigits n.toNat := by
  unfold ti Lib.itoa; rw [if_neg (by omega)]
theorem ln_list (a b : Nat) (h : ByteArray) (s : Int) : (lnF a b h s).data.toList = tkL a b ++ 32 :: (hsL h ++ 32 :: (sgL s ++ [10])) := by
  have e1 : (tkF a b).data.toList = tkL a b := by
    unfold tkF tkL
    by_cases hc : a < b
    · rw [if_pos hc, if_pos hc]; simp [ti_list]
    · rw [if_neg hc, if_neg hc]; simp [ti_list]
  have e2 : (hsF h).data.toList = hsL h := by
    unfold hsF hsL
    rw [ByteArray.toList_eq]
    cases hE : h.data.toList.isEmpty with
    | true => rfl
    | false => rfl
  have e3 : (sgF s).data.toList = sgL s := by
    unfold sgF sgL
    by_cases hc : 0 ≤ s
    · rw [if_pos hc, if_pos hc]; exact ti_list s hc
    · rw [if_neg hc, if_neg hc]
  unfold lnF
  simp [e1, e2, e3]
theorem dec_no (u : Nat) (c : UInt8) (hc : ¬ isD c) : c ∉ Lib.decDigits u := fun h => hc ((dec_dig u u (Nat.le_refl _)).1 c h)
theorem tk_no (a b : Nat) (c : UInt8) (hc : ¬ isD c) (h : c ≠ 45) : c ∉ tkL a b := by
  unfold tkL
  by_cases e : a < b
  · rw [if_pos e]
    intro hm
    rcases List.mem_append.1 hm with hm | hm
    · exact dec_no a c hc hm
    · rcases List.mem_cons.1 hm with hm | hm
      · exact h hm
      · exact dec_no b c hc hm
  · rw [if_neg e]; exact dec_no a c hc
theorem sg_no (s : Int) (c : UInt8) (hc : ¬ isD c) (h : c ≠ 45) : c ∉ sgL s := by
  unfold sgL
  by_cases e : 0 ≤ s
  · rw [if_pos e]; exact dec_no _ c hc
  · rw [if_neg e]; simpa using h
theorem hs_no (h : ByteArray) (c : UInt8) (hh : hdB h = true) (hc : isL c = false) (h46 : c ≠ 46) : c ∉ hsL h := by
  have ha : h.data.toList.all isL = true := by unfold hdB at hh; rw [Bool.and_eq_true] at hh; exact hh.2
  unfold hsL
  cases hE : h.data.toList.isEmpty with
  | true => rw [if_pos rfl]; simpa using h46
  | false =>
    rw [if_neg (by simp)]
    intro hm
    have := List.all_eq_true.1 ha c hm
    rw [hc] at this; cases this
end Go.Proofs.YtcajejfddfiidaaDoor
