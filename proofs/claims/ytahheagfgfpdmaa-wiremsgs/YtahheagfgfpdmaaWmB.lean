import Derived.Test.YtahheagfgfpdmaaRgE
namespace Go.Proofs.Ytahheagfgfpdmaa
open Go.RowKit
set_option linter.unusedVariables false
set_option linter.unusedSimpArgs false


/-- The kinds of messages, and the fields that they have. -/
def kOk (k : Int) : Bool := decide (k = 1) || decide (k = 2) || decide (k = 3) || decide (k = 4) || decide (k = 5) || decide (k = 6) || decide (k = 10) || decide (k = 11) || decide (k = 12)
def fSl (k : Int) : Bool := decide (k = 1) || decide (k = 12) || decide (k = 4) || decide (k = 5)
def fNu (k : Int) : Bool := decide (k = 1) || decide (k = 12) || decide (k = 2) || decide (k = 11)
def fSu (k : Int) : Bool := decide (k = 1) || decide (k = 12)
def fmB (k s n u : Int) (l : Nat) : Bool := kOk k && decide (0 ≤ s) && decide (s ≤ 255) && (decide (s = 0) || fSl k) && (decide (n = 0) || fNu k) && (decide (u = 0) || fSu k) && (if k = 2 then decide (1 ≤ l) && decide (l ≤ 246) else decide (l = 0))
theorem within_lit (a lo hi : Int) (b : Bool) (w : World) (hb : (decide (lo ≤ a) && decide (a ≤ hi)) = b) : Calls Try.prog 21 #[.int .i64 a, .int .i64 lo, .int .i64 hi] w fun e w' => e = .returned (.bool b) ∧ w' = w := by
  by_cases h : lo ≤ a
  · have e : b = decide (a ≤ hi) := by rw [← hb]; simp [h]
    go_enter Try.func21, Try.ntmps21
    go_wp2
    go_ret
    exact ⟨by first | rfl | exact ret_bool e.symm, rfl⟩
  · have e : b = false := by rw [← hb]; simp [h]
    go_enter Try.func21, Try.ntmps21
    go_wp2
    go_ret
    exact ⟨by first | rfl | exact ret_bool e.symm, rfl⟩
set_option maxRecDepth 100000 in
set_option maxHeartbeats 2000000 in
theorem fields_any (k : Int) (w : World) : Calls Try.prog 22 #[.int .i64 k] w fun e w' => e = .returned (.tuple #[.agg #[.bool (fSl k), .bool (fNu k), .bool (fSu k), .bool (decide (k = 2))], .bool (kOk k)]) ∧ Below w.heap.size w w' := by
  by_cases h1 : k = 1
  · subst h1
    go_enter Try.func22, Try.ntmps22
    go_wp2
    exact bodyPost_ret (v := .tuple #[.agg #[.bool true, .bool true, .bool true, .bool false], .bool true]) (by simp [results, Try.results22, go_sem]) rfl ⟨by first | rfl | simp [fSl, fNu, fSu, kOk, *], belN1⟩
  by_cases h12 : k = 12
  · subst h12
    go_enter Try.func22, Try.ntmps22
    go_wp2
    exact bodyPost_ret (v := .tuple #[.agg #[.bool true, .bool true, .bool true, .bool false], .bool true]) (by simp [results, Try.results22, go_sem]) rfl ⟨by first | rfl | simp [fSl, fNu, fSu, kOk, *], belN1⟩
  by_cases h2 : k = 2
  · subst h2
    go_enter Try.func22, Try.ntmps22
    go_wp2
    exact bodyPost_ret (v := .tuple #[.agg #[.bool false, .bool true, .bool false, .bool true], .bool true]) (by simp [results, Try.results22, go_sem]) rfl ⟨by first | rfl | simp [fSl, fNu, fSu, kOk, *], belN1⟩
  by_cases h3 : k = 3
  · subst h3
    go_enter Try.func22, Try.ntmps22
    go_wp2
    exact bodyPost_ret (v := .tuple #[.agg #[.bool false, .bool false, .bool false, .bool false], .bool true]) (by simp [results, Try.results22, go_sem]) rfl ⟨by first | rfl | simp [fSl, fNu, fSu, kOk, *], belN1⟩
  by_cases h6 : k = 6
  · subst h6
    go_enter Try.func22, Try.ntmps22
    go_wp2
    exact bodyPost_ret (v := .tuple #[.agg #[.bool false, .bool false, .bool false, .bool false], .bool true]) (by simp [results, Try.results22, go_sem]) rfl ⟨by first | rfl | simp [fSl, fNu, fSu, kOk, *], belN1⟩
  by_cases h10 : k = 10
  · subst h10
    go_enter Try.func22, Try.ntmps22
    go_wp2
    exact bodyPost_ret (v := .tuple #[.agg #[.bool false, .bool false, .bool false, .bool false], .bool true]) (by simp [results, Try.results22, go_sem]) rfl ⟨by first | rfl | simp [fSl, fNu, fSu, kOk, *], belN1⟩
  by_cases h4 : k = 4
  · subst h4
    go_enter Try.func22, Try.ntmps22
    go_wp2
    exact bodyPost_ret (v := .tuple #[.agg #[.bool true, .bool false, .bool false, .bool false], .bool true]) (by simp [results, Try.results22, go_sem]) rfl ⟨by first | rfl | simp [fSl, fNu, fSu, kOk, *], belN1⟩
  by_cases h5 : k = 5
  · subst h5
    go_enter Try.func22, Try.ntmps22
    go_wp2
    exact bodyPost_ret (v := .tuple #[.agg #[.bool true, .bool false, .bool false, .bool false], .bool true]) (by simp [results, Try.results22, go_sem]) rfl ⟨by first | rfl | simp [fSl, fNu, fSu, kOk, *], belN1⟩
  by_cases h11 : k = 11
  · subst h11
    go_enter Try.func22, Try.ntmps22
    go_wp2
    exact bodyPost_ret (v := .tuple #[.agg #[.bool false, .bool true, .bool false, .bool false], .bool true]) (by simp [results, Try.results22, go_sem]) rfl ⟨by first | rfl | simp [fSl, fNu, fSu, kOk, *], belN1⟩
  go_enter Try.func22, Try.ntmps22
  go_wp2
  exact bodyPost_ret (v := .tuple #[.agg #[.bool false, .bool false, .bool false, .bool false], .bool false]) (by simp [results, Try.results22, go_sem]) rfl ⟨by first | rfl | simp [fSl, fNu, fSu, kOk, *], belN1⟩
end Go.Proofs.Ytahheagfgfpdmaa
