import Derived.Test.YtahheagfgfpdmaaWmB
namespace Go.Proofs.Ytahheagfgfpdmaa
open Go.RowKit
set_option linter.unusedVariables false
set_option linter.unusedSimpArgs false

set_option maxRecDepth 100000 in
set_option maxHeartbeats 2000000 in
theorem wfm12 (s n u : Int) (l c : Nat) (va : Option Addr) (w : World) (hl : l ≤ 140737488355328) : Calls Try.prog 17 #[.agg #[.int .i64 12, .int .i64 s, .int .u32 n, .int .u32 u, .slice va l c]] w fun e w' => e = .returned (.bool (fmB 12 s n u l)) ∧ Below w.heap.size w w' := by
  by_cases s0 : 0 ≤ s
  case neg =>
    have s0' : s < 0 := by omega
    have hf : ∀ X : World, Calls Try.prog 22 #[.int .i64 12] X fun e w' => e = .returned (.tuple #[.agg #[.bool true, .bool true, .bool true, .bool false], .bool true]) ∧ Below X.heap.size X w' := fun X => fields_any 12 X
    have e : fmB 12 s n u l = false := by simp [fmB, kOk, fSl, fNu, fSu, *]
    go_enter Try.func17, Try.ntmps17
    go_wp2_with (go_at_call 22; (with_reducible refine Calls.mono (hf _) ?_); rintro e w1 ⟨rfl, hb⟩; have hm := (Has.below (Has.new w #[.int .i64 12, .int .i64 s, .int .u32 n, .int .u32 u, .slice va l c] 25 rfl) hb).alloc (.cells #[.bool true, .bool true, .bool true, .bool false] 45); have m0 := hm.2.1 0; have m1 := hm.2.1 1; have m2 := hm.2.1 2; have m3 := hm.2.1 3; have m4 := hm.2.1 4)
    go_ret
    exact ⟨by first | rfl | exact ret_bool e.symm, (belN1.trans (hb.mono (by simp))).alloc (Nat.le_trans (by simp) hb.size) _⟩
  have s0' : ¬ s < 0 := by omega
  by_cases s1 : s ≤ 255
  case neg =>
    have s1' : 255 < s := by omega
    have hf : ∀ X : World, Calls Try.prog 22 #[.int .i64 12] X fun e w' => e = .returned (.tuple #[.agg #[.bool true, .bool true, .bool true, .bool false], .bool true]) ∧ Below X.heap.size X w' := fun X => fields_any 12 X
    have e : fmB 12 s n u l = false := by simp [fmB, kOk, fSl, fNu, fSu, *]
    go_enter Try.func17, Try.ntmps17
    go_wp2_with (go_at_call 22; (with_reducible refine Calls.mono (hf _) ?_); rintro e w1 ⟨rfl, hb⟩; have hm := (Has.below (Has.new w #[.int .i64 12, .int .i64 s, .int .u32 n, .int .u32 u, .slice va l c] 25 rfl) hb).alloc (.cells #[.bool true, .bool true, .bool true, .bool false] 45); have m0 := hm.2.1 0; have m1 := hm.2.1 1; have m2 := hm.2.1 2; have m3 := hm.2.1 3; have m4 := hm.2.1 4)
    go_ret
    exact ⟨by first | rfl | exact ret_bool e.symm, (belN1.trans (hb.mono (by simp))).alloc (Nat.le_trans (by simp) hb.size) _⟩
  have s1' : ¬ 255 < s := by omega
  have hf : ∀ X : World, Calls Try.prog 22 #[.int .i64 12] X fun e w' => e = .returned (.tuple #[.agg #[.bool true, .bool true, .bool true, .bool false], .bool true]) ∧ Below X.heap.size X w' := fun X => fields_any 12 X
  have e : fmB 12 s n u l = decide ((l : Int) = 0) := by simp [fmB, kOk, fSl, fNu, fSu, *]
  go_enter Try.func17, Try.ntmps17
  go_wp2_with (go_at_call 22; (with_reducible refine Calls.mono (hf _) ?_); rintro e w1 ⟨rfl, hb⟩; have hm := (Has.below (Has.new w #[.int .i64 12, .int .i64 s, .int .u32 n, .int .u32 u, .slice va l c] 25 rfl) hb).alloc (.cells #[.bool true, .bool true, .bool true, .bool false] 45); have m0 := hm.2.1 0; have m1 := hm.2.1 1; have m2 := hm.2.1 2; have m3 := hm.2.1 3; have m4 := hm.2.1 4)
  go_ret
  exact ⟨by first | rfl | exact ret_bool e.symm, (belN1.trans (hb.mono (by simp))).alloc (Nat.le_trans (by simp) hb.size) _⟩
end Go.Proofs.Ytahheagfgfpdmaa
