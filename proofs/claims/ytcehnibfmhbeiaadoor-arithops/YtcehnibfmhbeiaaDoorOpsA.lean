import Derived.Test.YtcehnibfmhbeiaaDoorLaid
import Derived.Test.YtcehnibfmhbeiaaDoorMath
namespace Go.Proofs.YtcehnibfmhbeiaaDoor
open Go.RowKit

/-- How many operands. -/
def arF (op : Int) : Int := if 1 ≤ op ∧ op ≤ 10 then 0 else if 20 ≤ op ∧ op ≤ 22 then 1 else if 30 ≤ op ∧ op ≤ 36 ∨ 40 ≤ op ∧ op ≤ 45 ∨ op = 50 ∨ op = 51 then 2 else -1
theorem artab_arF : ∀ k : Nat, k < 52 → artab.getD k 0 - 1 = arF k := by decide
theorem artab_bd : ∀ k : Nat, k < 52 → 0 ≤ artab.getD k 0 ∧ artab.getD k 0 ≤ 3 := by decide

set_option maxHeartbeats 400000 in
theorem arity_any (op : Int) (w : World) (hA : ArOk w) : Calls Tryd.prog 20 #[.int .i64 op] w fun e w' => e = .returned (.int .i64 (arF op)) ∧ w' = w := by
  by_cases h0 : op < 0
  · go_enter Tryd.func20, Tryd.ntmps20
    go_wp2
    go_ret
    exact ⟨ret_int (by unfold arF; rw [if_neg (by omega), if_neg (by omega), if_neg (by omega)]), rfl⟩
  · by_cases h1 : 52 ≤ op
    · go_enter Tryd.func20, Tryd.ntmps20
      go_wp2
      go_ret
      exact ⟨ret_int (by unfold arF; rw [if_neg (by omega), if_neg (by omega), if_neg (by omega)]), rfl⟩
    · have hk : op.toNat < 52 := by omega
      have hc := hA op.toNat hk
      have hb := artab_bd op.toNat hk
      have he := artab_arF op.toNat hk
      generalize artab.getD op.toNat 0 = v at hc hb he
      obtain ⟨hb1, hb2⟩ := hb
      rw [show ((op.toNat : Nat) : Int) = op by omega] at he
      have he' : Hid (v - 1 = arF op) := he
      have h2 : op < 52 := by omega
      clear hA hk he
      go_enter Tryd.func20, Tryd.ntmps20
      go_wp2
      go_ret
      exact ⟨ret_int he'.out, rfl⟩

set_option maxHeartbeats 1000000 in
theorem refArity_any (op : Int) (w : World) : Calls Tryd.prog 21 #[.int .i64 op] w fun e w' => e = .returned (.int .i64 (arF op)) ∧ w' = w := by
  have hcs : op < 1 ∨ (1 ≤ op ∧ op ≤ 10) ∨ (10 < op ∧ op < 20) ∨ (20 ≤ op ∧ op ≤ 22) ∨ (22 < op ∧ op < 30) ∨ (30 ≤ op ∧ op ≤ 36) ∨ (36 < op ∧ op < 40) ∨ (40 ≤ op ∧ op ≤ 45) ∨ (45 < op ∧ op < 50) ∨ op = 50 ∨ op = 51 ∨ 51 < op := by omega
  rcases hcs with h | ⟨h, h'⟩ | ⟨h, h'⟩ | ⟨h, h'⟩ | ⟨h, h'⟩ | ⟨h, h'⟩ | ⟨h, h'⟩ | ⟨h, h'⟩ | ⟨h, h'⟩ | h | h | h
  all_goals
    first | subst h | (have h50 : (op == 50) = false := by simp; omega)
    try (have h51 : (op == 51) = false := by simp; omega)
    go_enter Tryd.func21, Tryd.ntmps21
    go_wp2
    go_ret
    exact ⟨ret_int (by unfold arF; split <;> (try split) <;> (try split) <;> first | rfl | omega), rfl⟩

set_option maxHeartbeats 400000 in
theorem unary_22 (a : Int) (w0 w : World) (hA : St w0 w) (h : 0 ≤ a) :
    Calls Tryd.prog 9 #[.int .i64 22, .int .i32 a] w fun e w' => e = .returned (.tuple #[.int .i32 a, .int .i64 0]) ∧ St w0 w' := by
  have hs : tbl42.size = 23 := rfl
  have ht : tbl42[22]'(by decide) = .func (.func 24) #[] #[] := rfl
  go_enter Tryd.func9, Tryd.ntmps9
  go_wp2_with (first | (go_at_call 20; refine (arity_22 _ hA.1).mono ?_; rintro e w' ⟨rfl, rfl⟩) | (go_at_call 24; refine (abs_ge _ _ (by omega)).mono ?_; rintro e w' ⟨rfl, rfl⟩) | (guard_target =~ wpList _ _ _ (_ :: { dst := _, op := Op.alloc 42, type := _, pos := _, after := _, guard := _ } :: _) _ _; go_must (refine wpList_table rfl rfl rfl 42 _ _ _ rfl rfl rfl tbl42 zer42 (built42 _) alloc42 rfl rfl info42 rfl (by kernel_rfl) ?_)))
  go_ret2
  exact ⟨rfl, hA.alloc _ _⟩

set_option maxHeartbeats 400000 in
theorem binary_bad (op a b v : Int) (w : World) (hA : ArOk w) (hv : arF op = v) (h2 : (v != 2) = true) :
    Calls Tryd.prog 17 #[.int .i64 op, .int .i32 a, .int .i32 b] w fun e w' => e = .returned (.tuple #[.int .i32 0, .int .i64 10]) ∧ w' = w := by
  have hc : ∀ w, ArOk w → Calls Tryd.prog 20 #[.int .i64 op] w fun e w' => e = .returned (.int .i64 v) ∧ w' = w := by
    intro w h; have := arity_any op w h; rw [hv] at this; exact this
  clear hv
  go_enter Tryd.func17, Tryd.ntmps17
  go_wp2_with (go_at_call 20; refine (hc _ hA).mono ?_; rintro e w' ⟨rfl, rfl⟩)
  go_ret2
  exact ⟨rfl, rfl⟩

set_option maxHeartbeats 400000 in
theorem unary_bad (op a v : Int) (w : World) (hA : ArOk w) (hv : arF op = v) (h2 : (v != 1) = true) :
    Calls Tryd.prog 9 #[.int .i64 op, .int .i32 a] w fun e w' => e = .returned (.tuple #[.int .i32 0, .int .i64 10]) ∧ w' = w := by
  have hc : ∀ w, ArOk w → Calls Tryd.prog 20 #[.int .i64 op] w fun e w' => e = .returned (.int .i64 v) ∧ w' = w := by
    intro w h; have := arity_any op w h; rw [hv] at this; exact this
  clear hv
  go_enter Tryd.func9, Tryd.ntmps9
  go_wp2_with (go_at_call 20; refine (hc _ hA).mono ?_; rintro e w' ⟨rfl, rfl⟩)
  go_ret2
  exact ⟨rfl, rfl⟩

set_option maxHeartbeats 400000 in
theorem refBinary_bad (op a b v : Int) (w : World) (hv : arF op = v) (h2 : (v != 2) = true) :
    Calls Tryd.prog 18 #[.int .i64 op, .int .i32 a, .int .i32 b] w fun e w' => e = .returned (.tuple #[.int .i32 0, .int .i64 10]) ∧ w' = w := by
  have hc : ∀ w, Calls Tryd.prog 21 #[.int .i64 op] w fun e w' => e = .returned (.int .i64 v) ∧ w' = w := by
    intro w; have := refArity_any op w; rw [hv] at this; exact this
  clear hv
  go_enter Tryd.func18, Tryd.ntmps18
  go_wp2_with (go_at_call 21; refine (hc _).mono ?_; rintro e w' ⟨rfl, rfl⟩)
  go_ret2
  exact ⟨rfl, rfl⟩

set_option maxHeartbeats 400000 in
theorem refUnary_bad (op a : Int) (w : World) (h0 : (op == 20) = false) (h1 : (op == 21) = false) (h2 : (op == 22) = false) :
    Calls Tryd.prog 19 #[.int .i64 op, .int .i32 a] w fun e w' => e = .returned (.tuple #[.int .i32 0, .int .i64 10]) ∧ w' = w := by
  go_enter Tryd.func19, Tryd.ntmps19
  go_wp2
  go_ret2
  exact ⟨rfl, rfl⟩
end Go.Proofs.YtcehnibfmhbeiaaDoor
