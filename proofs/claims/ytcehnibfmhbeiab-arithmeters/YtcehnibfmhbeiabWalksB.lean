import Derived.Test.YtcehnibfmhbeiabWalksA
import Derived.Deep.QuietTactic
import Derived.BigQuiet
namespace Go.Proofs.Ytcehnibfmhbeiab
open Go.RowKit

def stF (r : Bool) (v : Int) : Int := if r then upF v else v

set_option maxHeartbeats 400000 in
theorem step_any (v : Int) (r : Bool) (w : World) (h1 : -2147483648 ≤ v) (h2 : v ≤ 2147483647) : Calls Try.prog 6 #[.agg #[.int .i32 v, .bool r]] w fun e w' => e = .returned (.agg #[.int .i32 (stF r v), .bool r]) ∧ Below w.heap.size w w' := by
  cases r
  · go_enter Try.func6, Try.ntmps6
    go_wp2
    refine bodyPost_ret (v := .agg #[.int .i32 v, .bool false]) (by simp [results, Try.results6, go_sem]) rfl ⟨rfl, ?_⟩
    exact ((Below.refl _ _).alloc (Nat.le_refl _) _).alloc (by simp) _
  · go_enter Try.func6, Try.ntmps6
    go_wp2_with (first | (go_at_call 4; refine (up_any _ _ h1 h2).mono ?_; rintro e w' ⟨rfl, rfl⟩) | (go_at_call 5; refine (refUp_any _ _ h1 h2).mono ?_; rintro e w' ⟨rfl, rfl⟩))
    refine bodyPost_ret (v := .agg #[.int .i32 (upF v), .bool true]) (by simp [results, Try.results6, go_sem]) rfl ⟨rfl, ?_⟩
    exact ((Below.refl _ _).alloc (Nat.le_refl _) _).alloc (by simp) _

set_option maxHeartbeats 400000 in
theorem refStep_any (v : Int) (r : Bool) (w : World) (h1 : -2147483648 ≤ v) (h2 : v ≤ 2147483647) : Calls Try.prog 7 #[.agg #[.int .i32 v, .bool r]] w fun e w' => e = .returned (.agg #[.int .i32 (stF r v), .bool r]) ∧ Below w.heap.size w w' := by
  cases r
  · go_enter Try.func7, Try.ntmps7
    go_wp2
    refine bodyPost_ret (v := .agg #[.int .i32 v, .bool false]) (by simp [results, Try.results7, go_sem]) rfl ⟨rfl, ?_⟩
    exact ((Below.refl _ _).alloc (Nat.le_refl _) _).alloc (by simp) _
  · go_enter Try.func7, Try.ntmps7
    go_wp2_with (first | (go_at_call 4; refine (up_any _ _ h1 h2).mono ?_; rintro e w' ⟨rfl, rfl⟩) | (go_at_call 5; refine (refUp_any _ _ h1 h2).mono ?_; rintro e w' ⟨rfl, rfl⟩))
    refine bodyPost_ret (v := .agg #[.int .i32 (upF v), .bool true]) (by simp [results, Try.results7, go_sem]) rfl ⟨rfl, ?_⟩
    exact ((Below.refl _ _).alloc (Nat.le_refl _) _).alloc (by simp) _

set_option maxHeartbeats 400000 in
theorem clear_any (run left : Int) (on mem : Bool) (w : World) : Calls Try.prog 12 #[.agg #[.int .i32 run, .int .i32 left, .bool on, .bool mem]] w fun e w' => e = .returned (.agg #[.int .i32 run, .int .i32 left, .bool on, .bool false]) ∧ Below w.heap.size w w' := by
  go_enter Try.func12, Try.ntmps12
  go_wp2
  refine bodyPost_ret (v := .agg #[.int .i32 run, .int .i32 left, .bool on, .bool false]) (by simp [results, Try.results12, go_sem]) rfl ⟨rfl, ?_⟩
  exact ((Below.refl _ _).alloc (Nat.le_refl _) _).alloc (by simp) _

set_option maxHeartbeats 400000 in
theorem refClear_any (run left : Int) (on mem : Bool) (w : World) : Calls Try.prog 13 #[.agg #[.int .i32 run, .int .i32 left, .bool on, .bool mem]] w fun e w' => e = .returned (.agg #[.int .i32 run, .int .i32 left, .bool on, .bool false]) ∧ Below w.heap.size w w' := by
  go_enter Try.func13, Try.ntmps13
  go_wp2
  refine bodyPost_ret (v := .agg #[.int .i32 run, .int .i32 left, .bool on, .bool false]) (by simp [results, Try.results13, go_sem]) rfl ⟨rfl, ?_⟩
  exact ((Below.refl _ _).alloc (Nat.le_refl _) _).alloc (by simp) _

set_option maxHeartbeats 400000 in
theorem says_any (s : ByteArray) (latch on mem : Bool) (delay hold run left : Int) (w : World) :
    Calls Try.prog 10 #[.agg #[.string s, .bool latch, .int .i64 delay, .int .i64 hold], .agg #[.int .i32 run, .int .i32 left, .bool on, .bool mem]] w fun e w' => e = .returned (.bool (on || (latch && mem))) ∧ Below w.heap.size w w' := by
  cases on <;> cases latch
  all_goals
    go_enter Try.func10, Try.ntmps10
    go_wp2
    go_ret
    exact ⟨by first | rfl | (cases mem <;> rfl), ((Below.refl _ _).alloc (Nat.le_refl _) _).alloc (by simp) _⟩

set_option maxHeartbeats 400000 in
theorem refSays_any (s : ByteArray) (latch on mem : Bool) (delay hold run left : Int) (w : World) :
    Calls Try.prog 11 #[.agg #[.string s, .bool latch, .int .i64 delay, .int .i64 hold], .agg #[.int .i32 run, .int .i32 left, .bool on, .bool mem]] w fun e w' => e = .returned (.bool (on || (latch && mem))) ∧ Below w.heap.size w w' := by
  cases on <;> cases latch
  all_goals
    go_enter Try.func11, Try.ntmps11
    go_wp2
    go_ret
    exact ⟨by first | rfl | (cases mem <;> rfl), ((Below.refl _ _).alloc (Nat.le_refl _) _).alloc (by simp) _⟩


def sRun (raw : Bool) (run : Int) : Int := if raw then upF run else 0
def sAct (raw : Bool) (run delay : Int) : Bool := decide (tickF delay < sRun raw run)
def sLeft (raw : Bool) (run delay hold left : Int) : Int := if sAct raw run delay then tickF hold else if 0 < left then left - 1 else 0
def sOn (raw : Bool) (run delay left : Int) : Bool := sAct raw run delay || decide (0 < left)
def sMem (raw latch mem : Bool) (run delay : Int) : Bool := latch && (mem || sAct raw run delay)
theorem ret_det {a b a' b' : Int} {c d c' d' : Bool} (h1 : a = a') (h2 : b = b') (h3 : c = c') (h4 : d = d') :
    Ending.returned (.agg #[.int .i32 a, .int .i32 b, .bool c, .bool d]) = .returned (.agg #[.int .i32 a', .int .i32 b', .bool c', .bool d']) := by rw [h1, h2, h3, h4]

end Go.Proofs.Ytcehnibfmhbeiab
