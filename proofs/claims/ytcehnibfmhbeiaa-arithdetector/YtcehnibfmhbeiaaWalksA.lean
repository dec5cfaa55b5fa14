import Derived.Test.YtcehnibfmhbeiaaRows
import Derived.WalkKit
import Derived.WalkSpells
import Derived.Deep.RegionHeld3
import Derived.Deep.DeepMust
import Derived.Deep.QuietTactic
import Derived.BigQuiet
namespace Go.Proofs.Ytcehnibfmhbeiaa
open Go.RowKit
set_option linter.unusedVariables false

theorem ret_int {k : IntKind} {a b : Int} (h : a = b) : Ending.returned (.int k a) = .returned (.int k b) := by rw [h]

/-- One more, up to the greatest word. -/

def upF (n : Int) : Int := if n = 2147483647 then n else if n < 0 then 1 else n + 1

set_option maxHeartbeats 400000 in
theorem up_any (n : Int) (w : World) (h1 : -2147483648 ≤ n) (h2 : n ≤ 2147483647) : Calls Try.prog 8 #[.int .i32 n] w fun e w' => e = .returned (.int .i32 (upF n)) ∧ w' = w := by
  by_cases he : n = 2147483647
  · subst he
    go_enter Try.func8, Try.ntmps8
    go_wp2
    go_ret
    exact ⟨rfl, rfl⟩
  · by_cases hl : n < 0
    all_goals
      have hb : (n == 2147483647) = false := by simpa using he
      go_enter Try.func8, Try.ntmps8
      go_wp2
      all_goals (go_ret; exact ⟨ret_int (by unfold upF; rw [if_neg he]; split <;> omega), rfl⟩)

theorem upF_bd (n : Int) (h1 : -2147483648 ≤ n) (h2 : n ≤ 2147483647) : 1 ≤ upF n ∧ upF n ≤ 2147483647 := by
  unfold upF; split <;> (try split) <;> omega

/-- Ticks as they count. -/

def tickF (n : Int) : Int := if n < 0 then 0 else if 2147483647 < n then 2147483647 else n

theorem tickF_bd (n : Int) : 0 ≤ tickF n ∧ tickF n ≤ 2147483647 := by unfold tickF; split <;> (try split) <;> omega

set_option maxHeartbeats 400000 in
theorem ticks_any (n : Int) (w : World) : Calls Try.prog 9 #[.int .i64 n] w fun e w' => e = .returned (.int .i32 (tickF n)) ∧ w' = w := by
  by_cases h0 : n < 0
  · go_enter Try.func9, Try.ntmps9
    go_wp2
    all_goals (go_ret; exact ⟨ret_int (by unfold tickF; split <;> (try split) <;> omega), rfl⟩)
  · by_cases h1 : 2147483647 < n
    all_goals
      go_enter Try.func9, Try.ntmps9
      go_wp2
      all_goals (go_ret; exact ⟨ret_int (by unfold tickF; split <;> (try split) <;> omega), rfl⟩)

set_option maxHeartbeats 400000 in
theorem clear_any (run left : Int) (on mem : Bool) (w : World) : Calls Try.prog 7 #[.agg #[.int .i32 run, .int .i32 left, .bool on, .bool mem]] w fun e w' => e = .returned (.agg #[.int .i32 run, .int .i32 left, .bool on, .bool false]) ∧ Below w.heap.size w w' := by
  go_enter Try.func7, Try.ntmps7
  go_wp2
  refine bodyPost_ret (v := .agg #[.int .i32 run, .int .i32 left, .bool on, .bool false]) (by simp [results, Try.results7, go_sem]) rfl ⟨rfl, ?_⟩
  exact ((Below.refl _ _).alloc (Nat.le_refl _) _).alloc (by simp) _

set_option maxHeartbeats 400000 in
theorem says_any (s : ByteArray) (latch on mem : Bool) (delay hold run left : Int) (w : World) :
    Calls Try.prog 6 #[.agg #[.string s, .bool latch, .int .i64 delay, .int .i64 hold], .agg #[.int .i32 run, .int .i32 left, .bool on, .bool mem]] w fun e w' => e = .returned (.bool (on || (latch && mem))) ∧ Below w.heap.size w w' := by
  cases on <;> cases latch
  all_goals
    go_enter Try.func6, Try.ntmps6
    go_wp2
    go_ret
    exact ⟨by first | rfl | (cases mem <;> rfl), ((Below.refl _ _).alloc (Nat.le_refl _) _).alloc (by simp) _⟩

def sRun (raw : Bool) (run : Int) : Int := if raw then upF run else 0

def sAct (raw : Bool) (run delay : Int) : Bool := decide (tickF delay < sRun raw run)

def sLeft (raw : Bool) (run delay hold left : Int) : Int := if sAct raw run delay then tickF hold else if 0 < left then left - 1 else 0

def sOn (raw : Bool) (run delay left : Int) : Bool := sAct raw run delay || decide (0 < left)

def sMem (raw latch mem : Bool) (run delay : Int) : Bool := latch && (mem || sAct raw run delay)

theorem ret_det {a b a' b' : Int} {c d c' d' : Bool} (h1 : a = a') (h2 : b = b') (h3 : c = c') (h4 : d = d') :
    Ending.returned (.agg #[.int .i32 a, .int .i32 b, .bool c, .bool d]) = .returned (.agg #[.int .i32 a', .int .i32 b', .bool c', .bool d']) := by rw [h1, h2, h3, h4]

end Go.Proofs.Ytcehnibfmhbeiaa
