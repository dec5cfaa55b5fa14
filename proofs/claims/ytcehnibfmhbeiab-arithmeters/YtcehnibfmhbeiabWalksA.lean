import Derived.Test.YtcehnibfmhbeiabRows
import Derived.WalkKit
import Derived.WalkSpells
import Derived.Deep.RegionHeld3
import Derived.Deep.DeepMust
namespace Go.Proofs.Ytcehnibfmhbeiab
open Go.RowKit

theorem ret_int {k : IntKind} {a b : Int} (h : a = b) : Ending.returned (.int k a) = .returned (.int k b) := by rw [h]

/-- One more, up to the greatest word. -/
def upF (n : Int) : Int := if n = 2147483647 then n else if n < 0 then 1 else n + 1

set_option maxHeartbeats 400000 in
theorem up_any (n : Int) (w : World) (h1 : -2147483648 ≤ n) (h2 : n ≤ 2147483647) : Calls Try.prog 4 #[.int .i32 n] w fun e w' => e = .returned (.int .i32 (upF n)) ∧ w' = w := by
  by_cases he : n = 2147483647
  · subst he
    go_enter Try.func4, Try.ntmps4
    go_wp2
    go_ret
    exact ⟨rfl, rfl⟩
  · by_cases hl : n < 0
    all_goals
      have hb : (n == 2147483647) = false := by simpa using he
      go_enter Try.func4, Try.ntmps4
      go_wp2
      all_goals (go_ret; exact ⟨ret_int (by unfold upF; rw [if_neg he]; split <;> omega), rfl⟩)

set_option maxHeartbeats 400000 in
theorem refUp_any (n : Int) (w : World) (h1 : -2147483648 ≤ n) (h2 : n ≤ 2147483647) : Calls Try.prog 5 #[.int .i32 n] w fun e w' => e = .returned (.int .i32 (upF n)) ∧ w' = w := by
  by_cases he : n = 2147483647
  · subst he
    go_enter Try.func5, Try.ntmps5
    go_wp2
    go_ret
    exact ⟨rfl, rfl⟩
  · by_cases hl : n < 0
    all_goals
      have hb : (n == 2147483647) = false := by simpa using he
      go_enter Try.func5, Try.ntmps5
      go_wp2
      all_goals (go_ret; exact ⟨ret_int (by unfold upF; rw [if_neg he]; split <;> omega), rfl⟩)

theorem upF_bd (n : Int) (h1 : -2147483648 ≤ n) (h2 : n ≤ 2147483647) : 1 ≤ upF n ∧ upF n ≤ 2147483647 := by
  unfold upF; split <;> (try split) <;> omega

/-- Ticks as they count. -/
def tickF (n : Int) : Int := if n < 0 then 0 else if 2147483647 < n then 2147483647 else n
theorem tickF_bd (n : Int) : 0 ≤ tickF n ∧ tickF n ≤ 2147483647 := by unfold tickF; split <;> (try split) <;> omega

set_option maxHeartbeats 400000 in
theorem ticks_any (n : Int) (w : World) : Calls Try.prog 14 #[.int .i64 n] w fun e w' => e = .returned (.int .i32 (tickF n)) ∧ w' = w := by
  by_cases h0 : n < 0
  · go_enter Try.func14, Try.ntmps14
    go_wp2
    all_goals (go_ret; exact ⟨ret_int (by unfold tickF; split <;> (try split) <;> omega), rfl⟩)
  · by_cases h1 : 2147483647 < n
    all_goals
      go_enter Try.func14, Try.ntmps14
      go_wp2
      all_goals (go_ret; exact ⟨ret_int (by unfold tickF; split <;> (try split) <;> omega), rfl⟩)

set_option maxHeartbeats 400000 in
theorem within_any (n : Int) (w : World) : Calls Try.prog 15 #[.int .i64 n] w fun e w' => e = .returned (.int .i32 (tickF n)) ∧ w' = w := by
  by_cases h0 : n < 0
  · go_enter Try.func15, Try.ntmps15
    go_wp2
    all_goals (go_ret; exact ⟨ret_int (by unfold tickF; split <;> (try split) <;> omega), rfl⟩)
  · by_cases h1 : 2147483647 < n
    all_goals
      go_enter Try.func15, Try.ntmps15
      go_wp2
      all_goals (go_ret; exact ⟨ret_int (by unfold tickF; split <;> (try split) <;> omega), rfl⟩)
end Go.Proofs.Ytcehnibfmhbeiab
