import Derived.Test.YtcehnibfmhbeiaaDoorOpsA
namespace Go.Proofs.YtcehnibfmhbeiaaDoor
open Go.RowKit

set_option maxHeartbeats 400000 in
theorem refTruth_any (b : Bool) (w : World) : Calls Tryd.prog 42 #[.bool b] w fun e w' => e = .returned (.int .i32 (tr b)) ∧ w' = w := by
  cases b
  all_goals
    go_enter Tryd.func42, Tryd.ntmps42
    go_wp2
    go_ret
    exact ⟨rfl, rfl⟩

/-- A whole number without its sign. -/
def sz (x : Int) : Int := if x < 0 then -x else x

set_option maxHeartbeats 400000 in
theorem refSize_any (x : Int) (w : World) (h1 : -9223372036854775807 ≤ x) (h2 : x ≤ 9223372036854775807) : Calls Tryd.prog 45 #[.int .i64 x] w fun e w' => e = .returned (.int .i64 (sz x)) ∧ w' = w := by
  by_cases h : x < 0
  all_goals
    go_enter Tryd.func45, Tryd.ntmps45
    go_wp2
    go_ret
    exact ⟨ret_int (by unfold sz; split <;> omega), rfl⟩

theorem rem_wrap (x : Int) (h : 0 ≤ x.tmod 4294967296) : wrap32 x = if x.tmod 4294967296 < 2147483648 then x.tmod 4294967296 else x.tmod 4294967296 - 4294967296 := by
  unfold wrap32
  have := Int.tmod_add_mul_tdiv x 4294967296
  have h2 := Int.tmod_lt_of_pos x (show (0 : Int) < 4294967296 by decide)
  split <;> omega
theorem rem_wrap_neg (x : Int) (h : x.tmod 4294967296 < 0) : wrap32 x = if x.tmod 4294967296 + 4294967296 < 2147483648 then x.tmod 4294967296 + 4294967296 else x.tmod 4294967296 := by
  unfold wrap32
  have := Int.tmod_add_mul_tdiv x 4294967296
  have h2 := Int.natAbs_tmod x 4294967296
  have h3 : x.natAbs % (4294967296 : Int).natAbs < (4294967296 : Int).natAbs := Nat.mod_lt _ (by decide)
  split <;> omega
theorem tmod_small (x : Int) : -4294967296 < x.tmod 4294967296 ∧ x.tmod 4294967296 < 4294967296 := by
  have h2 := Int.natAbs_tmod x 4294967296
  have h3 : x.natAbs % (4294967296 : Int).natAbs < (4294967296 : Int).natAbs := Nat.mod_lt _ (by decide)
  omega

set_option maxHeartbeats 400000 in
theorem refWrap_any (x : Int) (w : World) : Calls Tryd.prog 44 #[.int .i64 x] w fun e w' => e = .returned (.int .i32 (wrap32 x)) ∧ w' = w := by
  have hs := tmod_small x
  have hp := rem_wrap x
  have hn := rem_wrap_neg x
  generalize hr : x.tmod 4294967296 = r at hs hp hn
  generalize wrap32 x = y at hp hn
  obtain ⟨hs1, hs2⟩ := hs
  by_cases h0 : r < 0
  · have hn' : Hid (y = if r + 4294967296 < 2147483648 then r + 4294967296 else r) := hn h0
    clear hp hn
    by_cases h1 : r + 4294967296 < 2147483648
    all_goals
      go_enter Tryd.func44, Tryd.ntmps44
      go_wp2
      go_ret
      exact ⟨ret_int (by rw [hn'.out]; split <;> (try unfold wrap32) <;> omega), rfl⟩
  · have hp' : Hid (y = if r < 2147483648 then r else r - 4294967296) := hp (by omega)
    clear hp hn
    by_cases h1 : r < 2147483648
    all_goals
      go_enter Tryd.func44, Tryd.ntmps44
      go_wp2
      go_ret
      exact ⟨ret_int (by rw [hp'.out]; split <;> (try unfold wrap32) <;> omega), rfl⟩
end Go.Proofs.YtcehnibfmhbeiaaDoor
