import Derived.Test.YtbgfeogigjjmdaaHzC
namespace Go.Proofs.Ytbgfeogigjjmdaa
open Go.RowKit
set_option linter.unusedVariables false

/-- The reference's digit: what a sign is worth, or -1. -/
def dr (c : Nat) : Int := if dg c ≤ 15 then ((dg c : Nat) : Int) else -1
set_option maxRecDepth 100000 in
set_option maxHeartbeats 1000000 in
theorem refDigit_any (c : Nat) (w : World) (hc : c < 256) : Calls Try.prog 38 #[.int .u8 (c : Int)] w fun e w' => e = .returned (.int .i64 (dr c)) ∧ w = w' := by
  have cs : (c < 48) ∨ (48 ≤ c ∧ c ≤ 57) ∨ (57 < c ∧ c < 65) ∨ (65 ≤ c ∧ c ≤ 70) ∨ (70 < c ∧ c < 97) ∨ (97 ≤ c ∧ c ≤ 102) ∨ (102 < c) := by omega
  rcases cs with h | h | h | h | h | h | h
  · have e : dr c = -1 := by
      unfold dr dg
      (repeat' split) <;> omega
    have h1 : ¬ (48 : Int) ≤ (c : Int) := by omega
    have h2 : ¬ (65 : Int) ≤ (c : Int) := by omega
    have h3 : ¬ (97 : Int) ≤ (c : Int) := by omega
    rw [e]; clear e h
    go_enter Try.func38, Try.ntmps38
    go_wp2
    go_ret
    exact ⟨rfl, rfl⟩
  · have e : dr c = (c : Int) - 48 := by
      unfold dr dg
      (repeat' split) <;> omega
    have h1 : (48 : Int) ≤ (c : Int) := by omega
    have h2 : (c : Int) ≤ 57 := by omega
    rw [e]; clear e h
    go_enter Try.func38, Try.ntmps38
    go_wp2
    go_ret
    exact ⟨ret_int (by go_num), rfl⟩
  · have e : dr c = -1 := by
      unfold dr dg
      (repeat' split) <;> omega
    have h1 : (48 : Int) ≤ (c : Int) := by omega
    have h2 : ¬ (c : Int) ≤ 57 := by omega
    have h3 : ¬ (65 : Int) ≤ (c : Int) := by omega
    have h4 : ¬ (97 : Int) ≤ (c : Int) := by omega
    rw [e]; clear e h
    go_enter Try.func38, Try.ntmps38
    go_wp2
    go_ret
    exact ⟨rfl, rfl⟩
  · have e : dr c = (c : Int) - 65 + 10 := by
      unfold dr dg
      (repeat' split) <;> omega
    have h1 : (48 : Int) ≤ (c : Int) := by omega
    have h2 : ¬ (c : Int) ≤ 57 := by omega
    have h3 : (65 : Int) ≤ (c : Int) := by omega
    have h4 : (c : Int) ≤ 70 := by omega
    rw [e]; clear e h
    go_enter Try.func38, Try.ntmps38
    go_wp2
    go_ret
    exact ⟨ret_int (by go_num), rfl⟩
  · have e : dr c = -1 := by
      unfold dr dg
      (repeat' split) <;> omega
    have h1 : (48 : Int) ≤ (c : Int) := by omega
    have h2 : ¬ (c : Int) ≤ 57 := by omega
    have h3 : (65 : Int) ≤ (c : Int) := by omega
    have h4 : ¬ (c : Int) ≤ 70 := by omega
    have h5 : ¬ (97 : Int) ≤ (c : Int) := by omega
    rw [e]; clear e h
    go_enter Try.func38, Try.ntmps38
    go_wp2
    go_ret
    exact ⟨rfl, rfl⟩
  · have e : dr c = (c : Int) - 97 + 10 := by
      unfold dr dg
      (repeat' split) <;> omega
    have h1 : (48 : Int) ≤ (c : Int) := by omega
    have h2 : ¬ (c : Int) ≤ 57 := by omega
    have h3 : (65 : Int) ≤ (c : Int) := by omega
    have h4 : ¬ (c : Int) ≤ 70 := by omega
    have h5 : (97 : Int) ≤ (c : Int) := by omega
    have h6 : (c : Int) ≤ 102 := by omega
    rw [e]; clear e h
    go_enter Try.func38, Try.ntmps38
    go_wp2
    go_ret
    exact ⟨ret_int (by go_num), rfl⟩
  · have e : dr c = -1 := by
      unfold dr dg
      (repeat' split) <;> omega
    have h1 : (48 : Int) ≤ (c : Int) := by omega
    have h2 : ¬ (c : Int) ≤ 57 := by omega
    have h3 : (65 : Int) ≤ (c : Int) := by omega
    have h4 : ¬ (c : Int) ≤ 70 := by omega
    have h5 : (97 : Int) ≤ (c : Int) := by omega
    have h6 : ¬ (c : Int) ≤ 102 := by omega
    rw [e]; clear e h
    go_enter Try.func38, Try.ntmps38
    go_wp2
    go_ret
    exact ⟨rfl, rfl⟩
end Go.Proofs.Ytbgfeogigjjmdaa
