import Derived.Test.YtcehnibfmhbeiaaHas
namespace Go.Proofs.Ytcehnibfmhbeiaa
open Go.RowKit
set_option linter.unusedVariables false

theorem up_small (x : Nat) (h : x < 2147483647) : upF (x : Int) = ((x + 1 : Nat) : Int) := by
  unfold upF; rw [if_neg (by omega), if_neg (by omega)]; push_cast; rfl
theorem tick_lt (D x : Nat) (h : x < 2147483647) : (tickF (D : Int) < (x : Int)) ↔ ((D : Int) < (x : Int)) := by
  unfold tickF; rw [if_neg (by omega)]; split <;> omega
theorem srun_eq (B : Nat → Bool) (k : Nat) (h : k < 2147483646) : sRun (B k) (rl B k : Nat) = ((rl B (k + 1) : Nat) : Int) := by
  have := rl_le B k
  unfold sRun
  simp only [rl]
  cases hb : B k
  · simp
  · simp only [if_true]; exact up_small _ (by omega)
theorem sact_eq (B : Nat → Bool) (D k : Nat) (h : k < 2147483646) : sAct (B k) (rl B k : Nat) D = act B D k := by
  have := rl_le B (k + 1)
  unfold sAct act
  rw [srun_eq B k h, decide_eq_decide]
  exact tick_lt D _ (by omega)
/-- What the state becomes in tick k. -/
theorem sense_at (B : Nat → Bool) (D Hd k : Nat) (L : Int) (s : ByteArray) (latch on kp : Bool) (w : World) (hk : k < 2147483646) (hL : L ≤ 2147483647) :
    Calls Try.prog 4 #[.agg #[.string s, .bool latch, .int .i64 D, .int .i64 Hd], .agg #[.int .i32 (rl B k : Nat), .int .i32 L, .bool on, .bool kp], .bool (B k)] w
      fun e w' => e = .returned (.agg #[.int .i32 ((rl B (k + 1) : Nat) : Int), .int .i32 (if act B D k then tickF Hd else if 0 < L then L - 1 else 0), .bool (act B D k || decide (0 < L)), .bool (latch && (kp || act B D k))]) ∧ Below w.heap.size w w' := by
  have hr := rl_le B k
  have h := sense_any s latch on kp (B k) D Hd (rl B k : Nat) L w (by omega) (by omega) hL
  rw [srun_eq B k hk] at h
  unfold sLeft sOn sMem at h
  rw [sact_eq B D k hk] at h
  exact h
end Go.Proofs.Ytcehnibfmhbeiaa
