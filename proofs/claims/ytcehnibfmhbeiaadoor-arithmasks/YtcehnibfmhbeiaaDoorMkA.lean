import Derived.Test.YtcehnibfmhbeiaaDoorRows
import Derived.Test.YtcehnibfmhbeiaaDoorMkM
import Derived.WalkKit
import Derived.WalkSpells
import Derived.Deep.QuietTactic
import Derived.BigQuiet
import Derived.Deep.DeepMust
namespace Go.Proofs.YtcehnibfmhbeiaaDoor
open Go.RowKit
set_option linter.unusedVariables false

set_option maxRecDepth 100000 in
set_option maxHeartbeats 1000000 in
theorem same_nil (a1 a2 : Option Addr) (c1 c2 : Nat) (w : World) :
    Calls Tryd.prog 12 #[.slice a1 0 c1, .slice a2 0 c2] w fun e w' => e = .returned (.bool true) ∧ w' = w := by
  go_enter Tryd.func12, Tryd.ntmps12
  go_wp2
  go_loop [5] (fun i => i = .int .i64 0) (fun i => 0)
  case atStart => rfl
  case round =>
    subst hrel
    go_wp2
    go_ret
    exact ⟨rfl, rfl⟩

set_option maxRecDepth 100000 in
set_option maxHeartbeats 1000000 in
theorem same_eq (b1 o1 b2 o2 n c1 c2 : Nat) (z : Nat → Int) (w : World) (hn : n ≤ 9223372036854775807)
    (h1 : ∀ i, i < n → w.cell? ⟨b1, o1 + i, none⟩ = some (.int .i64 (z i))) (h2 : ∀ i, i < n → w.cell? ⟨b2, o2 + i, none⟩ = some (.int .i64 (z i))) :
    Calls Tryd.prog 12 #[.slice (some ⟨b1, o1, none⟩) n c1, .slice (some ⟨b2, o2, none⟩) n c2] w fun e w' => e = .returned (.bool true) ∧ ∃ q, w' = w.drewN q := by
  go_enter Tryd.func12, Tryd.ntmps12
  go_wp2
  go_loopw [5] (fun i wr => ∃ k q : Nat, k ≤ n ∧ i = .int .i64 k ∧ wr = w.drewN q) (fun i wr => n - (intOf i).toNat)
  case atStart => exact ⟨0, 0, Nat.zero_le _, rfl, rfl⟩
  case round =>
    obtain ⟨k, q, hk, rfl, rfl⟩ := hrel
    by_cases hlt : k < n
    · have e1 := h1 k hlt
      have e2 := h2 k hlt
      have hk0 : (0 : Int) ≤ (k : Int) := by omega
      have hk1 : (k : Int) < (n : Int) := by omega
      go_wp2
      go_quiet (fail)
      go_wp2
      exact ⟨⟨k + 1, q + nq, by omega, by go_num, rfl⟩, by simp [intOf]; omega⟩
    · have hk1 : ¬ (k : Int) < (n : Int) := by omega
      go_wp2
      go_ret
      exact ⟨rfl, q, rfl⟩

def mkV (z : Nat → Int) (n : Nat) : Int := ((maskOf z n).getD 0 : Nat)
def mkE (z : Nat → Int) (n : Nat) : Int := if (maskOf z n).isSome then 0 else 12
theorem ret_mk {a a' b b' : Int} (h1 : a' = a) (h2 : b' = b) : Ending.returned (.tuple #[.int .u64 a, .int .i64 b]) = .returned (.tuple #[.int .u64 a', .int .i64 b']) := by rw [h1, h2]
theorem ret_none {z : Nat → Int} {n : Nat} (h : maskOf z n = none) : Ending.returned (.tuple #[.int .u64 0, .int .i64 12]) = .returned (.tuple #[.int .u64 (mkV z n), .int .i64 (mkE z n)]) :=
  ret_mk (by unfold mkV; rw [h]; rfl) (by unfold mkE; rw [h]; rfl)

set_option maxRecDepth 100000 in
set_option maxHeartbeats 1000000 in
theorem mask_nil (a : Option Addr) (cap : Nat) (z : Nat → Int) (w : World) :
    Calls Tryd.prog 10 #[.slice a 0 cap] w fun e w' => e = .returned (.tuple #[.int .u64 (mkV z 0), .int .i64 (mkE z 0)]) ∧ w' = w := by
  go_enter Tryd.func10, Tryd.ntmps10
  go_wp2
  go_loop [4, 10] (fun m i => i = .int .i64 0 ∧ m = .int .u64 0) (fun _ i => 0)
  case atStart => exact ⟨rfl, rfl⟩
  case round =>
    obtain ⟨rfl, rfl⟩ := hrel
    go_wp2
    go_ret2
    exact ⟨rfl, rfl⟩

set_option maxRecDepth 100000 in
set_option maxHeartbeats 1000000 in
theorem mask_eq (b o n cap : Nat) (z : Nat → Int) (w : World) (hn : n ≤ 9223372036854775807)
    (h1 : ∀ i, i < n → w.cell? ⟨b, o + i, none⟩ = some (.int .i64 (z i))) :
    Calls Tryd.prog 10 #[.slice (some ⟨b, o, none⟩) n cap] w fun e w' => e = .returned (.tuple #[.int .u64 (mkV z n), .int .i64 (mkE z n)]) ∧ w' = w := by
  have h1' : Hid (∀ i, i < n → w.cell? ⟨b, o + i, none⟩ = some (.int .i64 (z i))) := h1
  clear h1
  go_enter Tryd.func10, Tryd.ntmps10
  go_wp2
  go_loop [4, 10] (fun m i => ∃ (k M : Nat), k ≤ n ∧ i = .int .i64 k ∧ m = .int .u64 M ∧ maskOf z k = some M) (fun _ i => n - (intOf i).toNat)
  case atStart => exact ⟨0, 0, Nat.zero_le _, rfl, rfl, rfl⟩
  case round =>
    obtain ⟨k, M, hk, rfl, rfl, hM⟩ := hrel
    have hMl := maskOf_lt z k M hM
    have hM' : Hid (maskOf z k = some M) := hM
    clear hM
    by_cases hlt : k < n
    · have e1 := h1'.out k hlt
      have hk0 : (0 : Int) ≤ (k : Int) := by omega
      have hk1 : (k : Int) < (n : Int) := by omega
      by_cases hx0 : z k < 0
      · have hbad : Hid (maskOf z n = none) := maskOf_none z (k + 1) (maskOf_out z k M hM'.out (.inl hx0)) n hlt
        go_wp2
        go_ret2
        exact ⟨ret_none hbad.out, rfl⟩
      · by_cases hx1 : 63 < z k
        · have hbad : Hid (maskOf z n = none) := maskOf_none z (k + 1) (maskOf_out z k M hM'.out (.inr hx1)) n hlt
          go_wp2
          go_ret2
          exact ⟨ret_none hbad.out, rfl⟩
        · obtain ⟨j, hj⟩ : ∃ j : Nat, z k = j := ⟨(z k).toNat, by omega⟩
          have hjl : j < 64 := by omega
          have hw := wrap_pow j hjl
          have hp := pow_lt64 j hjl
          have ha := bits_and_u64_nat M (2 ^ j) hMl hp
          have ho := bits_or_u64_nat M (2 ^ j) hMl hp
          have hz : Hid (M &&& 2 ^ j = 0 ↔ M.testBit j = false) := and_pow M j
          have hin : Hid (M.testBit j = false → maskOf z (k + 1) = some (M ||| 2 ^ j)) := fun h => by
            have := maskOf_in z k M hM'.out (by omega) (by rw [hj]; simpa using h)
            rw [hj] at this; simpa using this
          have hout : Hid (M.testBit j = true → maskOf z (k + 1) = none) := fun h => maskOf_twice z k M hM'.out (by rw [hj]; simpa using h)
          rw [hj] at e1
          clear hj hx0 hx1
          generalize hP : 2 ^ j = P at hw ha ho hz hin hp
          generalize hA : M &&& P = A at ha hz
          generalize hO : M ||| P = O at ho hin
          by_cases hA0 : A = 0
          · have hb : ((A : Int) != 0) = false := by simp [hA0]
            have hst : Hid (maskOf z (k + 1) = some O) := hin.out (hz.out.1 hA0)
            clear hA0 hA hO hP
            go_wp2
            go_round
            case rel => exact ⟨k + 1, O, by omega, by go_num, rfl, hst.out⟩
            case measure => simp [intOf]; omega
          · have hb : ((A : Int) != 0) = true := by simp [hA0]
            have hbad : Hid (maskOf z n = none) := maskOf_none z (k + 1) (hout.out (by cases h : M.testBit j; exact absurd (hz.out.2 h) hA0; rfl)) n hlt
            clear hA0 hA hO hP
            go_wp2
            go_ret2
            exact ⟨ret_none hbad.out, rfl⟩
    · obtain rfl : k = n := by omega
      go_wp2
      go_ret2
      exact ⟨ret_mk (by unfold mkV; rw [hM'.out]; rfl) (by unfold mkE; rw [hM'.out]; rfl), rfl⟩
end Go.Proofs.YtcehnibfmhbeiaaDoor
