import Derived.Test.YtcajejfddfiidaaDoorDrA
import Derived.Test.YtcajejfddfiidaaDoorDrW
namespace Go.Proofs.YtcajejfddfiidaaDoor
open Go.RowKit
set_option linter.unusedVariables false
set_option linter.unusedSimpArgs false


/-- The worth of a hexadecimal digit, or -1. -/
def hxV (c : Int) : Int := if 48 ≤ c ∧ c ≤ 57 then c - 48 else if 97 ≤ c ∧ c ≤ 102 then c - 97 + 10 else if 65 ≤ c ∧ c ≤ 70 then c - 65 + 10 else -1
theorem hxV_top (c : Int) : hxV c ≤ 15 ∧ -1 ≤ hxV c := by unfold hxV; split <;> (try split) <;> (try split) <;> omega
def blB (c : Int) : Bool := decide (c = 32 ∨ c = 9 ∨ c = 10 ∨ c = 13)
theorem w8 (z : Int) (h : 0 ≤ z ∧ z ≤ 255) : IntKind.u8.wrap z = z := by
  simp [IntKind.wrap, IntKind.bits, IntKind.signed]
  omega
set_option maxRecDepth 100000 in
set_option maxHeartbeats 2000000 in
theorem hexed_any (c : Int) (w : World) (hc : 0 ≤ c ∧ c ≤ 255) : Calls Tryd.prog 36 #[.int .u8 c] w fun e w' => e = .returned (.int .i64 (hxV c)) ∧ w' = w := by
  by_cases a1 : 48 ≤ c
  · by_cases a2 : c ≤ 57
    · have q1 : IntKind.u8.wrap (c - 48) = c - 48 := w8 _ (by omega)
      have q2 : IntKind.i64.wrap (c - 48) = c - 48 := wrap64 _ (by omega)
      have e : Hid (hxV c = c - 48) := by show _ = _; unfold hxV; rw [if_pos ⟨a1, a2⟩]
      go_enter Tryd.func36, Tryd.ntmps36
      go_wp2_with fail
      go_ret
      exact ⟨by rw [e.out]; rfl, rfl⟩
    · by_cases a3 : 97 ≤ c
      · have a4 : ¬ (c ≤ 70) := by omega
        have a5 : 65 ≤ c := by omega
        by_cases a6 : c ≤ 102
        · have q1 : IntKind.u8.wrap (c - 97) = c - 97 := w8 _ (by omega)
          have q2 : IntKind.i64.wrap (c - 97) = c - 97 := wrap64 _ (by omega)
          have q3 : IntKind.i64.wrap (c - 97 + 10) = c - 97 + 10 := wrap64 _ (by omega)
          have e : Hid (hxV c = c - 97 + 10) := by show _ = _; unfold hxV; rw [if_neg (by omega), if_pos ⟨a3, a6⟩]
          go_enter Tryd.func36, Tryd.ntmps36
          go_wp2_with fail
          go_ret
          exact ⟨by rw [e.out]; rfl, rfl⟩
        · have e : Hid (hxV c = -1) := by show _ = _; unfold hxV; rw [if_neg (by omega), if_neg (by omega), if_neg (by omega)]
          go_enter Tryd.func36, Tryd.ntmps36
          go_wp2_with fail
          go_ret
          exact ⟨by rw [e.out]; rfl, rfl⟩
      · by_cases a5 : 65 ≤ c
        · by_cases a6 : c ≤ 70
          · have q1 : IntKind.u8.wrap (c - 65) = c - 65 := w8 _ (by omega)
            have q2 : IntKind.i64.wrap (c - 65) = c - 65 := wrap64 _ (by omega)
            have q3 : IntKind.i64.wrap (c - 65 + 10) = c - 65 + 10 := wrap64 _ (by omega)
            have e : Hid (hxV c = c - 65 + 10) := by show _ = _; unfold hxV; rw [if_neg (by omega), if_neg (by omega), if_pos ⟨a5, a6⟩]
            go_enter Tryd.func36, Tryd.ntmps36
            go_wp2_with fail
            go_ret
            exact ⟨by rw [e.out]; rfl, rfl⟩
          · have e : Hid (hxV c = -1) := by show _ = _; unfold hxV; rw [if_neg (by omega), if_neg (by omega), if_neg (by omega)]
            go_enter Tryd.func36, Tryd.ntmps36
            go_wp2_with fail
            go_ret
            exact ⟨by rw [e.out]; rfl, rfl⟩
        · have e : Hid (hxV c = -1) := by show _ = _; unfold hxV; rw [if_neg (by omega), if_neg (by omega), if_neg (by omega)]
          go_enter Tryd.func36, Tryd.ntmps36
          go_wp2_with fail
          go_ret
          exact ⟨by rw [e.out]; rfl, rfl⟩
  · have a3 : ¬ 97 ≤ c := by omega
    have a5 : ¬ 65 ≤ c := by omega
    have e : Hid (hxV c = -1) := by show _ = _; unfold hxV; rw [if_neg (by omega), if_neg (by omega), if_neg (by omega)]
    go_enter Tryd.func36, Tryd.ntmps36
    go_wp2_with fail
    go_ret
    exact ⟨by rw [e.out]; rfl, rfl⟩
set_option maxRecDepth 100000 in
set_option maxHeartbeats 2000000 in
theorem blank_any (c : Int) (w : World) : Calls Tryd.prog 18 #[.int .u8 c] w fun e w' => e = .returned (.bool (blB c)) ∧ w' = w := by
  by_cases a1 : c = 32
  · subst a1
    go_enter Tryd.func18, Tryd.ntmps18
    go_wp2_with fail
    go_ret
    exact ⟨rfl, rfl⟩
  by_cases a2 : c = 9
  · subst a2
    go_enter Tryd.func18, Tryd.ntmps18
    go_wp2_with fail
    go_ret
    exact ⟨rfl, rfl⟩
  by_cases a3 : c = 10
  · subst a3
    go_enter Tryd.func18, Tryd.ntmps18
    go_wp2_with fail
    go_ret
    exact ⟨rfl, rfl⟩
  by_cases a4 : c = 13
  · subst a4
    go_enter Tryd.func18, Tryd.ntmps18
    go_wp2_with fail
    go_ret
    exact ⟨rfl, rfl⟩
  have e : Hid (blB c = false) := by show _ = _; unfold blB; exact decide_eq_false (by omega)
  have b1 : (c == 32) = false := by simpa using a1
  have b2 : (c == 9) = false := by simpa using a2
  have b3 : (c == 10) = false := by simpa using a3
  have b4 : (c == 13) = false := by simpa using a4
  go_enter Tryd.func18, Tryd.ntmps18
  go_wp2_with fail
  go_ret
  exact ⟨by rw [e.out]; rfl, rfl⟩
end Go.Proofs.YtcajejfddfiidaaDoor
