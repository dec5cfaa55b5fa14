import Derived.Test.YtjohnhaahpggkabDoorNumC
namespace Go.Proofs.YtjohnhaahpggkabDoor
open Go.RowKit
set_option linter.unusedVariables false

/-- What a reader of digits tells: beside a true the value, or the bound M where it is greater. -/
def DigRes (O : Bool) (V M v : Nat) : Prop := (O = true → v = min V M) ∧ v ≤ M
theorem DigRes.no {O : Bool} {V M v : Nat} (h : O = false) (hv : v ≤ M) : DigRes O V M v := ⟨fun h' => (by rw [h] at h'; cases h'), hv⟩
theorem DigRes.yes {O : Bool} {V M v : Nat} (h : v = min V M) (hv : v ≤ M) : DigRes O V M v := ⟨fun _ => h, hv⟩
theorem ret_vb {x : Value} {a b : Bool} (h : a = b) : Ending.returned (.tuple #[x, .bool a]) = .returned (.tuple #[x, .bool b]) := by rw [h]

set_option maxRecDepth 100000 in
set_option maxHeartbeats 2000000 in
theorem digitsValue10 (s : ByteArray) (w : World) (hs : s.size < 4611686018427387904) :
    Calls Tryd.prog 68 #[.string s, .int .i64 10] w fun e w' => (∃ v : Nat, e = .returned (.tuple #[.int .i64 v, .bool (okD 10 true true s.data.toList)]) ∧ DigRes (okD 10 true true s.data.toList) (valD 10 0 s.data.toList) 2147483648 v) ∧ w' = w := by
  have hO : Hid (okD 10 true (decide ((95 : UInt8).toNat = 95)) (s.data.toList.drop 0) = okD 10 true true s.data.toList) := rfl
  have hV : Hid (valD 10 0 (s.data.toList.drop 0) = valD 10 0 s.data.toList) := rfl
  generalize okD 10 true true s.data.toList = O at hO ⊢
  generalize valD 10 0 s.data.toList = V at hV ⊢
  go_enter Tryd.func68, Tryd.ntmps68
  go_wp2
  go_loop [6, 7, 13] (fun tv tp ti => ∃ (k a m : Nat) (c : UInt8), k ≤ s.size ∧ ti = .int .i64 k ∧ tp = .int .u8 (c.toNat : Int) ∧ tv = .int .i64 (m : Int) ∧ m = min a 2147483648 ∧ okD 10 true (decide (c.toNat = 95)) (s.data.toList.drop k) = O ∧ valD 10 a (s.data.toList.drop k) = V) (fun _ _ ti => s.size - (intOf ti).toNat)
  case atStart => exact ⟨0, 0, 0, 95, Nat.zero_le _, rfl, rfl, rfl, by simp, hO.out, hV.out⟩
  case round =>
    obtain ⟨k, a, m, c, hk, rfl, rfl, rfl, hm, ho, hv⟩ := hrel
    have HM : Hid (m = min a 2147483648) := hm
    have hm2 : m ≤ 2147483648 := by omega
    clear hm
    by_cases hlt : k < s.size
    · rw [drop_get s k hlt, okD] at ho
      rw [drop_get s k hlt, valD] at hv
      have hI := fun w => digitValue_any s[k] w
      have hdl := dv_le s[k]
      by_cases hx : s[k].toNat = 95
      · rw [if_pos hx] at ho hv
        have hx' : (s[k].toNat : Int) = 95 := by omega
        by_cases hp : c.toNat = 95
        · have hp' : (c.toNat : Int) = 95 := by omega
          have hOf : O = false := by rw [← ho]; simp [hp]
          have HOf : Hid (O = false) := hOf
          clear hOf
          clear ho hv hI hp hx
          go_wp2
          go_ret2
          exact ⟨⟨0, ret_vb HOf.out.symm, DigRes.no HOf.out (by omega)⟩, rfl⟩
        · have hp' : ¬ (c.toNat : Int) = 95 := by omega
          have HO : Hid (okD 10 true (decide (s[k].toNat = 95)) (s.data.toList.drop (k + 1)) = O) := by
            show _ = _
            rw [← ho]; simp [hp, hx]
          have HV : Hid (valD 10 a (s.data.toList.drop (k + 1)) = V) := hv
          clear ho hv hI hp hx
          go_wp2
          go_round
          case rel => exact ⟨k + 1, a, m, s[k], by omega, by go_num, by rw [hx'], rfl, HM.out, HO.out, HV.out⟩
          case measure => simp [intOf]; omega
      · rw [if_neg hx] at ho hv
        have hx' : ¬ (s[k].toNat : Int) = 95 := by omega
        by_cases hd : dv s[k] < 10
        · have HO : Hid (okD 10 true (decide (s[k].toNat = 95)) (s.data.toList.drop (k + 1)) = O) := by
            show _ = _
            rw [if_pos hd] at ho
            rw [← ho]; simp [hx]
          have HV : Hid (valD 10 (a * 10 + dv s[k]) (s.data.toList.drop (k + 1)) = V) := hv
          have hd' : (dv s[k] : Int) < 10 := by omega
          clear ho hv hx
          generalize dv s[k] = d at *
          by_cases hbig : (m : Int) * 10 + (d : Int) ≤ 2147483648
          · go_wp2_with (go_at_call 73; with_reducible refine (hI _).mono ?_; rintro e w' ⟨rfl, hwe⟩; subst hwe)
            go_round
            case rel => exact ⟨k + 1, a * 10 + d, m * 10 + d, s[k], by omega, by go_num, rfl, by go_num, by have := HM.out; omega, HO.out, HV.out⟩
            case measure => simp [intOf]; omega
          · go_wp2_with (go_at_call 73; with_reducible refine (hI _).mono ?_; rintro e w' ⟨rfl, hwe⟩; subst hwe)
            go_round
            case rel => exact ⟨k + 1, a * 10 + d, 2147483648, s[k], by omega, by go_num, rfl, by go_num, by have := HM.out; omega, HO.out, HV.out⟩
            case measure => simp [intOf]; omega
        · have hOf : O = false := by rw [← ho, if_neg hd]
          have HOf : Hid (O = false) := hOf
          clear hOf
          have hd' : (10 : Int) ≤ (dv s[k] : Int) := by omega
          clear ho hv hx hd
          go_wp2_with (go_at_call 73; with_reducible refine (hI _).mono ?_; rintro e w' ⟨rfl, hwe⟩; subst hwe)
          go_ret2
          exact ⟨⟨0, ret_vb HOf.out.symm, DigRes.no HOf.out (by omega)⟩, rfl⟩
    · rw [drop_end s k (by omega), okD] at ho
      rw [drop_end s k (by omega), valD] at hv
      subst hv
      by_cases hp : c.toNat = 95
      · have hp' : (c.toNat : Int) = 95 := by omega
        have hOf : O = false := by rw [← ho]; simp [hp]
        have HOf : Hid (O = false) := hOf
        clear hOf
        clear ho hp
        go_wp2
        go_ret2
        exact ⟨⟨m, ret_vb (by rw [HOf.out]), DigRes.no HOf.out (by omega)⟩, rfl⟩
      · have hp' : ¬ (c.toNat : Int) = 95 := by omega
        have hOf : O = true := by rw [← ho]; simp [hp]
        have HOf : Hid (O = true) := hOf
        clear hOf
        clear ho hp
        go_wp2
        go_ret2
        exact ⟨⟨m, ret_vb (by rw [HOf.out]; simp [hp']), DigRes.yes HM.out (by omega)⟩, rfl⟩

set_option maxRecDepth 100000 in
set_option maxHeartbeats 2000000 in
theorem digitsValue16 (s : ByteArray) (w : World) (hs : s.size < 4611686018427387904) :
    Calls Tryd.prog 68 #[.string s, .int .i64 16] w fun e w' => (∃ v : Nat, e = .returned (.tuple #[.int .i64 v, .bool (okD 16 true true s.data.toList)]) ∧ DigRes (okD 16 true true s.data.toList) (valD 16 0 s.data.toList) 2147483648 v) ∧ w' = w := by
  have hO : Hid (okD 16 true (decide ((95 : UInt8).toNat = 95)) (s.data.toList.drop 0) = okD 16 true true s.data.toList) := rfl
  have hV : Hid (valD 16 0 (s.data.toList.drop 0) = valD 16 0 s.data.toList) := rfl
  generalize okD 16 true true s.data.toList = O at hO ⊢
  generalize valD 16 0 s.data.toList = V at hV ⊢
  go_enter Tryd.func68, Tryd.ntmps68
  go_wp2
  go_loop [6, 7, 13] (fun tv tp ti => ∃ (k a m : Nat) (c : UInt8), k ≤ s.size ∧ ti = .int .i64 k ∧ tp = .int .u8 (c.toNat : Int) ∧ tv = .int .i64 (m : Int) ∧ m = min a 2147483648 ∧ okD 16 true (decide (c.toNat = 95)) (s.data.toList.drop k) = O ∧ valD 16 a (s.data.toList.drop k) = V) (fun _ _ ti => s.size - (intOf ti).toNat)
  case atStart => exact ⟨0, 0, 0, 95, Nat.zero_le _, rfl, rfl, rfl, by simp, hO.out, hV.out⟩
  case round =>
    obtain ⟨k, a, m, c, hk, rfl, rfl, rfl, hm, ho, hv⟩ := hrel
    have HM : Hid (m = min a 2147483648) := hm
    have hm2 : m ≤ 2147483648 := by omega
    clear hm
    by_cases hlt : k < s.size
    · rw [drop_get s k hlt, okD] at ho
      rw [drop_get s k hlt, valD] at hv
      have hI := fun w => digitValue_any s[k] w
      have hdl := dv_le s[k]
      by_cases hx : s[k].toNat = 95
      · rw [if_pos hx] at ho hv
        have hx' : (s[k].toNat : Int) = 95 := by omega
        by_cases hp : c.toNat = 95
        · have hp' : (c.toNat : Int) = 95 := by omega
          have hOf : O = false := by rw [← ho]; simp [hp]
          have HOf : Hid (O = false) := hOf
          clear hOf
          clear ho hv hI hp hx
          go_wp2
          go_ret2
          exact ⟨⟨0, ret_vb HOf.out.symm, DigRes.no HOf.out (by omega)⟩, rfl⟩
        · have hp' : ¬ (c.toNat : Int) = 95 := by omega
          have HO : Hid (okD 16 true (decide (s[k].toNat = 95)) (s.data.toList.drop (k + 1)) = O) := by
            show _ = _
            rw [← ho]; simp [hp, hx]
          have HV : Hid (valD 16 a (s.data.toList.drop (k + 1)) = V) := hv
          clear ho hv hI hp hx
          go_wp2
          go_round
          case rel => exact ⟨k + 1, a, m, s[k], by omega, by go_num, by rw [hx'], rfl, HM.out, HO.out, HV.out⟩
          case measure => simp [intOf]; omega
      · rw [if_neg hx] at ho hv
        have hx' : ¬ (s[k].toNat : Int) = 95 := by omega
        by_cases hd : dv s[k] < 16
        · have HO : Hid (okD 16 true (decide (s[k].toNat = 95)) (s.data.toList.drop (k + 1)) = O) := by
            show _ = _
            rw [if_pos hd] at ho
            rw [← ho]; simp [hx]
          have HV : Hid (valD 16 (a * 16 + dv s[k]) (s.data.toList.drop (k + 1)) = V) := hv
          have hd' : (dv s[k] : Int) < 16 := by omega
          clear ho hv hx
          generalize dv s[k] = d at *
          by_cases hbig : (m : Int) * 16 + (d : Int) ≤ 2147483648
          · go_wp2_with (go_at_call 73; with_reducible refine (hI _).mono ?_; rintro e w' ⟨rfl, hwe⟩; subst hwe)
            go_round
            case rel => exact ⟨k + 1, a * 16 + d, m * 16 + d, s[k], by omega, by go_num, rfl, by go_num, by have := HM.out; omega, HO.out, HV.out⟩
            case measure => simp [intOf]; omega
          · go_wp2_with (go_at_call 73; with_reducible refine (hI _).mono ?_; rintro e w' ⟨rfl, hwe⟩; subst hwe)
            go_round
            case rel => exact ⟨k + 1, a * 16 + d, 2147483648, s[k], by omega, by go_num, rfl, by go_num, by have := HM.out; omega, HO.out, HV.out⟩
            case measure => simp [intOf]; omega
        · have hOf : O = false := by rw [← ho, if_neg hd]
          have HOf : Hid (O = false) := hOf
          clear hOf
          have hd' : (16 : Int) ≤ (dv s[k] : Int) := by omega
          clear ho hv hx hd
          go_wp2_with (go_at_call 73; with_reducible refine (hI _).mono ?_; rintro e w' ⟨rfl, hwe⟩; subst hwe)
          go_ret2
          exact ⟨⟨0, ret_vb HOf.out.symm, DigRes.no HOf.out (by omega)⟩, rfl⟩
    · rw [drop_end s k (by omega), okD] at ho
      rw [drop_end s k (by omega), valD] at hv
      subst hv
      by_cases hp : c.toNat = 95
      · have hp' : (c.toNat : Int) = 95 := by omega
        have hOf : O = false := by rw [← ho]; simp [hp]
        have HOf : Hid (O = false) := hOf
        clear hOf
        clear ho hp
        go_wp2
        go_ret2
        exact ⟨⟨m, ret_vb (by rw [HOf.out]), DigRes.no HOf.out (by omega)⟩, rfl⟩
      · have hp' : ¬ (c.toNat : Int) = 95 := by omega
        have hOf : O = true := by rw [← ho]; simp [hp]
        have HOf : Hid (O = true) := hOf
        clear hOf
        clear ho hp
        go_wp2
        go_ret2
        exact ⟨⟨m, ret_vb (by rw [HOf.out]; simp [hp']), DigRes.yes HM.out (by omega)⟩, rfl⟩
end Go.Proofs.YtjohnhaahpggkabDoor
