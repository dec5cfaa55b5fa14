import Derived.Test.YtjohnhaahpggkabDoorNumD
namespace Go.Proofs.YtjohnhaahpggkabDoor
open Go.RowKit
set_option linter.unusedVariables false

set_option maxRecDepth 100000 in
set_option maxHeartbeats 4000000 in
theorem digits10 (s : ByteArray) (g : Bool) (w : World) (hs : s.size < 4611686018427387904) :
    Calls Tryd.prog 51 #[.string s, .int .i64 10, .bool g] w fun e w' => (∃ v : Nat, e = .returned (.tuple #[.int .i64 v, .bool (okD 10 g true s.data.toList)]) ∧ DigRes (okD 10 g true s.data.toList) (valD 10 0 s.data.toList) 1099511627776 v) ∧ w' = w := by
  have hO : Hid (okD 10 g true (s.data.toList.drop 0) = okD 10 g true s.data.toList) := rfl
  have hV : Hid (valD 10 0 (s.data.toList.drop 0) = valD 10 0 s.data.toList) := rfl
  generalize okD 10 g true s.data.toList = O at hO ⊢
  generalize valD 10 0 s.data.toList = V at hV ⊢
  go_enter Tryd.func51, Tryd.ntmps51
  go_wp2
  go_loop [8, 9] (fun tv ti => ∃ (k a m : Nat) (p : Bool), k ≤ s.size ∧ ti = .int .i64 k ∧ tv = .int .i64 (m : Int) ∧ m = min a 1099511627776 ∧ (p = true ↔ k = 0 ∨ ∃ h : k - 1 < s.size, s[k - 1].toNat = 95) ∧ (p = true → k = 0 ∨ k < s.size) ∧ okD 10 g p (s.data.toList.drop k) = O ∧ valD 10 a (s.data.toList.drop k) = V) (fun _ ti => s.size - (intOf ti).toNat)
  case atStart => exact ⟨0, 0, 0, true, Nat.zero_le _, rfl, rfl, by simp, by simp, by simp, hO.out, hV.out⟩
  case round =>
    obtain ⟨k, a, m, p, hk, rfl, rfl, hm, hp, hpl, ho, hv⟩ := hrel
    have HM : Hid (m = min a 1099511627776) := hm
    have hm2 : m ≤ 1099511627776 := by omega
    clear hm
    by_cases hlt : k < s.size
    · rw [drop_get s k hlt, okD] at ho
      rw [drop_get s k hlt, valD] at hv
      have hI := fun w => value10 s[k] w
      have hdl := dv_le s[k]
      by_cases hx : s[k].toNat = 95
      · rw [if_pos hx] at ho hv
        have hx' : (s[k].toNat : Int) = 95 := by omega
        clear hI hdl
        cases g with
        | false =>
          have HOf : Hid (O = false) := by show _ = _; rw [← ho]; simp
          clear ho hv hpl hp hx
          go_wp2
          go_ret2
          exact ⟨⟨0, ret_vb HOf.out.symm, DigRes.no HOf.out (by omega)⟩, rfl⟩
        | true =>
          by_cases hk0 : k = 0
          · have HOf : Hid (O = false) := by
              show _ = _
              have : p = true := hp.2 (.inl hk0)
              rw [← ho, this]; simp
            clear ho hv hpl hp hx
            subst hk0
            go_wp2
            go_ret2
            exact ⟨⟨0, ret_vb HOf.out.symm, DigRes.no HOf.out (by omega)⟩, rfl⟩
          · have hk0' : ¬ (k : Int) = 0 := by omega
            by_cases hkl : k = s.size - 1
            · have HOf : Hid (O = false) := by
                show _ = _
                rw [← ho, drop_end s (k + 1) (by omega)]; simp [okD]
              have hkl' : (s.size : Int) = (k : Int) + 1 := by omega
              clear ho hv hpl hp hx hkl
              go_wp2
              go_ret2
              exact ⟨⟨0, ret_vb HOf.out.symm, DigRes.no HOf.out (by omega)⟩, rfl⟩
            · have hkl' : ¬ (k : Int) = (s.size : Int) - 1 := by omega
              obtain ⟨j, rfl⟩ : ∃ j, k = j + 1 := ⟨k - 1, by omega⟩
              have hj : j < s.size := by omega
              have hq0 : ¬ (j : Int) + 1 = 0 := by omega
              have hq1 : ¬ (j : Int) + 1 = (s.size : Int) - 1 := by omega
              clear hk0' hkl' hk0
              by_cases hy : s[j].toNat = 95
              · have HOf : Hid (O = false) := by
                  show _ = _
                  have : p = true := hp.2 (.inr ⟨by omega, hy⟩)
                  rw [← ho, this]; simp
                have hy' : (s[j].toNat : Int) = 95 := by omega
                clear ho hv hpl hp hx
                go_wp2
                go_ret2
                exact ⟨⟨0, ret_vb HOf.out.symm, DigRes.no HOf.out (by omega)⟩, rfl⟩
              · have hpf : p = false := by
                  rw [← Bool.not_eq_true, hp]
                  rintro (h | ⟨_, h⟩)
                  · omega
                  · exact hy h
                have hy' : ¬ (s[j].toNat : Int) = 95 := by omega
                have HO : Hid (okD 10 true true (s.data.toList.drop (j + 1 + 1)) = O) := by
                  show _ = _
                  rw [← ho, hpf]; simp
                have HV : Hid (valD 10 a (s.data.toList.drop (j + 1 + 1)) = V) := hv
                have HX : Hid (s[j + 1].toNat = 95) := hx
                clear ho hv hpl hp hx hpf hkl hy
                go_wp2
                · exfalso
                  rename_i hc hw
                  simp only [beq_iff_eq] at hc
                  omega
                · go_round
                  case rel => exact ⟨j + 1 + 1, a, m, true, by omega, by go_num, rfl, HM.out, ⟨fun _ => .inr ⟨by omega, HX.out⟩, fun _ => rfl⟩, fun _ => .inr (by omega), HO.out, HV.out⟩
                  case measure => simp [intOf]; omega
      · rw [if_neg hx] at ho hv
        have hx' : ¬ (s[k].toNat : Int) = 95 := by omega
        by_cases hd : dv s[k] < 10
        · have HO : Hid (okD 10 g false (s.data.toList.drop (k + 1)) = O) := by
            show _ = _
            rw [if_pos hd] at ho
            exact ho
          have HV : Hid (valD 10 (a * 10 + dv s[k]) (s.data.toList.drop (k + 1)) = V) := hv
          have hr : rv 10 s[k] = (dv s[k] : Int) := by unfold rv; rw [if_pos hd]
          rw [hr] at hI
          have hd' : (dv s[k] : Int) < 10 := by omega
          have HX : Hid (¬ s[k].toNat = 95) := hx
          clear ho hv hx hr hp hpl
          generalize dv s[k] = d at *
          have hstep : (false = true ↔ k + 1 = 0 ∨ ∃ h : k + 1 - 1 < s.size, s[k + 1 - 1].toNat = 95) := by
            constructor
            · intro h; cases h
            · rintro (h | ⟨_, h⟩)
              · omega
              · exact absurd h HX.out
          have HS : Hid (false = true ↔ k + 1 = 0 ∨ ∃ h : k + 1 - 1 < s.size, s[k + 1 - 1].toNat = 95) := hstep
          clear hstep
          by_cases hbig : (1099511627776 : Int) < (m : Int) * 10 + (d : Int)
          · go_wp2_with (go_at_call 60; with_reducible refine (hI _).mono ?_; rintro e w' ⟨rfl, hwe⟩; subst hwe)
            go_round
            case rel => exact ⟨k + 1, a * 10 + d, 1099511627776, false, by omega, by go_num, by go_num, by have := HM.out; omega, HS.out, (fun h => by cases h), HO.out, HV.out⟩
            case measure => simp [intOf]; omega
          · go_wp2_with (go_at_call 60; with_reducible refine (hI _).mono ?_; rintro e w' ⟨rfl, hwe⟩; subst hwe)
            go_round
            case rel => exact ⟨k + 1, a * 10 + d, m * 10 + d, false, by omega, by go_num, by go_num, by have := HM.out; omega, HS.out, (fun h => by cases h), HO.out, HV.out⟩
            case measure => simp [intOf]; omega
        · have HOf : Hid (O = false) := by show _ = _; rw [← ho, if_neg hd]
          have hr : rv 10 s[k] = -1 := by unfold rv; rw [if_neg hd]
          rw [hr] at hI
          clear ho hv hx hd hr hp hpl
          go_wp2_with (go_at_call 60; with_reducible refine (hI _).mono ?_; rintro e w' ⟨rfl, hwe⟩; subst hwe)
          go_ret2
          exact ⟨⟨0, ret_vb HOf.out.symm, DigRes.no HOf.out (by omega)⟩, rfl⟩
    · rw [drop_end s k (by omega), okD] at ho
      rw [drop_end s k (by omega), valD] at hv
      subst hv
      by_cases h0 : s.size = 0
      · have HOf : Hid (O = false) := by
          show _ = _
          have : p = true := hp.2 (.inl (by omega))
          rw [← ho, this]; rfl
        have h0' : ¬ (0 : Int) < (s.size : Int) := by omega
        clear ho hp hpl
        go_wp2
        go_ret2
        exact ⟨⟨m, ret_vb (by rw [HOf.out]), DigRes.no HOf.out (by omega)⟩, rfl⟩
      · have HOf : Hid (O = true) := by
          show _ = _
          have : p = false := by
            rw [← Bool.not_eq_true]; intro h; have := hpl h; omega
          rw [← ho, this]; rfl
        have h0' : (0 : Int) < (s.size : Int) := by omega
        clear ho hp hpl
        go_wp2
        go_ret2
        exact ⟨⟨m, ret_vb (by rw [HOf.out]; simp; try omega), DigRes.yes HM.out (by omega)⟩, rfl⟩

set_option maxRecDepth 100000 in
set_option maxHeartbeats 4000000 in
theorem digits16 (s : ByteArray) (g : Bool) (w : World) (hs : s.size < 4611686018427387904) :
    Calls Tryd.prog 51 #[.string s, .int .i64 16, .bool g] w fun e w' => (∃ v : Nat, e = .returned (.tuple #[.int .i64 v, .bool (okD 16 g true s.data.toList)]) ∧ DigRes (okD 16 g true s.data.toList) (valD 16 0 s.data.toList) 1099511627776 v) ∧ w' = w := by
  have hO : Hid (okD 16 g true (s.data.toList.drop 0) = okD 16 g true s.data.toList) := rfl
  have hV : Hid (valD 16 0 (s.data.toList.drop 0) = valD 16 0 s.data.toList) := rfl
  generalize okD 16 g true s.data.toList = O at hO ⊢
  generalize valD 16 0 s.data.toList = V at hV ⊢
  go_enter Tryd.func51, Tryd.ntmps51
  go_wp2
  go_loop [8, 9] (fun tv ti => ∃ (k a m : Nat) (p : Bool), k ≤ s.size ∧ ti = .int .i64 k ∧ tv = .int .i64 (m : Int) ∧ m = min a 1099511627776 ∧ (p = true ↔ k = 0 ∨ ∃ h : k - 1 < s.size, s[k - 1].toNat = 95) ∧ (p = true → k = 0 ∨ k < s.size) ∧ okD 16 g p (s.data.toList.drop k) = O ∧ valD 16 a (s.data.toList.drop k) = V) (fun _ ti => s.size - (intOf ti).toNat)
  case atStart => exact ⟨0, 0, 0, true, Nat.zero_le _, rfl, rfl, by simp, by simp, by simp, hO.out, hV.out⟩
  case round =>
    obtain ⟨k, a, m, p, hk, rfl, rfl, hm, hp, hpl, ho, hv⟩ := hrel
    have HM : Hid (m = min a 1099511627776) := hm
    have hm2 : m ≤ 1099511627776 := by omega
    clear hm
    by_cases hlt : k < s.size
    · rw [drop_get s k hlt, okD] at ho
      rw [drop_get s k hlt, valD] at hv
      have hI := fun w => value16 s[k] w
      have hdl := dv_le s[k]
      by_cases hx : s[k].toNat = 95
      · rw [if_pos hx] at ho hv
        have hx' : (s[k].toNat : Int) = 95 := by omega
        clear hI hdl
        cases g with
        | false =>
          have HOf : Hid (O = false) := by show _ = _; rw [← ho]; simp
          clear ho hv hpl hp hx
          go_wp2
          go_ret2
          exact ⟨⟨0, ret_vb HOf.out.symm, DigRes.no HOf.out (by omega)⟩, rfl⟩
        | true =>
          by_cases hk0 : k = 0
          · have HOf : Hid (O = false) := by
              show _ = _
              have : p = true := hp.2 (.inl hk0)
              rw [← ho, this]; simp
            clear ho hv hpl hp hx
            subst hk0
            go_wp2
            go_ret2
            exact ⟨⟨0, ret_vb HOf.out.symm, DigRes.no HOf.out (by omega)⟩, rfl⟩
          · have hk0' : ¬ (k : Int) = 0 := by omega
            by_cases hkl : k = s.size - 1
            · have HOf : Hid (O = false) := by
                show _ = _
                rw [← ho, drop_end s (k + 1) (by omega)]; simp [okD]
              have hkl' : (s.size : Int) = (k : Int) + 1 := by omega
              clear ho hv hpl hp hx hkl
              go_wp2
              go_ret2
              exact ⟨⟨0, ret_vb HOf.out.symm, DigRes.no HOf.out (by omega)⟩, rfl⟩
            · have hkl' : ¬ (k : Int) = (s.size : Int) - 1 := by omega
              obtain ⟨j, rfl⟩ : ∃ j, k = j + 1 := ⟨k - 1, by omega⟩
              have hj : j < s.size := by omega
              have hq0 : ¬ (j : Int) + 1 = 0 := by omega
              have hq1 : ¬ (j : Int) + 1 = (s.size : Int) - 1 := by omega
              clear hk0' hkl' hk0
              by_cases hy : s[j].toNat = 95
              · have HOf : Hid (O = false) := by
                  show _ = _
                  have : p = true := hp.2 (.inr ⟨by omega, hy⟩)
                  rw [← ho, this]; simp
                have hy' : (s[j].toNat : Int) = 95 := by omega
                clear ho hv hpl hp hx
                go_wp2
                go_ret2
                exact ⟨⟨0, ret_vb HOf.out.symm, DigRes.no HOf.out (by omega)⟩, rfl⟩
              · have hpf : p = false := by
                  rw [← Bool.not_eq_true, hp]
                  rintro (h | ⟨_, h⟩)
                  · omega
                  · exact hy h
                have hy' : ¬ (s[j].toNat : Int) = 95 := by omega
                have HO : Hid (okD 16 true true (s.data.toList.drop (j + 1 + 1)) = O) := by
                  show _ = _
                  rw [← ho, hpf]; simp
                have HV : Hid (valD 16 a (s.data.toList.drop (j + 1 + 1)) = V) := hv
                have HX : Hid (s[j + 1].toNat = 95) := hx
                clear ho hv hpl hp hx hpf hkl hy
                go_wp2
                · exfalso
                  rename_i hc hw
                  simp only [beq_iff_eq] at hc
                  omega
                · go_round
                  case rel => exact ⟨j + 1 + 1, a, m, true, by omega, by go_num, rfl, HM.out, ⟨fun _ => .inr ⟨by omega, HX.out⟩, fun _ => rfl⟩, fun _ => .inr (by omega), HO.out, HV.out⟩
                  case measure => simp [intOf]; omega
      · rw [if_neg hx] at ho hv
        have hx' : ¬ (s[k].toNat : Int) = 95 := by omega
        by_cases hd : dv s[k] < 16
        · have HO : Hid (okD 16 g false (s.data.toList.drop (k + 1)) = O) := by
            show _ = _
            rw [if_pos hd] at ho
            exact ho
          have HV : Hid (valD 16 (a * 16 + dv s[k]) (s.data.toList.drop (k + 1)) = V) := hv
          have hr : rv 16 s[k] = (dv s[k] : Int) := by unfold rv; rw [if_pos hd]
          rw [hr] at hI
          have hd' : (dv s[k] : Int) < 16 := by omega
          have HX : Hid (¬ s[k].toNat = 95) := hx
          clear ho hv hx hr hp hpl
          generalize dv s[k] = d at *
          have hstep : (false = true ↔ k + 1 = 0 ∨ ∃ h : k + 1 - 1 < s.size, s[k + 1 - 1].toNat = 95) := by
            constructor
            · intro h; cases h
            · rintro (h | ⟨_, h⟩)
              · omega
              · exact absurd h HX.out
          have HS : Hid (false = true ↔ k + 1 = 0 ∨ ∃ h : k + 1 - 1 < s.size, s[k + 1 - 1].toNat = 95) := hstep
          clear hstep
          by_cases hbig : (1099511627776 : Int) < (m : Int) * 16 + (d : Int)
          · go_wp2_with (go_at_call 60; with_reducible refine (hI _).mono ?_; rintro e w' ⟨rfl, hwe⟩; subst hwe)
            go_round
            case rel => exact ⟨k + 1, a * 16 + d, 1099511627776, false, by omega, by go_num, by go_num, by have := HM.out; omega, HS.out, (fun h => by cases h), HO.out, HV.out⟩
            case measure => simp [intOf]; omega
          · go_wp2_with (go_at_call 60; with_reducible refine (hI _).mono ?_; rintro e w' ⟨rfl, hwe⟩; subst hwe)
            go_round
            case rel => exact ⟨k + 1, a * 16 + d, m * 16 + d, false, by omega, by go_num, by go_num, by have := HM.out; omega, HS.out, (fun h => by cases h), HO.out, HV.out⟩
            case measure => simp [intOf]; omega
        · have HOf : Hid (O = false) := by show _ = _; rw [← ho, if_neg hd]
          have hr : rv 16 s[k] = -1 := by unfold rv; rw [if_neg hd]
          rw [hr] at hI
          clear ho hv hx hd hr hp hpl
          go_wp2_with (go_at_call 60; with_reducible refine (hI _).mono ?_; rintro e w' ⟨rfl, hwe⟩; subst hwe)
          go_ret2
          exact ⟨⟨0, ret_vb HOf.out.symm, DigRes.no HOf.out (by omega)⟩, rfl⟩
    · rw [drop_end s k (by omega), okD] at ho
      rw [drop_end s k (by omega), valD] at hv
      subst hv
      by_cases h0 : s.size = 0
      · have HOf : Hid (O = false) := by
          show _ = _
          have : p = true := hp.2 (.inl (by omega))
          rw [← ho, this]; rfl
        have h0' : ¬ (0 : Int) < (s.size : Int) := by omega
        clear ho hp hpl
        go_wp2
        go_ret2
        exact ⟨⟨m, ret_vb (by rw [HOf.out]), DigRes.no HOf.out (by omega)⟩, rfl⟩
      · have HOf : Hid (O = true) := by
          show _ = _
          have : p = false := by
            rw [← Bool.not_eq_true]; intro h; have := hpl h; omega
          rw [← ho, this]; rfl
        have h0' : (0 : Int) < (s.size : Int) := by omega
        clear ho hp hpl
        go_wp2
        go_ret2
        exact ⟨⟨m, ret_vb (by rw [HOf.out]; simp; try omega), DigRes.yes HM.out (by omega)⟩, rfl⟩
end Go.Proofs.YtjohnhaahpggkabDoor
