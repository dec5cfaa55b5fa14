import Derived.Test.YtjohnhaahpggkabDoorNumB
namespace Go.Proofs.YtjohnhaahpggkabDoor
open Go.RowKit
set_option linter.unusedVariables false

/-- What the reference's value tells of a byte. -/
def rv (b : Nat) (c : UInt8) : Int := if dv c < b then (dv c : Int) else -1

set_option maxRecDepth 100000 in
set_option maxHeartbeats 1000000 in
theorem value10 (c : UInt8) (w : World) : Calls Tryd.prog 60 #[.int .u8 (c.toNat : Int), .int .i64 10] w fun e w' => e = .returned (.int .i64 (rv 10 c)) ∧ w' = w := by
  have hc := c.toNat_lt
  have hI := fun w => digit_any c w
  by_cases h0 : isD c = true
  · have h0' := (isD_iff c).1 h0
    have hD : Hid ((c.toNat : Int) - 48 = rv 10 c) := by
      show _ = _
      have := (dv_lt10 c).2 h0
      unfold rv
      rw [if_pos this, dv_digit h0]; omega
    rw [h0] at hI
    go_enter Tryd.func60, Tryd.ntmps60
    go_wp2_with (go_at_call 59; with_reducible refine (hI _).mono ?_; rintro e w' ⟨rfl, hwe⟩; subst hwe)
    go_ret
    exact ⟨ret_int hD.out, rfl⟩
  · have hf : isD c = false := by simpa using h0
    have hD : Hid (-1 = rv 10 c) := by
      show _ = _
      unfold rv
      rw [if_neg (fun h => h0 ((dv_lt10 c).1 h))]
    rw [hf] at hI
    clear h0 hf
    go_enter Tryd.func60, Tryd.ntmps60
    go_wp2_with (go_at_call 59; with_reducible refine (hI _).mono ?_; rintro e w' ⟨rfl, hwe⟩; subst hwe)
    go_ret
    exact ⟨ret_int hD.out, rfl⟩

set_option maxRecDepth 100000 in
set_option maxHeartbeats 1000000 in
theorem value16 (c : UInt8) (w : World) : Calls Tryd.prog 60 #[.int .u8 (c.toNat : Int), .int .i64 16] w fun e w' => e = .returned (.int .i64 (rv 16 c)) ∧ w' = w := by
  have hc := c.toNat_lt
  have hI := fun w => digit_any c w
  have hr : Hid (rv 16 c = if 48 ≤ c.toNat ∧ c.toNat ≤ 57 then (c.toNat : Int) - 48 else if 97 ≤ c.toNat ∧ c.toNat ≤ 102 then (c.toNat : Int) - 97 + 10 else if 65 ≤ c.toNat ∧ c.toNat ≤ 70 then (c.toNat : Int) - 65 + 10 else -1) := by
    show _ = _
    unfold rv dv
    split
    · rw [if_pos (by omega)]; omega
    · split
      · rw [if_pos (by omega)]; omega
      · split
        · rw [if_pos (by omega)]; omega
        · rw [if_neg (by omega)]
  generalize rv 16 c = R at hr
  by_cases h0 : isD c = true
  · have h0' := (isD_iff c).1 h0
    rw [h0] at hI
    have hD : Hid ((c.toNat : Int) - 48 = R) := by
      show _ = _
      rw [hr.out, if_pos h0']
    go_enter Tryd.func60, Tryd.ntmps60
    go_wp2_with (go_at_call 59; with_reducible refine (hI _).mono ?_; rintro e w' ⟨rfl, hwe⟩; subst hwe)
    go_ret
    exact ⟨ret_int hD.out, rfl⟩
  · have hf : isD c = false := by simpa using h0
    have h0' : ¬ (48 ≤ c.toNat ∧ c.toNat ≤ 57) := fun h => h0 ((isD_iff c).2 h)
    rw [hf] at hI
    clear h0 hf
    by_cases h1 : (97 : Int) ≤ (c.toNat : Int) ∧ (c.toNat : Int) ≤ 102
    · obtain ⟨h1a, h1b⟩ := h1
      have hD : Hid ((c.toNat : Int) - 97 + 10 = R) := by
        show _ = _
        rw [hr.out, if_neg h0', if_pos (by omega)]
      clear h0'
      go_enter Tryd.func60, Tryd.ntmps60
      go_wp2_with (go_at_call 59; with_reducible refine (hI _).mono ?_; rintro e w' ⟨rfl, hwe⟩; subst hwe)
      go_ret
      exact ⟨ret_int hD.out, rfl⟩
    · have h1' : (c.toNat : Int) < 97 ∨ 102 < (c.toNat : Int) := by omega
      by_cases h2 : (65 : Int) ≤ (c.toNat : Int) ∧ (c.toNat : Int) ≤ 70
      · obtain ⟨h2a, h2b⟩ := h2
        have hD : Hid ((c.toNat : Int) - 65 + 10 = R) := by
          show _ = _
          rw [hr.out, if_neg h0', if_neg (by omega), if_pos (by omega)]
        clear h0' h1
        have h1a : (c.toNat : Int) < 97 := by omega
        clear h1'
        go_enter Tryd.func60, Tryd.ntmps60
        go_wp2_with (go_at_call 59; with_reducible refine (hI _).mono ?_; rintro e w' ⟨rfl, hwe⟩; subst hwe)
        go_ret
        exact ⟨ret_int hD.out, rfl⟩
      · have hD : Hid (-1 = R) := by
          show _ = _
          rw [hr.out, if_neg h0', if_neg (by omega), if_neg (by omega)]
        have h2' : (c.toNat : Int) < 65 ∨ 70 < (c.toNat : Int) := by omega
        clear h0' h1 h2
        rcases h1' with h1' | h1' <;> rcases h2' with h2' | h2'
        all_goals
          first
            | (exfalso; omega)
            | (go_enter Tryd.func60, Tryd.ntmps60
               go_wp2_with (go_at_call 59; with_reducible refine (hI _).mono ?_; rintro e w' ⟨rfl, hwe⟩; subst hwe)
               all_goals
                 go_ret
                 exact ⟨ret_int hD.out, rfl⟩)

theorem drop_get (s : ByteArray) (k : Nat) (h : k < s.size) : s.data.toList.drop k = s[k] :: s.data.toList.drop (k + 1) := by
  rw [List.drop_eq_getElem_cons (by simpa using h)]; rfl
theorem drop_end (s : ByteArray) (k : Nat) (h : s.size ≤ k) : s.data.toList.drop k = [] := List.drop_eq_nil_of_le (by simpa using h)

end Go.Proofs.YtjohnhaahpggkabDoor
