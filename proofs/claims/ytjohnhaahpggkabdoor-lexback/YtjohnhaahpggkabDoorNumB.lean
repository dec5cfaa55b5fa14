import Derived.Test.YtjohnhaahpggkabDoorNumA
namespace Go.Proofs.YtjohnhaahpggkabDoor
open Go.RowKit
set_option linter.unusedVariables false

theorem ret_int_of {k : IntKind} {a : Int} {n : Nat} (h : a = n) : Ending.returned (.int k a) = .returned (.int k (n : Int)) := by rw [h]

set_option maxRecDepth 100000 in
set_option maxHeartbeats 1000000 in
theorem digitValue_any (c : UInt8) (w : World) : Calls Tryd.prog 73 #[.int .u8 (c.toNat : Int)] w fun e w' => e = .returned (.int .i64 (dv c : Nat)) ∧ w' = w := by
  have hc := c.toNat_lt
  have hI := fun w => isDigit_any c w
  have hdv : Hid (dv c = if 48 ≤ c.toNat ∧ c.toNat ≤ 57 then c.toNat - 48 else if 97 ≤ c.toNat ∧ c.toNat ≤ 102 then c.toNat - 87 else if 65 ≤ c.toNat ∧ c.toNat ≤ 70 then c.toNat - 55 else 16) := rfl
  generalize dv c = D at hdv
  by_cases h0 : isD c = true
  · have h0' := (isD_iff c).1 h0
    rw [h0] at hI
    have hD : Hid ((c.toNat : Int) - 48 = (D : Int)) := by
      show _ = _
      rw [hdv.out, if_pos h0']; omega
    go_enter Tryd.func73, Tryd.ntmps73
    go_wp2_with (go_at_call 46; with_reducible refine (hI _).mono ?_; rintro e w' ⟨rfl, hwe⟩; subst hwe)
    go_ret
    exact ⟨ret_int hD.out, rfl⟩
  · have hf : isD c = false := by simpa using h0
    have h0' : ¬ (48 ≤ c.toNat ∧ c.toNat ≤ 57) := fun h => h0 ((isD_iff c).2 h)
    rw [hf] at hI
    clear h0 hf
    by_cases h1 : (97 : Int) ≤ (c.toNat : Int) ∧ (c.toNat : Int) ≤ 102
    · obtain ⟨h1a, h1b⟩ := h1
      have hD : Hid ((c.toNat : Int) - 97 + 10 = (D : Int)) := by
        show _ = _
        rw [hdv.out, if_neg h0', if_pos (by omega)]; omega
      clear h0'
      go_enter Tryd.func73, Tryd.ntmps73
      go_wp2_with (go_at_call 46; with_reducible refine (hI _).mono ?_; rintro e w' ⟨rfl, hwe⟩; subst hwe)
      go_ret
      exact ⟨ret_int hD.out, rfl⟩
    · have h1' : (c.toNat : Int) < 97 ∨ 102 < (c.toNat : Int) := by omega
      by_cases h2 : (65 : Int) ≤ (c.toNat : Int) ∧ (c.toNat : Int) ≤ 70
      · obtain ⟨h2a, h2b⟩ := h2
        have hD : Hid ((c.toNat : Int) - 65 + 10 = (D : Int)) := by
          show _ = _
          rw [hdv.out, if_neg h0', if_neg (by omega), if_pos (by omega)]; omega
        clear h0' h1
        have h1a : (c.toNat : Int) < 97 := by omega
        clear h1'
        go_enter Tryd.func73, Tryd.ntmps73
        go_wp2_with (go_at_call 46; with_reducible refine (hI _).mono ?_; rintro e w' ⟨rfl, hwe⟩; subst hwe)
        go_ret
        exact ⟨ret_int hD.out, rfl⟩
      · have hD : Hid (16 = (D : Int)) := by
          show _ = _
          rw [hdv.out, if_neg h0', if_neg (by omega), if_neg (by omega)]; omega
        have h2' : (c.toNat : Int) < 65 ∨ 70 < (c.toNat : Int) := by omega
        clear h0' h1 h2
        rcases h1' with h1' | h1' <;> rcases h2' with h2' | h2'
        all_goals
          first
            | (exfalso; omega)
            | (go_enter Tryd.func73, Tryd.ntmps73
               go_wp2_with (go_at_call 46; with_reducible refine (hI _).mono ?_; rintro e w' ⟨rfl, hwe⟩; subst hwe)
               all_goals
                 go_ret
                 exact ⟨ret_int hD.out, rfl⟩)
end Go.Proofs.YtjohnhaahpggkabDoor
