import Derived.Test.YtjohnhaahpggkabDoorWrdE
namespace Go.Proofs.YtjohnhaahpggkabDoor
open Go.RowKit
set_option linter.unusedVariables false

set_option maxRecDepth 100000 in
set_option maxHeartbeats 2000000 in
theorem kindOf_any (s : ByteArray) (w : World) (hs : s.size < 4611686018427387904) (hW : Wt w) :
    Calls Tryd.prog 25 #[.string s] w fun e w' => e = .returned (.int .i64 (kindL s.data.toList)) ∧ Below w.heap.size w w' := by
  have hK := kind_first s.data.toList
  have hF := firstToken_any s w hs hW
  have hsl : s.data.toList.length = s.size := by simp
  rw [hsl] at hK
  have hem : s.toList.isEmpty = decide (s.size = 0) := by
    rw [Lib.toList_data]
    by_cases h : s.size = 0
    · have : s.data.toList = [] := List.eq_nil_of_length_eq_zero (by omega)
      rw [this, h]; rfl
    · rw [list_cons s (by omega)]; simp [h]
  have hnil : (s.data.toList = []) ↔ s.size = 0 := by
    constructor
    · intro h; rw [h] at hsl; simp at hsl; omega
    · intro h; exact List.eq_nil_of_length_eq_zero (by omega)
  generalize kindL s.data.toList = A at hK ⊢
  generalize firstTk s.data.toList = T at hK hF
  obtain ⟨⟨k, n, x⟩, z⟩ := T
  simp only at hK hF
  rw [tokV_eq] at hF
  generalize bs x = B at hF
  have HK : Hid (A = if s.data.toList = [] ∨ z ≠ s.size then -1 else k) := hK
  clear hK hsl
  by_cases h0 : s.size = 0
  · have HA : Hid (A = -1) := by
      show _ = _
      rw [HK.out, if_pos (.inl (hnil.2 h0))]
    have hem' : s.toList.isEmpty = true := by rw [hem]; simp [h0]
    clear hem hnil h0
    go_enter Tryd.func25, Tryd.ntmps25
    go_wp2_with (go_at_call 35; (with_reducible refine hF.mono ?_); rintro e w2 ⟨rfl, hb2⟩)
    go_ret
    exact ⟨ret_int HA.out.symm, (hb2.alloc hb2.size _)⟩
  · have hem' : s.toList.isEmpty = false := by rw [hem]; simp [h0]
    by_cases hz : z = s.size
    · have HA : Hid (A = k) := by
        show _ = _
        rw [HK.out, if_neg]
        rintro (h | h)
        · exact h0 (hnil.1 h)
        · exact h hz
      subst hz
      clear hem hnil h0
      go_enter Tryd.func25, Tryd.ntmps25
      go_wp2_with (go_at_call 35; (with_reducible refine hF.mono ?_); rintro e w2 ⟨rfl, hb2⟩)
      go_ret
      exact ⟨ret_int HA.out.symm, (hb2.alloc hb2.size _)⟩
    · have HA : Hid (A = -1) := by
        show _ = _
        rw [HK.out, if_pos (.inr hz)]
      have hz' : ¬ (z : Int) = (s.size : Int) := by omega
      clear hem hnil h0 hz
      go_enter Tryd.func25, Tryd.ntmps25
      go_wp2_with (go_at_call 35; (with_reducible refine hF.mono ?_); rintro e w2 ⟨rfl, hb2⟩)
      go_ret
      exact ⟨ret_int HA.out.symm, (hb2.alloc hb2.size _)⟩

end Go.Proofs.YtjohnhaahpggkabDoor
