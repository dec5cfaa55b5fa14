import Derived.Test.YtjohnhaahpggkaaDoorWrdE
namespace Go.Proofs.YtjohnhaahpggkaaDoor
open Go.RowKit
set_option linter.unusedVariables false

set_option maxRecDepth 100000 in
set_option maxHeartbeats 2000000 in
theorem kindOf_any (s : ByteArray) (w : World) (hs : s.size < 4611686018427387904) (hW : Wt w) :
    Calls Tryd.prog 12 #[.string s] w fun e w' => e = .returned (.int .i64 (kindL s.data.toList)) ∧ Below w.heap.size w w' := by
  have hK := kind_first s.data.toList
  have hF := firstToken_any s w hs hW
  have hsl : s.data.toList.length = s.size := by simp
  rw [hsl] at hK
  have hem : s.toList.isEmpty = decide (s.size = 0) := by
    rw [Lib.toList_data]
    by_cases h : s.size = 0
    · have : s.data.toList = [] := List.eq_nil_of_length_eq_zero (by omega)
      rw [this, h]; rfl
    · rw [list_cons s (by omega)]; simp [h]
  have hnil : (s.data.toList = []) ↔ s.size = 0 := by
    constructor
    · intro h; rw [h] at hsl; simp at hsl; omega
    · intro h; exact List.eq_nil_of_length_eq_zero (by omega)
  generalize kindL s.data.toList = A at hK ⊢
  generalize firstTk s.data.toList = T at hK hF
  obtain ⟨⟨k, n, x⟩, z⟩ := T
  simp only at hK hF
  rw [tokV_eq] at hF
  generalize bs x = B at hF
  have HK : Hid (A = if s.data.toList = [] ∨ z ≠ s.size then -1 else k) := hK
  clear hK hsl
  by_cases h0 : s.size = 0
  · have HA : Hid (A = -1) := by
      show _ = _
      rw [HK.out, if_pos (.inl (hnil.2 h0))]
    have hem' : s.toList.isEmpty = true := by rw [hem]; simp [h0]
    clear hem hnil h0
    go_enter Tryd.func12, Tryd.ntmps12
    go_wp2_with (go_at_call 24; (with_reducible refine hF.mono ?_); rintro e w2 ⟨rfl, hb2⟩)
    go_ret
    exact ⟨ret_int HA.out.symm, (hb2.alloc hb2.size _)⟩
  · have hem' : s.toList.isEmpty = false := by rw [hem]; simp [h0]
    by_cases hz : z = s.size
    · have HA : Hid (A = k) := by
        show _ = _
        rw [HK.out, if_neg]
        rintro (h | h)
        · exact h0 (hnil.1 h)
        · exact h hz
      subst hz
      clear hem hnil h0
      go_enter Tryd.func12, Tryd.ntmps12
      go_wp2_with (go_at_call 24; (with_reducible refine hF.mono ?_); rintro e w2 ⟨rfl, hb2⟩)
      go_ret
      exact ⟨ret_int HA.out.symm, (hb2.alloc hb2.size _)⟩
    · have HA : Hid (A = -1) := by
        show _ = _
        rw [HK.out, if_pos (.inr hz)]
      have hz' : ¬ (z : Int) = (s.size : Int) := by omega
      clear hem hnil h0 hz
      go_enter Tryd.func12, Tryd.ntmps12
      go_wp2_with (go_at_call 24; (with_reducible refine hF.mono ?_); rintro e w2 ⟨rfl, hb2⟩)
      go_ret
      exact ⟨ret_int HA.out.symm, (hb2.alloc hb2.size _)⟩

set_option maxRecDepth 100000 in
set_option maxHeartbeats 2000000 in
theorem spells_of (kind : Int) (s : ByteArray) (w : World) (hs : s.size < 4611686018427387904) (hW : Wt w) (hK : Kt w) (hS : St w) :
    Calls Tryd.prog 3 #[.int .i64 kind, .string s] w fun e w' => e = .returned (.bool true) ∧ Below w.heap.size w w' := by
  have h8 := number_any s w hs
  have h9 := fun w => refNumber_any s w hs
  have h10 := fun w1 (hb : Below w.heap.size w w1) => word_any kind w1 (hW.below hb hW.1)
  have h11 := fun w1 (hb : Below w.heap.size w w1) => refWord_any kind w1 (hK.below hb hK.1) (hS.below hb hS.1)
  have h12 := fun w1 (hb : Below w.heap.size w w1) => kindOf_any s w1 hs (hW.below hb hW.1)
  have h13 := fun w1 (hb : Below w.heap.size w w1) => refKindOf_any s w1 hs (hK.below hb hK.1) (hS.below hb hS.1)
  unfold numA at h8 h9
  generalize numV (numOf s.data.toList) = V at h8 h9
  generalize numE (numOf s.data.toList) = E at h8 h9
  generalize wordA kind = B at h10 h11
  generalize kindL s.data.toList = K at h12 h13
  clear hW hK hS
  go_enter Tryd.func3, Tryd.ntmps3
  go_wp2_with (first
    | (go_at_call 8; (with_reducible refine h8.mono ?_); rintro e w1 ⟨rfl, hb1⟩)
    | (go_at_call 9; (with_reducible refine (h9 _).mono ?_); rintro e w2 ⟨rfl, hb2'⟩; have hb2 := hb1.trans (hb2'.mono hb1.size); clear hb2')
    | (go_at_call 10; (with_reducible refine (h10 _ hb2).mono ?_); rintro e w3 ⟨rfl, hwe⟩; subst hwe)
    | (go_at_call 11; (with_reducible refine (h11 _ hb2).mono ?_); rintro e w3 ⟨rfl, hwe⟩; subst hwe)
    | (go_at_call 12; (with_reducible refine (h12 _ hb2).mono ?_); rintro e w4 ⟨rfl, hb4'⟩; have hb4 := hb2.trans (hb4'.mono hb2.size); clear hb4')
    | (go_at_call 13; (with_reducible refine (h13 _ hb4).mono ?_); rintro e w5 ⟨rfl, hb5'⟩; have hb5 := hb4.trans (hb5'.mono hb4.size); clear hb5'))
  go_ret
  exact ⟨rfl, hb5⟩
end Go.Proofs.YtjohnhaahpggkaaDoor
