import Derived.Test.YtddphepgcihdbaaTbM
namespace Go.Proofs.Ytddphepgcihdbaa
open Go.RowKit
set_option linter.unusedVariables false
set_option linter.unusedSimpArgs false

set_option maxRecDepth 100000 in
theorem digit_any (c : UInt8) (w : World) : Calls Try.prog 80 #[.int .u8 (c.toNat : Int)] w fun e w' => e = .returned (.bool (digB c)) ∧ w = w' := by
  have hc := c.toNat_lt
  unfold digB
  generalize c.toNat = x at *
  by_cases h0 : 48 ≤ x
  · have h0' : (48 : Int) ≤ (x : Int) := by omega
    have e : (decide (48 ≤ x) && decide (x ≤ 57)) = decide ((x : Int) ≤ 57) := by simp [h0]; omega
    rw [e]
    go_enter Try.func80, Try.ntmps80
    go_wp2
    go_ret
    exact ⟨rfl, rfl⟩
  · have h0' : ¬ (48 : Int) ≤ (x : Int) := by omega
    have e : (decide (48 ≤ x) && decide (x ≤ 57)) = false := by simp [h0]
    rw [e]
    go_enter Try.func80, Try.ntmps80
    go_wp2
    go_ret
    exact ⟨rfl, rfl⟩
set_option maxRecDepth 100000 in
theorem letter_any (c : UInt8) (w : World) : Calls Try.prog 79 #[.int .u8 (c.toNat : Int)] w fun e w' => e = .returned (.bool (letB c)) ∧ w = w' := by
  have hc := c.toNat_lt
  unfold letB
  generalize c.toNat = x at *
  obtain ⟨R, hR⟩ : ∃ R, R = ((decide (97 ≤ x) && decide (x ≤ 122)) || (decide (65 ≤ x) && decide (x ≤ 90))) := ⟨_, rfl⟩
  rw [← hR]
  have q : ((97 : Int) ≤ (x : Int) ∧ (x : Int) ≤ 122 ∧ R = true) ∨ ((97 : Int) ≤ (x : Int) ∧ ¬ (x : Int) ≤ 122 ∧ ¬ (x : Int) ≤ 90 ∧ (65 : Int) ≤ (x : Int) ∧ R = false) ∨ (¬ (97 : Int) ≤ (x : Int) ∧ (65 : Int) ≤ (x : Int) ∧ (x : Int) ≤ 90 ∧ R = true) ∨ (¬ (97 : Int) ≤ (x : Int) ∧ (65 : Int) ≤ (x : Int) ∧ ¬ (x : Int) ≤ 90 ∧ R = false) ∨ (¬ (97 : Int) ≤ (x : Int) ∧ ¬ (65 : Int) ≤ (x : Int) ∧ R = false) := by
    cases R
    · simp only [Bool.false_eq, Bool.or_eq_false_iff, Bool.and_eq_false_iff, decide_eq_false_iff_not] at hR
      simp; omega
    · have hR' := hR.symm
      simp only [Bool.or_eq_true, Bool.and_eq_true, decide_eq_true_eq] at hR'
      simp; omega
  clear hR
  rcases q with ⟨a, b, rfl⟩ | ⟨a, b, c1, d, rfl⟩ | ⟨a, b, c1, rfl⟩ | ⟨a, b, c1, rfl⟩ | ⟨a, b, rfl⟩ <;>
  ( go_enter Try.func79, Try.ntmps79
    go_wp2
    go_ret
    exact ⟨rfl, rfl⟩)
theorem data_drop (s : ByteArray) (k : Nat) (h : k < s.size) (p : UInt8 → Bool) : (s.data.toList.drop k).all p = (p s[k] && (s.data.toList.drop (k + 1)).all p) := by
  have h' : k < s.data.toList.length := by simpa using h
  rw [List.drop_eq_getElem_cons h']; rfl
theorem take_one (s : ByteArray) (h : 0 < s.size) (p : UInt8 → Bool) : (s.data.toList.take 1).all p = p s[0] := by
  have h' : 0 < s.data.toList.length := by simpa using h
  have e : s.data.toList = s[0] :: s.data.toList.drop 1 := by have := List.drop_eq_getElem_cons (i := 0) h'; exact this
  rw [e]; simp
/-- From byte k on all may stand in a name. -/
def nalB (s : ByteArray) (k : Nat) : Bool := (s.data.toList.drop k).all nchB
theorem nal_zero (s : ByteArray) : s.data.toList.all nchB = nalB s 0 := rfl
theorem nal_step (s : ByteArray) (k : Nat) (h : k < s.size) : nalB s k = (nchB s[k] && nalB s (k + 1)) := data_drop s k h nchB
theorem nal_end (s : ByteArray) : nalB s s.size = true := by
  unfold nalB
  rw [List.drop_eq_nil_of_le (Nat.le_of_eq (by rw [Array.length_toList]; rfl))]; rfl
theorem nch_cases (c : UInt8) : (letB c = true ∧ nchB c = true) ∨ (letB c = false ∧ digB c = true ∧ nchB c = true) ∨ (letB c = false ∧ digB c = false ∧ ((c.toNat : Int) == 95) = true ∧ ((c.toNat : Int) != 95) = false ∧ nchB c = true) ∨ (letB c = false ∧ digB c = false ∧ ((c.toNat : Int) == 95) = false ∧ ((c.toNat : Int) != 95) = true ∧ ((c.toNat : Int) == 45) = true ∧ ((c.toNat : Int) != 45) = false ∧ nchB c = true) ∨ (letB c = false ∧ digB c = false ∧ ((c.toNat : Int) == 95) = false ∧ ((c.toNat : Int) != 95) = true ∧ ((c.toNat : Int) == 45) = false ∧ ((c.toNat : Int) != 45) = true ∧ nchB c = false) := by
  unfold nchB
  cases h1 : letB c <;> cases h2 : digB c <;> simp
  by_cases a : c.toNat = 95
  · simp [a]
  · by_cases b : c.toNat = 45
    · simp [b]
    · have a' : ¬ (c.toNat : Int) = 95 := by omega
      have b' : ¬ (c.toNat : Int) = 45 := by omega
      simp [a, b, a', b']
set_option maxRecDepth 100000 in
set_option maxHeartbeats 2000000 in
theorem isName_any (s : ByteArray) (w : World) (hs : s.size ≤ 140737488355328) : Calls Try.prog 46 #[.string s] w fun e w' => e = .returned (.bool (nmB s)) ∧ w = w' := by
  by_cases h1 : 0 < s.size
  · by_cases h2 : s.size ≤ 32
    · have e1 : nmB s = (letB s[0] && nalB s 0) := by rw [← nal_zero]; simp [nmB, h1, h2, take_one s h1]
      rw [e1]
      clear e1
      have hl := letter_any s[0] w
      have z1 : ((s.size : Int) == 0) = false := beq_eq_false_iff_ne.2 (by omega)
      have z2 : ¬ (32 : Int) < (s.size : Int) := by omega
      have z3 : (0 : Int) < (s.size : Int) := by omega
      cases hb : letB s[0] with
      | false =>
        rw [hb] at hl
        clear hb
        simp only [Bool.false_and]
        go_enter Try.func46, Try.ntmps46
        go_wp2_with (go_at_call 79; (with_reducible refine hl.mono ?_); rintro e w' ⟨rfl, rfl⟩)
        go_ret
        exact ⟨rfl, rfl⟩
      | true =>
        rw [hb] at hl
        clear hb
        simp only [Bool.true_and]
        go_enter Try.func46, Try.ntmps46
        go_wp2_with (go_at_call 79; (with_reducible refine hl.mono ?_); rintro e w' ⟨rfl, rfl⟩)
        clear hl
        go_loopg [3, 4, 21] s.size (fun gk s3 s4 s21 wr => ∃ k : Nat, k + gk = s.size ∧ s21 = .int .i64 (k : Int) ∧ Hid (nalB s k = nalB s 0) ∧ w = wr)
        case atStart => exact ⟨0, by omega, rfl, rfl, rfl⟩
        case round =>
          obtain ⟨k, hk, rfl, hA, rfl⟩ := hrel
          by_cases hlt : k < s.size
          · have t1 : (k : Int) < (s.size : Int) := by omega
            have t0 : (0 : Int) ≤ (k : Int) := by omega
            have hl := letter_any s[k] w
            have hd := digit_any s[k] w
            have hE : Hid (nalB s 0 = (nchB s[k] && nalB s (k + 1))) := by show _ = _; rw [← hA.out, nal_step s k hlt]
            clear hA
            rcases nch_cases s[k] with ⟨q1, q⟩ | ⟨q1, q2, q⟩ | ⟨q1, q2, q3, q4, q⟩ | ⟨q1, q2, q3, q4, q5, q6, q⟩ | ⟨q1, q2, q3, q4, q5, q6, q⟩
            case inr.inr.inr.inr =>
              have hE2 : Hid (nalB s 0 = false) := by show _ = _; rw [hE.out, q]; rfl
              rw [q1] at hl; rw [q2] at hd
              clear hE q q1 q2
              go_wp2_with (first | (go_at_call 79; (with_reducible refine hl.mono ?_); rintro e w' ⟨rfl, rfl⟩) | (go_at_call 80; (with_reducible refine hd.mono ?_); rintro e w' ⟨rfl, rfl⟩))
              go_ret
              exact ⟨ret_bool hE2.out.symm, rfl⟩
            all_goals
              have hE2 : Hid (nalB s (k + 1) = nalB s 0) := by show _ = _; rw [hE.out, q]; rfl
              rw [q1] at hl
              (try rw [q2] at hd)
              clear hE q q1
              (try clear q2)
              go_wp2_with (first | (go_at_call 79; (with_reducible refine hl.mono ?_); rintro e w' ⟨rfl, rfl⟩) | (go_at_call 80; (with_reducible refine hd.mono ?_); rintro e w' ⟨rfl, rfl⟩))
              go_roundg (gk - 1)
              case measure => go_light; omega
              case rel => exact ⟨k + 1, by omega, by go_num, hE2, rfl⟩
          · obtain rfl : k = s.size := by omega
            have t1 : ¬ (s.size : Int) < (s.size : Int) := by omega
            have hE2 : Hid (nalB s 0 = true) := by show _ = _; rw [← hA.out, nal_end]
            go_wp2
            go_ret
            exact ⟨ret_bool hE2.out.symm, rfl⟩
    · have e1 : nmB s = false := by simp [nmB, h2]
      rw [e1]
      have z1 : ((s.size : Int) == 0) = false := beq_eq_false_iff_ne.2 (by omega)
      have z2 : (32 : Int) < (s.size : Int) := by omega
      go_enter Try.func46, Try.ntmps46
      go_wp2
      go_ret
      exact ⟨rfl, rfl⟩
  · have e1 : nmB s = false := by simp [nmB, h1]
    rw [e1]
    have z1 : ((s.size : Int) == 0) = true := by have : s.size = 0 := by omega
                                                 simp [this]
    go_enter Try.func46, Try.ntmps46
    go_wp2
    go_ret
    exact ⟨rfl, rfl⟩
theorem let_cases (c : UInt8) : (letB c = true ∧ (((97 : Int) ≤ (c.toNat : Int) ∧ (c.toNat : Int) ≤ 122) ∨ (¬ (97 : Int) ≤ (c.toNat : Int) ∧ (c.toNat : Int) ≤ 122 ∧ (65 : Int) ≤ (c.toNat : Int) ∧ (c.toNat : Int) ≤ 90))) ∨ (letB c = false ∧ (((97 : Int) ≤ (c.toNat : Int) ∧ ¬ (c.toNat : Int) ≤ 122 ∧ (65 : Int) ≤ (c.toNat : Int) ∧ ¬ (c.toNat : Int) ≤ 90) ∨ (¬ (97 : Int) ≤ (c.toNat : Int) ∧ (65 : Int) ≤ (c.toNat : Int) ∧ ¬ (c.toNat : Int) ≤ 90) ∨ (¬ (97 : Int) ≤ (c.toNat : Int) ∧ ¬ (65 : Int) ≤ (c.toNat : Int)))) := by
  unfold letB
  generalize c.toNat = x
  cases h : ((decide (97 ≤ x) && decide (x ≤ 122)) || (decide (65 ≤ x) && decide (x ≤ 90)))
  · simp only [Bool.or_eq_false_iff, Bool.and_eq_false_iff, decide_eq_false_iff_not] at h
    right; refine ⟨rfl, ?_⟩; omega
  · simp only [Bool.or_eq_true, Bool.and_eq_true, decide_eq_true_eq] at h
    left; refine ⟨rfl, ?_⟩; omega
theorem dig_cases (c : UInt8) : (digB c = true ∧ ((c.toNat : Int) != 95) = true ∧ ((c.toNat : Int) != 45) = true ∧ ¬ (c.toNat : Int) < 48 ∧ ¬ (57 : Int) < (c.toNat : Int)) ∨ (digB c = false ∧ ((c.toNat : Int) < 48 ∨ ¬ (c.toNat : Int) < 48 ∧ (57 : Int) < (c.toNat : Int))) := by
  unfold digB
  generalize c.toNat = x
  cases h : (decide (48 ≤ x) && decide (x ≤ 57))
  · simp only [Bool.and_eq_false_iff, decide_eq_false_iff_not] at h
    right; refine ⟨rfl, ?_⟩; omega
  · simp only [Bool.and_eq_true, decide_eq_true_eq] at h
    left; refine ⟨rfl, ?_, ?_, ?_, ?_⟩
    · simp only [bne_iff_ne, ne_eq]; omega
    · simp only [bne_iff_ne, ne_eq]; omega
    · omega
    · omega
end Go.Proofs.Ytddphepgcihdbaa
