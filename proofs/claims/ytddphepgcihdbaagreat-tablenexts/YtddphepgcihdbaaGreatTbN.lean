import Derived.Test.YtddphepgcihdbaaGreatTbM
namespace Go.Proofs.YtddphepgcihdbaaGreat
open Go.RowKit
set_option linter.unusedVariables false
set_option linter.unusedSimpArgs false

set_option maxRecDepth 100000 in
theorem digit_any (c : UInt8) (w : World) : Calls Tryz.prog 88 #[.int .u8 (c.toNat : Int)] w fun e w' => e = .returned (.bool (digB c)) ∧ w = w' := by
  have hc := c.toNat_lt
  unfold digB
  generalize c.toNat = x at *
  by_cases h0 : 48 ≤ x
  · have h0' : (48 : Int) ≤ (x : Int) := by omega
    have e : (decide (48 ≤ x) && decide (x ≤ 57)) = decide ((x : Int) ≤ 57) := by simp [h0]; omega
    rw [e]
    go_enter Tryz.func88, Tryz.ntmps88
    go_wp2
    go_ret
    exact ⟨rfl, rfl⟩
  · have h0' : ¬ (48 : Int) ≤ (x : Int) := by omega
    have e : (decide (48 ≤ x) && decide (x ≤ 57)) = false := by simp [h0]
    rw [e]
    go_enter Tryz.func88, Tryz.ntmps88
    go_wp2
    go_ret
    exact ⟨rfl, rfl⟩
set_option maxRecDepth 100000 in
theorem letter_any (c : UInt8) (w : World) : Calls Tryz.prog 87 #[.int .u8 (c.toNat : Int)] w fun e w' => e = .returned (.bool (letB c)) ∧ w = w' := by
  have hc := c.toNat_lt
  unfold letB
  generalize c.toNat = x at *
  obtain ⟨R, hR⟩ : ∃ R, R = ((decide (97 ≤ x) && decide (x ≤ 122)) || (decide (65 ≤ x) && decide (x ≤ 90))) := ⟨_, rfl⟩
  rw [← hR]
  have q : ((97 : Int) ≤ (x : Int) ∧ (x : Int) ≤ 122 ∧ R = true) ∨ ((97 : Int) ≤ (x : Int) ∧ ¬ (x : Int) ≤ 122 ∧ ¬ (x : Int) ≤ 90 ∧ (65 : Int) ≤ (x : Int) ∧ R = false) ∨ (¬ (97 : Int) ≤ (x : Int) ∧ (65 : Int) ≤ (x : Int) ∧ (x : Int) ≤ 90 ∧ R = true) ∨ (¬ (97 : Int) ≤ (x : Int) ∧ (65 : Int) ≤ (x : Int) ∧ ¬ (x : Int) ≤ 90 ∧ R = false) ∨ (¬ (97 : Int) ≤ (x : Int) ∧ ¬ (65 : Int) ≤ (x : Int) ∧ R = false) := by
    cases R
    · simp only [Bool.false_eq, Bool.or_eq_false_iff, Bool.and_eq_false_iff, decide_eq_false_iff_not] at hR
      simp; omega
    · have hR' := hR.symm
      simp only [Bool.or_eq_true, Bool.and_eq_true, decide_eq_true_eq] at hR'
      simp; omega
  clear hR
  rcases q with ⟨a, b, rfl⟩ | ⟨a, b, c1, d, rfl⟩ | ⟨a, b, c1, rfl⟩ | ⟨a, b, c1, rfl⟩ | ⟨a, b, rfl⟩ <;>
  ( go_enter Tryz.func87, Tryz.ntmps87
    go_wp2
    go_ret
    exact ⟨rfl, rfl⟩)
theorem data_drop (s : ByteArray) (k : Nat) (h : k < s.size) (p : UInt8 → Bool) : (s.data.toList.drop k).all p = (p s[k] && (s.data.toList.drop (k + 1)).all p) := by
  have h' : k < s.data.toList.length := by simpa using h
  rw [List.drop_eq_getElem_cons h']; rfl
theorem take_one (s : ByteArray) (h : 0 < s.size) (p : UInt8 → Bool) : (s.data.toList.take 1).all p = p s[0] := by
  have h' : 0 < s.data.toList.length := by simpa using h
  have e : s.data.toList = s[0] :: s.data.toList.drop 1 := by have := List.drop_eq_getElem_cons (i := 0) h'; exact this
  rw [e]; simp
/-- From byte k on all may stand in a name. -/
def nalB (s : ByteArray) (k : Nat) : Bool := (s.data.toList.drop k).all nchB
theorem nal_zero (s : ByteArray) : s.data.toList.all nchB = nalB s 0 := rfl
theorem nal_step (s : ByteArray) (k : Nat) (h : k < s.size) : nalB s k = (nchB s[k] && nalB s (k + 1)) := data_drop s k h nchB
theorem nal_end (s : ByteArray) : nalB s s.size = true := by
  unfold nalB
  rw [List.drop_eq_nil_of_le (Nat.le_of_eq (by rw [Array.length_toList]; rfl))]; rfl
theorem nch_cases (c : UInt8) : (letB c = true ∧ nchB c = true) ∨ (letB c = false ∧ digB c = true ∧ nchB c = true) ∨ (letB c = false ∧ digB c = false ∧ ((c.toNat : Int) == 95) = true ∧ ((c.toNat : Int) != 95) = false ∧ nchB c = true) ∨ (letB c = false ∧ digB c = false ∧ ((c.toNat : Int) == 95) = false ∧ ((c.toNat : Int) != 95) = true ∧ ((c.toNat : Int) == 45) = true ∧ ((c.toNat : Int) != 45) = false ∧ nchB c = true) ∨ (letB c = false ∧ digB c = false ∧ ((c.toNat : Int) == 95) = false ∧ ((c.toNat : Int) != 95) = true ∧ ((c.toNat : Int) == 45) = false ∧ ((c.toNat : Int) != 45) = true ∧ nchB c = false) := by
  unfold nchB
  cases h1 : letB c <;> cases h2 : digB c <;> simp
  by_cases a : c.toNat = 95
  · simp [a]
  · by_cases b : c.toNat = 45
    · simp [b]
    · have a' : ¬ (c.toNat : Int) = 95 := by omega
      have b' : ¬ (c.toNat : Int) = 45 := by omega
      simp [a, b, a', b']
set_option maxRecDepth 100000 in
set_option maxHeartbeats 2000000 in
theorem isName_any (s : ByteArray) (w : World) (hs : s.size ≤ 140737488355328) : Calls Tryz.prog 56 #[.string s] w fun e w' => e = .returned (.bool (nmB s)) ∧ w = w' := by
  by_cases h1 : 0 < s.size
  · by_cases h2 : s.size ≤ 32
    · have e1 : nmB s = (letB s[0] && nalB s 0) := by rw [← nal_zero]; simp [nmB, h1, h2, take_one s h1]
      rw [e1]
      clear e1
      have hl := letter_any s[0] w
      have z1 : ((s.size : Int) == 0) = false := beq_eq_false_iff_ne.2 (by omega)
      have z2 : ¬ (32 : Int) < (s.size : Int) := by omega
      have z3 : (0 : Int) < (s.size : Int) := by omega
      cases hb : letB s[0] with
      | false =>
        rw [hb] at hl
        clear hb
        simp only [Bool.false_and]
        go_enter Tryz.func56, Tryz.ntmps56
        go_wp2_with (go_at_call 87; (with_reducible refine hl.mono ?_); rintro e w' ⟨rfl, rfl⟩)
        go_ret
        exact ⟨rfl, rfl⟩
      | true =>
        rw [hb] at hl
        clear hb
        simp only [Bool.true_and]
        go_enter Tryz.func56, Tryz.ntmps56
        go_wp2_with (go_at_call 87; (with_reducible refine hl.mono ?_); rintro e w' ⟨rfl, rfl⟩)
        clear hl
        go_loopg [3, 4, 21] s.size (fun gk s3 s4 s21 wr => ∃ k : Nat, k + gk = s.size ∧ s21 = .int .i64 (k : Int) ∧ Hid (nalB s k = nalB s 0) ∧ w = wr)
        case atStart => exact ⟨0, by omega, rfl, rfl, rfl⟩
        case round =>
          obtain ⟨k, hk, rfl, hA, rfl⟩ := hrel
          by_cases hlt : k < s.size
          · have t1 : (k : Int) < (s.size : Int) := by omega
            have t0 : (0 : Int) ≤ (k : Int) := by omega
            have hl := letter_any s[k] w
            have hd := digit_any s[k] w
            have hE : Hid (nalB s 0 = (nchB s[k] && nalB s (k + 1))) := by show _ = _; rw [← hA.out, nal_step s k hlt]
            clear hA
            rcases nch_cases s[k] with ⟨q1, q⟩ | ⟨q1, q2, q⟩ | ⟨q1, q2, q3, q4, q⟩ | ⟨q1, q2, q3, q4, q5, q6, q⟩ | ⟨q1, q2, q3, q4, q5, q6, q⟩
            case inr.inr.inr.inr =>
              have hE2 : Hid (nalB s 0 = false) := by show _ = _; rw [hE.out, q]; rfl
              rw [q1] at hl; rw [q2] at hd
              clear hE q q1 q2
              go_wp2_with (first | (go_at_call 87; (with_reducible refine hl.mono ?_); rintro e w' ⟨rfl, rfl⟩) | (go_at_call 88; (with_reducible refine hd.mono ?_); rintro e w' ⟨rfl, rfl⟩))
              go_ret
              exact ⟨ret_bool hE2.out.symm, rfl⟩
            all_goals
              have hE2 : Hid (nalB s (k + 1) = nalB s 0) := by show _ = _; rw [hE.out, q]; rfl
              rw [q1] at hl
              (try rw [q2] at hd)
              clear hE q q1
              (try clear q2)
              go_wp2_with (first | (go_at_call 87; (with_reducible refine hl.mono ?_); rintro e w' ⟨rfl, rfl⟩) | (go_at_call 88; (with_reducible refine hd.mono ?_); rintro e w' ⟨rfl, rfl⟩))
              go_roundg (gk - 1)
              case measure => go_light; omega
              case rel => exact ⟨k + 1, by omega, by go_num, hE2, rfl⟩
          · obtain rfl : k = s.size := by omega
            have t1 : ¬ (s.size : Int) < (s.size : Int) := by omega
            have hE2 : Hid (nalB s 0 = true) := by show _ = _; rw [← hA.out, nal_end]
            go_wp2
            go_ret
            exact ⟨ret_bool hE2.out.symm, rfl⟩
    · have e1 : nmB s = false := by simp [nmB, h2]
      rw [e1]
      have z1 : ((s.size : Int) == 0) = false := beq_eq_false_iff_ne.2 (by omega)
      have z2 : (32 : Int) < (s.size : Int) := by omega
      go_enter Tryz.func56, Tryz.ntmps56
      go_wp2
      go_ret
      exact ⟨rfl, rfl⟩
  · have e1 : nmB s = false := by simp [nmB, h1]
    rw [e1]
    have z1 : ((s.size : Int) == 0) = true := by have : s.size = 0 := by omega
                                                 simp [this]
    go_enter Tryz.func56, Tryz.ntmps56
    go_wp2
    go_ret
    exact ⟨rfl, rfl⟩
theorem let_cases (c : UInt8) : (letB c = true ∧ (((97 : Int) ≤ (c.toNat : Int) ∧ (c.toNat : Int) ≤ 122) ∨ (¬ (97 : Int) ≤ (c.toNat : Int) ∧ (c.toNat : Int) ≤ 122 ∧ (65 : Int) ≤ (c.toNat : Int) ∧ (c.toNat : Int) ≤ 90))) ∨ (letB c = false ∧ (((97 : Int) ≤ (c.toNat : Int) ∧ ¬ (c.toNat : Int) ≤ 122 ∧ (65 : Int) ≤ (c.toNat : Int) ∧ ¬ (c.toNat : Int) ≤ 90) ∨ (¬ (97 : Int) ≤ (c.toNat : Int) ∧ (65 : Int) ≤ (c.toNat : Int) ∧ ¬ (c.toNat : Int) ≤ 90) ∨ (¬ (97 : Int) ≤ (c.toNat : Int) ∧ ¬ (65 : Int) ≤ (c.toNat : Int)))) := by
  unfold letB
  generalize c.toNat = x
  cases h : ((decide (97 ≤ x) && decide (x ≤ 122)) || (decide (65 ≤ x) && decide (x ≤ 90)))
  · simp only [Bool.or_eq_false_iff, Bool.and_eq_false_iff, decide_eq_false_iff_not] at h
    right; refine ⟨rfl, ?_⟩; omega
  · simp only [Bool.or_eq_true, Bool.and_eq_true, decide_eq_true_eq] at h
    left; refine ⟨rfl, ?_⟩; omega
theorem dig_cases (c : UInt8) : (digB c = true ∧ ((c.toNat : Int) != 95) = true ∧ ((c.toNat : Int) != 45) = true ∧ ¬ (c.toNat : Int) < 48 ∧ ¬ (57 : Int) < (c.toNat : Int)) ∨ (digB c = false ∧ ((c.toNat : Int) < 48 ∨ ¬ (c.toNat : Int) < 48 ∧ (57 : Int) < (c.toNat : Int))) := by
  unfold digB
  generalize c.toNat = x
  cases h : (decide (48 ≤ x) && decide (x ≤ 57))
  · simp only [Bool.and_eq_false_iff, decide_eq_false_iff_not] at h
    right; refine ⟨rfl, ?_⟩; omega
  · simp only [Bool.and_eq_true, decide_eq_true_eq] at h
    left; refine ⟨rfl, ?_, ?_, ?_, ?_⟩
    · simp only [bne_iff_ne, ne_eq]; omega
    · simp only [bne_iff_ne, ne_eq]; omega
    · omega
    · omega
set_option maxRecDepth 100000 in
set_option maxHeartbeats 4000000 in
theorem named_any (s : ByteArray) (w : World) (hs : s.size ≤ 140737488355328) : Calls Tryz.prog 31 #[.string s] w fun e w' => e = .returned (.bool (nmB s)) ∧ w = w' := by
  have hfin : Hid (s.size = 0 → nmB s = false) := by intro h; simp [nmB, h]
  have hbig : Hid (¬ s.size ≤ 32 → nmB s = false) := by intro h; simp [nmB, h]
  have hbad : Hid (∀ h : 0 < s.size, letB s[0] = false → nmB s = false) := by intro h h2; simp [nmB, take_one s h, h2]
  have hnal : Hid (nalB s 0 = false → nmB s = false) := by intro h; rw [← nal_zero] at h; simp only [nmB, h]; simp
  have hok : Hid (∀ h : 0 < s.size, s.size ≤ 32 → letB s[0] = true → nalB s 0 = true → nmB s = true) := by intro h h2 h3 h4; rw [← nal_zero] at h4; simp [nmB, take_one s h, h, h2, h3, h4]
  generalize nmB s = R at *
  go_enter Tryz.func31, Tryz.ntmps31
  go_wp2
  go_loopg [3, 4, 5] s.size (fun gk s3 s4 s5 wr => ∃ k : Nat, k + gk = s.size ∧ s3 = .int .i64 (k : Int) ∧ Hid (nalB s k = nalB s 0) ∧ Hid (0 < k → ∃ h : 0 < s.size, letB s[0] = true) ∧ w = wr)
  case atStart => exact ⟨0, by omega, rfl, rfl, fun h => absurd h (by omega), rfl⟩
  case round =>
    obtain ⟨k, hk, rfl, hA, hF, rfl⟩ := hrel
    by_cases hlt : k < s.size
    · have t1 : (k : Int) < (s.size : Int) := by omega
      have t0 : (0 : Int) ≤ (k : Int) := by omega
      have hE : Hid (nalB s 0 = (nchB s[k] && nalB s (k + 1))) := by show _ = _; rw [← hA.out, nal_step s k hlt]
      have hlet := let_cases s[k]
      clear hA
      by_cases hk0 : k = 0
      · subst hk0
        have t1' : (0 : Int) < (s.size : Int) := by omega
        clear t1 t0 hF
        rcases hlet with ⟨q, c⟩ | ⟨q, c⟩
        · have hE2 : Hid (nalB s (0 + 1) = nalB s 0) := by show _ = _; rw [hE.out]; simp [nchB, q]
          have hF2 : Hid (0 < 0 + 1 → ∃ h : 0 < s.size, letB s[0] = true) := fun _ => ⟨by omega, q⟩
          clear q hE
          rcases c with ⟨c1, c2⟩ | ⟨c1, c2, c3, c4⟩ <;>
          ( go_wp2
            go_roundg (gk - 1)
            case measure => go_light; omega
            case rel => exact ⟨0 + 1, by omega, by go_num, hE2, hF2, rfl⟩)
        · have hE2 : Hid (R = false) := hbad.out (by omega) q
          clear q hE
          rcases c with ⟨c1, c2, c3, c4⟩ | ⟨c1, c3, c4⟩ | ⟨c1, c3⟩ <;>
          ( go_wp2
            go_ret
            exact ⟨ret_bool hE2.out.symm, rfl⟩)
      · have z : ((k : Int) == 0) = false := beq_eq_false_iff_ne.2 (by omega)
        have hF2 : Hid (0 < k + 1 → ∃ h : 0 < s.size, letB s[0] = true) := fun _ => hF.out (by omega)
        rcases hlet with ⟨q, c⟩ | ⟨q, c⟩
        · have hE2 : Hid (nalB s (k + 1) = nalB s 0) := by show _ = _; rw [hE.out]; simp [nchB, q]
          clear q hE hk0
          rcases c with ⟨c1, c2⟩ | ⟨c1, c2, c3, c4⟩ <;>
          ( go_wp2
            go_roundg (gk - 1)
            case measure => go_light; omega
            case rel => exact ⟨k + 1, by omega, by go_num, hE2, hF2, rfl⟩)
        · have hd := dig_cases s[k]
          rcases nch_cases s[k] with ⟨q1, _⟩ | ⟨_, q2, q⟩ | ⟨_, q2, q3, q4, q⟩ | ⟨_, q2, q3, q4, q5, q6, q⟩ | ⟨_, q2, q3, q4, q5, q6, q⟩
          · rw [q] at q1; cases q1
          · have hE2 : Hid (nalB s (k + 1) = nalB s 0) := by show _ = _; rw [hE.out, q]; rfl
            rcases hd with ⟨d0, d1, d2, d3, d4⟩ | ⟨d0, d1⟩
            · clear q hE hk0 q2 d0
              rcases c with ⟨c1, c2, c3, c4⟩ | ⟨c1, c3, c4⟩ | ⟨c1, c3⟩ <;>
              ( go_wp2
                go_roundg (gk - 1)
                case measure => go_light; omega
                case rel => exact ⟨k + 1, by omega, by go_num, hE2, hF2, rfl⟩)
            · rw [q2] at d0; cases d0
          · have hE2 : Hid (nalB s (k + 1) = nalB s 0) := by show _ = _; rw [hE.out, q]; rfl
            clear hE hk0 q2 hd q
            rcases c with ⟨c1, c2, c3, c4⟩ | ⟨c1, c3, c4⟩ | ⟨c1, c3⟩ <;>
            ( go_wp2
              go_roundg (gk - 1)
              case measure => go_light; omega
              case rel => exact ⟨k + 1, by omega, by go_num, hE2, hF2, rfl⟩)
          · have hE2 : Hid (nalB s (k + 1) = nalB s 0) := by show _ = _; rw [hE.out, q]; rfl
            clear hE hk0 q2 hd q
            rcases c with ⟨c1, c2, c3, c4⟩ | ⟨c1, c3, c4⟩ | ⟨c1, c3⟩ <;>
            ( go_wp2
              go_roundg (gk - 1)
              case measure => go_light; omega
              case rel => exact ⟨k + 1, by omega, by go_num, hE2, hF2, rfl⟩)
          · have hE2 : Hid (R = false) := hnal.out (by rw [hE.out, q]; rfl)
            rcases hd with ⟨d0, _⟩ | ⟨d0, d1⟩
            · rw [q2] at d0; cases d0
            clear hE hk0 q2 q d0
            rcases d1 with d1 | ⟨d1, d2⟩ <;> rcases c with ⟨c1, c2, c3, c4⟩ | ⟨c1, c3, c4⟩ | ⟨c1, c3⟩ <;>
            first | (exfalso; omega) |
            ( go_wp2
              go_ret
              exact ⟨ret_bool hE2.out.symm, rfl⟩)
    · obtain rfl : k = s.size := by omega
      have t1 : ¬ (s.size : Int) < (s.size : Int) := by omega
      have hE2 : Hid (nalB s 0 = true) := by show _ = _; rw [← hA.out, nal_end]
      by_cases h0 : 0 < s.size
      · have u1 : (0 : Int) < (s.size : Int) := by omega
        by_cases h32 : s.size ≤ 32
        · have u2 : (s.size : Int) ≤ 32 := by omega
          have hR : Hid (R = true) := by obtain ⟨a, b⟩ := hF.out h0; exact hok.out a h32 b hE2.out
          go_wp2
          go_ret
          exact ⟨ret_bool hR.out.symm, rfl⟩
        · have u2 : ¬ (s.size : Int) ≤ 32 := by omega
          have hR : Hid (R = false) := hbig.out h32
          go_wp2
          go_ret
          exact ⟨ret_bool hR.out.symm, rfl⟩
      · have u1 : ¬ (0 : Int) < (s.size : Int) := by omega
        have hR : Hid (R = false) := hfin.out (by omega)
        go_wp2
        go_ret
        exact ⟨ret_bool hR.out.symm, rfl⟩
end Go.Proofs.YtddphepgcihdbaaGreat
