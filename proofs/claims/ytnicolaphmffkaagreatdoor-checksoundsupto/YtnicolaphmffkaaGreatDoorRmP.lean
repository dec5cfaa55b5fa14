import Derived.Test.YtnicolaphmffkaaGreatDoorRmA
set_option linter.unusedVariables false
set_option linter.unusedSimpArgs false
namespace Go.Proofs.YtnicolaphmffkaaGreatDoor
open Go.RowKit
set_option maxRecDepth 100000 in
set_option maxHeartbeats 8000000 in
theorem rplans_any (o : Nat → Nat) (B rb : Nat) (F : Nat → List Lr) (V : Nat → Value) (W : World) (h : Rm o B W rb F V) (hu : ∀ k, (k = 3 ∨ k = 5 ∨ k = 10 ∨ 12 ≤ k) → F k = []) (h67 : (F 6).length = (F 7).length) :
    Calls Tryz.prog 48 #[.pointer (some ⟨rb, 0, none⟩)] W fun e w' => e = .returned (.bool true) ∧ Below W.heap.size W w' := by
  have q0 := h.fl 0 (by decide)
  have c0 := h.cl 0 (by decide)
  have O0 := q0.own.own
  obtain ⟨a0, s0, e0⟩ := own_form O0
  rw [e0] at c0 O0
  have M0 := hideQ q0.ms
  have X0 := own_maxR O0
  unfold maxLen at X0
  have O0 := hideQ O0
  clear q0 e0
  have q1 := h.fl 1 (by decide)
  have c1 := h.cl 1 (by decide)
  have O1 := q1.own.own
  obtain ⟨a1, s1, e1⟩ := own_form O1
  rw [e1] at c1 O1
  have M1 := hideQ q1.ms
  have X1 := own_maxR O1
  unfold maxLen at X1
  have O1 := hideQ O1
  clear q1 e1
  have q2 := h.fl 2 (by decide)
  have c2 := h.cl 2 (by decide)
  have O2 := q2.own.own
  obtain ⟨a2, s2, e2⟩ := own_form O2
  rw [e2] at c2 O2
  have M2 := hideQ q2.ms
  have X2 := own_maxR O2
  unfold maxLen at X2
  have O2 := hideQ O2
  clear q2 e2
  have q3 := h.fl 3 (by decide)
  have c3 := h.cl 3 (by decide)
  have O3 := q3.own.own
  obtain ⟨a3, s3, e3⟩ := own_form O3
  rw [e3] at c3 O3
  have z3 := hu 3 (by decide)
  have X3 := own_maxR O3
  unfold maxLen at X3
  have O3 := hideQ O3
  clear q3 e3
  have q4 := h.fl 4 (by decide)
  have c4 := h.cl 4 (by decide)
  have O4 := q4.own.own
  obtain ⟨a4, s4, e4⟩ := own_form O4
  rw [e4] at c4 O4
  have M4 := hideQ q4.ms
  have X4 := own_maxR O4
  unfold maxLen at X4
  have O4 := hideQ O4
  clear q4 e4
  have q5 := h.fl 5 (by decide)
  have c5 := h.cl 5 (by decide)
  have O5 := q5.own.own
  obtain ⟨a5, s5, e5⟩ := own_form O5
  rw [e5] at c5 O5
  have z5 := hu 5 (by decide)
  have X5 := own_maxR O5
  unfold maxLen at X5
  have O5 := hideQ O5
  clear q5 e5
  clear h hu
  go_enter Tryz.func48, Tryz.ntmps48
  go_wp2_with fail
  go_loopw [3, 4] (fun t0 t1 wr => ∃ i : Nat, i ≤ (F 0).length ∧ t0 = .int .i64 (i : Int) ∧ wr = W) (fun t0 _ _ => (F 0).length - (intOf t0).toNat)
  case atStart => exact ⟨0, by omega, rfl, rfl⟩
  case round =>
    obtain ⟨i, hi, rfl, hwr⟩ := hrel
    have hwr := hwr.symm
    subst hwr
    by_cases hlt0 : i < (F 0).length
    · have w1 : (i : Int) < ((F 0).length : Int) := by omega
      have w0 : (0 : Int) ≤ (i : Int) := by omega
      obtain ⟨g, cap, f1, _, _, hg⟩ := own_block O0.out (by omega)
      injection f1 with f1 f0 f2
      clear f0
      subst f1
      subst f2
      have hr0 : W.cell? ⟨g, i, none⟩ = some (.slice (some ⟨((F 0)[i]).g, 0, none⟩) ((F 0)[i]).n ((F 0)[i]).c) := own_reads O0.out rfl i _ (by have := cellsF_get lr_len (F 0) i 0 hlt0 (by decide); rw [Nat.mul_one, Nat.add_zero] at this; rw [this]; rfl)
      obtain ⟨n2, nb, _, _, m1, m2⟩ := M0.out _ (List.getElem_mem hlt0)
      generalize ((F 0)[i]).g = rg0 at *
      generalize ((F 0)[i]).n = rn at *
      generalize ((F 0)[i]).c = rc0 at *
      obtain ⟨q0, rfl⟩ : ∃ q, rn = q + 2 := ⟨rn - 2, by omega⟩
      have m1_0 : W.cell? ⟨rg0, q0 * 5, none⟩ = some (.int .i64 4444) := by have := m1; rw [show q0 + 2 - 2 = q0 by omega] at this; exact this
      have m2_0 : W.cell? ⟨rg0, (q0 + 1) * 5, none⟩ = some (.int .i64 4444) := by have := m2; rw [show q0 + 2 - 1 = q0 + 1 by omega] at this; exact this
      clear m1 m2
      go_wp2
      go_roundw
      case rel => exact ⟨i + 1, by omega, by go_num, by first | rfl | trivial⟩
      case measure => simp [intOf]; omega
    · have w1 : ¬ (i : Int) < ((F 0).length : Int) := by omega
      go_wp2
      go_loopw [5, 6] (fun t0 t1 wr => ∃ i : Nat, i ≤ (F 1).length ∧ t0 = .int .i64 (i : Int) ∧ wr = W) (fun t0 _ _ => (F 1).length - (intOf t0).toNat)
      case atStart => exact ⟨0, by omega, rfl, rfl⟩
      case round =>
        obtain ⟨i, hi, rfl, hwr⟩ := hrel
        have hwr := hwr.symm
        subst hwr
        by_cases hlt1 : i < (F 1).length
        · have w1 : (i : Int) < ((F 1).length : Int) := by omega
          have w0 : (0 : Int) ≤ (i : Int) := by omega
          obtain ⟨g, cap, f1, _, _, hg⟩ := own_block O1.out (by omega)
          injection f1 with f1 f0 f2
          clear f0
          subst f1
          subst f2
          have hr1 : W.cell? ⟨g, i, none⟩ = some (.slice (some ⟨((F 1)[i]).g, 0, none⟩) ((F 1)[i]).n ((F 1)[i]).c) := own_reads O1.out rfl i _ (by have := cellsF_get lr_len (F 1) i 0 hlt1 (by decide); rw [Nat.mul_one, Nat.add_zero] at this; rw [this]; rfl)
          obtain ⟨n2, nb, _, _, m1, m2⟩ := M1.out _ (List.getElem_mem hlt1)
          generalize ((F 1)[i]).g = rg1 at *
          generalize ((F 1)[i]).n = rn at *
          generalize ((F 1)[i]).c = rc1 at *
          obtain ⟨q1, rfl⟩ : ∃ q, rn = q + 2 := ⟨rn - 2, by omega⟩
          have m1_1 : W.cell? ⟨rg1, q1 * 6, none⟩ = some (.int .i64 4444) := by have := m1; rw [show q1 + 2 - 2 = q1 by omega] at this; exact this
          have m2_1 : W.cell? ⟨rg1, (q1 + 1) * 6, none⟩ = some (.int .i64 4444) := by have := m2; rw [show q1 + 2 - 1 = q1 + 1 by omega] at this; exact this
          clear m1 m2
          go_wp2
          go_roundw
          case rel => exact ⟨i + 1, by omega, by go_num, by first | rfl | trivial⟩
          case measure => simp [intOf]; omega
        · have w1 : ¬ (i : Int) < ((F 1).length : Int) := by omega
          go_wp2
          go_loopw [7, 8] (fun t0 t1 wr => ∃ i : Nat, i ≤ (F 2).length ∧ t0 = .int .i64 (i : Int) ∧ wr = W) (fun t0 _ _ => (F 2).length - (intOf t0).toNat)
          case atStart => exact ⟨0, by omega, rfl, rfl⟩
          case round =>
            obtain ⟨i, hi, rfl, hwr⟩ := hrel
            have hwr := hwr.symm
            subst hwr
            by_cases hlt2 : i < (F 2).length
            · have w1 : (i : Int) < ((F 2).length : Int) := by omega
              have w0 : (0 : Int) ≤ (i : Int) := by omega
              obtain ⟨g, cap, f1, _, _, hg⟩ := own_block O2.out (by omega)
              injection f1 with f1 f0 f2
              clear f0
              subst f1
              subst f2
              have hr2 : W.cell? ⟨g, i, none⟩ = some (.slice (some ⟨((F 2)[i]).g, 0, none⟩) ((F 2)[i]).n ((F 2)[i]).c) := own_reads O2.out rfl i _ (by have := cellsF_get lr_len (F 2) i 0 hlt2 (by decide); rw [Nat.mul_one, Nat.add_zero] at this; rw [this]; rfl)
              obtain ⟨n2, nb, _, _, m1, m2⟩ := M2.out _ (List.getElem_mem hlt2)
              generalize ((F 2)[i]).g = rg2 at *
              generalize ((F 2)[i]).n = rn at *
              generalize ((F 2)[i]).c = rc2 at *
              obtain ⟨q2, rfl⟩ : ∃ q, rn = q + 2 := ⟨rn - 2, by omega⟩
              have m1_2 : W.cell? ⟨rg2, q2 * 2, none⟩ = some (.int .i64 4444) := by have := m1; rw [show q2 + 2 - 2 = q2 by omega] at this; exact this
              have m2_2 : W.cell? ⟨rg2, (q2 + 1) * 2, none⟩ = some (.int .i64 4444) := by have := m2; rw [show q2 + 2 - 1 = q2 + 1 by omega] at this; exact this
              clear m1 m2
              go_wp2
              go_roundw
              case rel => exact ⟨i + 1, by omega, by go_num, by first | rfl | trivial⟩
              case measure => simp [intOf]; omega
            · have w1 : ¬ (i : Int) < ((F 2).length : Int) := by omega
              go_wp2
              go_loopw [9, 10] (fun t0 t1 wr => ∃ i : Nat, i ≤ (F 3).length ∧ t0 = .int .i64 (i : Int) ∧ wr = W) (fun t0 _ _ => (F 3).length - (intOf t0).toNat)
              case atStart => exact ⟨0, by omega, rfl, rfl⟩
              case round =>
                obtain ⟨i, hi, rfl, hwr⟩ := hrel
                have hwr := hwr.symm
                subst hwr
                have zl : (F 3).length = 0 := by rw [z3]; rfl
                have w1 : ¬ (i : Int) < ((F 3).length : Int) := by omega
                clear zl
                go_wp2
                go_loopw [11, 12] (fun t0 t1 wr => ∃ i : Nat, i ≤ (F 4).length ∧ t0 = .int .i64 (i : Int) ∧ wr = W) (fun t0 _ _ => (F 4).length - (intOf t0).toNat)
                case atStart => exact ⟨0, by omega, rfl, rfl⟩
                case round =>
                  obtain ⟨i, hi, rfl, hwr⟩ := hrel
                  have hwr := hwr.symm
                  subst hwr
                  by_cases hlt4 : i < (F 4).length
                  · have w1 : (i : Int) < ((F 4).length : Int) := by omega
                    have w0 : (0 : Int) ≤ (i : Int) := by omega
                    obtain ⟨g, cap, f1, _, _, hg⟩ := own_block O4.out (by omega)
                    injection f1 with f1 f0 f2
                    clear f0
                    subst f1
                    subst f2
                    have hr4 : W.cell? ⟨g, i, none⟩ = some (.slice (some ⟨((F 4)[i]).g, 0, none⟩) ((F 4)[i]).n ((F 4)[i]).c) := own_reads O4.out rfl i _ (by have := cellsF_get lr_len (F 4) i 0 hlt4 (by decide); rw [Nat.mul_one, Nat.add_zero] at this; rw [this]; rfl)
                    obtain ⟨n2, nb, _, _, m1, m2⟩ := M4.out _ (List.getElem_mem hlt4)
                    generalize ((F 4)[i]).g = rg4 at *
                    generalize ((F 4)[i]).n = rn at *
                    generalize ((F 4)[i]).c = rc4 at *
                    obtain ⟨q4, rfl⟩ : ∃ q, rn = q + 2 := ⟨rn - 2, by omega⟩
                    have m1_4 : W.cell? ⟨rg4, q4 * 7 + 1, none⟩ = some (.int .i64 4444) := by have := m1; rw [show q4 + 2 - 2 = q4 by omega] at this; exact this
                    have m2_4 : W.cell? ⟨rg4, (q4 + 1) * 7 + 1, none⟩ = some (.int .i64 4444) := by have := m2; rw [show q4 + 2 - 1 = q4 + 1 by omega] at this; exact this
                    clear m1 m2
                    go_wp2
                    go_roundw
                    case rel => exact ⟨i + 1, by omega, by go_num, by first | rfl | trivial⟩
                    case measure => simp [intOf]; omega
                  · have w1 : ¬ (i : Int) < ((F 4).length : Int) := by omega
                    go_wp2
                    go_loopw [13, 14] (fun t0 t1 wr => ∃ i : Nat, i ≤ (F 5).length ∧ t0 = .int .i64 (i : Int) ∧ wr = W) (fun t0 _ _ => (F 5).length - (intOf t0).toNat)
                    case atStart => exact ⟨0, by omega, rfl, rfl⟩
                    case round =>
                      obtain ⟨i, hi, rfl, hwr⟩ := hrel
                      have hwr := hwr.symm
                      subst hwr
                      have zl : (F 5).length = 0 := by rw [z5]; rfl
                      have w1 : ¬ (i : Int) < ((F 5).length : Int) := by omega
                      clear zl
                      go_wp2
                      go_ret
                      exact ⟨rfl, Below.refl _ _⟩
set_option maxRecDepth 100000 in
set_option maxHeartbeats 8000000 in
theorem rthings_any (o : Nat → Nat) (B rb : Nat) (F : Nat → List Lr) (V : Nat → Value) (W : World) (h : Rm o B W rb F V) (hu : ∀ k, (k = 3 ∨ k = 5 ∨ k = 10 ∨ 12 ≤ k) → F k = []) (h67 : (F 6).length = (F 7).length) :
    Calls Tryz.prog 49 #[.pointer (some ⟨rb, 0, none⟩)] W fun e w' => e = .returned (.bool true) ∧ Below W.heap.size W w' := by
  have q6 := h.fl 6 (by decide)
  have c6 := h.cl 6 (by decide)
  have O6 := q6.own.own
  obtain ⟨a6, s6, e6⟩ := own_form O6
  rw [e6] at c6 O6
  have M6 := hideQ q6.ms
  have X6 := own_maxR O6
  unfold maxLen at X6
  have O6 := hideQ O6
  clear q6 e6
  have q7 := h.fl 7 (by decide)
  have c7 := h.cl 7 (by decide)
  have O7 := q7.own.own
  obtain ⟨a7, s7, e7⟩ := own_form O7
  rw [e7] at c7 O7
  have M7 := hideQ q7.ms
  have X7 := own_maxR O7
  unfold maxLen at X7
  have O7 := hideQ O7
  clear q7 e7
  have q8 := h.fl 8 (by decide)
  have c8 := h.cl 8 (by decide)
  have O8 := q8.own.own
  obtain ⟨a8, s8, e8⟩ := own_form O8
  rw [e8] at c8 O8
  have M8 := hideQ q8.ms
  have X8 := own_maxR O8
  unfold maxLen at X8
  have O8 := hideQ O8
  clear q8 e8
  have q9 := h.fl 9 (by decide)
  have c9 := h.cl 9 (by decide)
  have O9 := q9.own.own
  obtain ⟨a9, s9, e9⟩ := own_form O9
  rw [e9] at c9 O9
  have M9 := hideQ q9.ms
  have X9 := own_maxR O9
  unfold maxLen at X9
  have O9 := hideQ O9
  clear q9 e9
  have q10 := h.fl 10 (by decide)
  have c10 := h.cl 10 (by decide)
  have O10 := q10.own.own
  obtain ⟨a10, s10, e10⟩ := own_form O10
  rw [e10] at c10 O10
  have z10 := hu 10 (by decide)
  have X10 := own_maxR O10
  unfold maxLen at X10
  have O10 := hideQ O10
  clear q10 e10
  have q12 := h.fl 12 (by decide)
  have c12 := h.cl 12 (by decide)
  have O12 := q12.own.own
  obtain ⟨a12, s12, e12⟩ := own_form O12
  rw [e12] at c12 O12
  have z12 := hu 12 (by decide)
  have X12 := own_maxR O12
  unfold maxLen at X12
  have O12 := hideQ O12
  clear q12 e12
  have q13 := h.fl 13 (by decide)
  have c13 := h.cl 13 (by decide)
  have O13 := q13.own.own
  obtain ⟨a13, s13, e13⟩ := own_form O13
  rw [e13] at c13 O13
  have z13 := hu 13 (by decide)
  have X13 := own_maxR O13
  unfold maxLen at X13
  have O13 := hideQ O13
  clear q13 e13
  clear h hu
  go_enter Tryz.func49, Tryz.ntmps49
  go_wp2_with fail
  go_loopw [3, 4, 5] (fun t0 t1 t2 wr => ∃ i : Nat, i ≤ (F 6).length ∧ t0 = .int .i64 (i : Int) ∧ wr = W) (fun t0 _ _ _ => (F 6).length - (intOf t0).toNat)
  case atStart => exact ⟨0, by omega, rfl, rfl⟩
  case round =>
    obtain ⟨i, hi, rfl, hwr⟩ := hrel
    have hwr := hwr.symm
    subst hwr
    by_cases hlt6 : i < (F 6).length
    · have w1 : (i : Int) < ((F 6).length : Int) := by omega
      have w0 : (0 : Int) ≤ (i : Int) := by omega
      have hlt7 : i < (F 7).length := by omega
      have w2 : (i : Int) < ((F 7).length : Int) := by omega
      obtain ⟨g, cap, f1, _, _, hg⟩ := own_block O6.out (by omega)
      injection f1 with f1 f0 f2
      clear f0
      subst f1
      subst f2
      have hr6 : W.cell? ⟨g, i, none⟩ = some (.slice (some ⟨((F 6)[i]).g, 0, none⟩) ((F 6)[i]).n ((F 6)[i]).c) := own_reads O6.out rfl i _ (by have := cellsF_get lr_len (F 6) i 0 hlt6 (by decide); rw [Nat.mul_one, Nat.add_zero] at this; rw [this]; rfl)
      obtain ⟨n2, nb, _, _, m1, m2⟩ := M6.out _ (List.getElem_mem hlt6)
      generalize ((F 6)[i]).g = rg6 at *
      generalize ((F 6)[i]).n = rn at *
      generalize ((F 6)[i]).c = rc6 at *
      obtain ⟨q6, rfl⟩ : ∃ q, rn = q + 2 := ⟨rn - 2, by omega⟩
      have m1_6 : W.cell? ⟨rg6, q6 * 5 + 2, none⟩ = some (.int .i64 4444) := by have := m1; rw [show q6 + 2 - 2 = q6 by omega] at this; exact this
      have m2_6 : W.cell? ⟨rg6, (q6 + 1) * 5 + 2, none⟩ = some (.int .i64 4444) := by have := m2; rw [show q6 + 2 - 1 = q6 + 1 by omega] at this; exact this
      clear m1 m2
      obtain ⟨g, cap, f1, _, _, hg⟩ := own_block O7.out (by omega)
      injection f1 with f1 f0 f2
      clear f0
      subst f1
      subst f2
      have hr7 : W.cell? ⟨g, i, none⟩ = some (.slice (some ⟨((F 7)[i]).g, 0, none⟩) ((F 7)[i]).n ((F 7)[i]).c) := own_reads O7.out rfl i _ (by have := cellsF_get lr_len (F 7) i 0 hlt7 (by decide); rw [Nat.mul_one, Nat.add_zero] at this; rw [this]; rfl)
      obtain ⟨n2, nb, _, _, m1, m2⟩ := M7.out _ (List.getElem_mem hlt7)
      generalize ((F 7)[i]).g = rg7 at *
      generalize ((F 7)[i]).n = rn at *
      generalize ((F 7)[i]).c = rc7 at *
      obtain ⟨q7, rfl⟩ : ∃ q, rn = q + 2 := ⟨rn - 2, by omega⟩
      have m1_7 : W.cell? ⟨rg7, q7 * 4, none⟩ = some (.int .i64 4444) := by have := m1; rw [show q7 + 2 - 2 = q7 by omega] at this; exact this
      have m2_7 : W.cell? ⟨rg7, (q7 + 1) * 4, none⟩ = some (.int .i64 4444) := by have := m2; rw [show q7 + 2 - 1 = q7 + 1 by omega] at this; exact this
      clear m1 m2
      go_wp2
      go_roundw
      case rel => exact ⟨i + 1, by omega, by go_num, by first | rfl | trivial⟩
      case measure => simp [intOf]; omega
    · have w1 : ¬ (i : Int) < ((F 6).length : Int) := by omega
      go_wp2
      go_loopw [6, 7] (fun t0 t1 wr => ∃ i : Nat, i ≤ (F 8).length ∧ t0 = .int .i64 (i : Int) ∧ wr = W) (fun t0 _ _ => (F 8).length - (intOf t0).toNat)
      case atStart => exact ⟨0, by omega, rfl, rfl⟩
      case round =>
        obtain ⟨i, hi, rfl, hwr⟩ := hrel
        have hwr := hwr.symm
        subst hwr
        by_cases hlt8 : i < (F 8).length
        · have w1 : (i : Int) < ((F 8).length : Int) := by omega
          have w0 : (0 : Int) ≤ (i : Int) := by omega
          obtain ⟨g, cap, f1, _, _, hg⟩ := own_block O8.out (by omega)
          injection f1 with f1 f0 f2
          clear f0
          subst f1
          subst f2
          have hr8 : W.cell? ⟨g, i, none⟩ = some (.slice (some ⟨((F 8)[i]).g, 0, none⟩) ((F 8)[i]).n ((F 8)[i]).c) := own_reads O8.out rfl i _ (by have := cellsF_get lr_len (F 8) i 0 hlt8 (by decide); rw [Nat.mul_one, Nat.add_zero] at this; rw [this]; rfl)
          obtain ⟨n2, nb, _, _, m1, m2⟩ := M8.out _ (List.getElem_mem hlt8)
          generalize ((F 8)[i]).g = rg8 at *
          generalize ((F 8)[i]).n = rn at *
          generalize ((F 8)[i]).c = rc8 at *
          obtain ⟨q8, rfl⟩ : ∃ q, rn = q + 2 := ⟨rn - 2, by omega⟩
          have m1_8 : W.cell? ⟨rg8, q8 * 4 + 2, none⟩ = some (.int .i64 4444) := by have := m1; rw [show q8 + 2 - 2 = q8 by omega] at this; exact this
          have m2_8 : W.cell? ⟨rg8, (q8 + 1) * 4 + 2, none⟩ = some (.int .i64 4444) := by have := m2; rw [show q8 + 2 - 1 = q8 + 1 by omega] at this; exact this
          clear m1 m2
          go_wp2
          go_roundw
          case rel => exact ⟨i + 1, by omega, by go_num, by first | rfl | trivial⟩
          case measure => simp [intOf]; omega
        · have w1 : ¬ (i : Int) < ((F 8).length : Int) := by omega
          go_wp2
          go_loopw [8, 9] (fun t0 t1 wr => ∃ i : Nat, i ≤ (F 9).length ∧ t0 = .int .i64 (i : Int) ∧ wr = W) (fun t0 _ _ => (F 9).length - (intOf t0).toNat)
          case atStart => exact ⟨0, by omega, rfl, rfl⟩
          case round =>
            obtain ⟨i, hi, rfl, hwr⟩ := hrel
            have hwr := hwr.symm
            subst hwr
            by_cases hlt9 : i < (F 9).length
            · have w1 : (i : Int) < ((F 9).length : Int) := by omega
              have w0 : (0 : Int) ≤ (i : Int) := by omega
              obtain ⟨g, cap, f1, _, _, hg⟩ := own_block O9.out (by omega)
              injection f1 with f1 f0 f2
              clear f0
              subst f1
              subst f2
              have hr9 : W.cell? ⟨g, i, none⟩ = some (.slice (some ⟨((F 9)[i]).g, 0, none⟩) ((F 9)[i]).n ((F 9)[i]).c) := own_reads O9.out rfl i _ (by have := cellsF_get lr_len (F 9) i 0 hlt9 (by decide); rw [Nat.mul_one, Nat.add_zero] at this; rw [this]; rfl)
              obtain ⟨n2, nb, _, _, m1, m2⟩ := M9.out _ (List.getElem_mem hlt9)
              generalize ((F 9)[i]).g = rg9 at *
              generalize ((F 9)[i]).n = rn at *
              generalize ((F 9)[i]).c = rc9 at *
              obtain ⟨q9, rfl⟩ : ∃ q, rn = q + 2 := ⟨rn - 2, by omega⟩
              have m1_9 : W.cell? ⟨rg9, q9 * 2 + 1, none⟩ = some (.int .i32 4444) := by have := m1; rw [show q9 + 2 - 2 = q9 by omega] at this; exact this
              have m2_9 : W.cell? ⟨rg9, (q9 + 1) * 2 + 1, none⟩ = some (.int .i32 4444) := by have := m2; rw [show q9 + 2 - 1 = q9 + 1 by omega] at this; exact this
              clear m1 m2
              go_wp2
              go_roundw
              case rel => exact ⟨i + 1, by omega, by go_num, by first | rfl | trivial⟩
              case measure => simp [intOf]; omega
            · have w1 : ¬ (i : Int) < ((F 9).length : Int) := by omega
              go_wp2
              go_loopw [10, 11] (fun t0 t1 wr => ∃ i : Nat, i ≤ (F 10).length ∧ t0 = .int .i64 (i : Int) ∧ wr = W) (fun t0 _ _ => (F 10).length - (intOf t0).toNat)
              case atStart => exact ⟨0, by omega, rfl, rfl⟩
              case round =>
                obtain ⟨i, hi, rfl, hwr⟩ := hrel
                have hwr := hwr.symm
                subst hwr
                have zl : (F 10).length = 0 := by rw [z10]; rfl
                have w1 : ¬ (i : Int) < ((F 10).length : Int) := by omega
                clear zl
                go_wp2
                go_loopw [12, 13, 14] (fun t0 t1 t2 wr => ∃ i : Nat, i ≤ (F 12).length ∧ t0 = .int .i64 (i : Int) ∧ wr = W) (fun t0 _ _ _ => (F 12).length - (intOf t0).toNat)
                case atStart => exact ⟨0, by omega, rfl, rfl⟩
                case round =>
                  obtain ⟨i, hi, rfl, hwr⟩ := hrel
                  have hwr := hwr.symm
                  subst hwr
                  have zl : (F 12).length = 0 := by rw [z12]; rfl
                  have w1 : ¬ (i : Int) < ((F 12).length : Int) := by omega
                  clear zl
                  go_wp2
                  go_ret
                  exact ⟨rfl, Below.refl _ _⟩
set_option maxRecDepth 100000 in
set_option maxHeartbeats 8000000 in
theorem whole_any (o : Nat → Nat) (B rb : Nat) (F : Nat → List Lr) (V : Nat → Value) (W : World) (h : Rm o B W rb F V) (hu : ∀ k, (k = 3 ∨ k = 5 ∨ k = 10 ∨ 12 ≤ k) → F k = []) (h67 : (F 6).length = (F 7).length) :
    Calls Tryz.prog 16 #[.pointer (some ⟨rb, 0, none⟩)] W fun e w' => e = .returned (.bool true) ∧ Below W.heap.size W w' := by
  have q11 := h.fl 11 (by decide)
  have c11 := h.cl 11 (by decide)
  have O11 := q11.own.own
  obtain ⟨a11, s11, e11⟩ := own_form O11
  rw [e11] at c11 O11
  have M11 := hideQ q11.ms
  have X11 := own_maxR O11
  unfold maxLen at X11
  have O11 := hideQ O11
  clear q11 e11
  have q14 := h.fl 14 (by decide)
  have c14 := h.cl 14 (by decide)
  have O14 := q14.own.own
  obtain ⟨a14, s14, e14⟩ := own_form O14
  rw [e14] at c14 O14
  have z14 := hu 14 (by decide)
  have X14 := own_maxR O14
  unfold maxLen at X14
  have O14 := hideQ O14
  clear q14 e14
  have q15 := h.fl 15 (by decide)
  have c15 := h.cl 15 (by decide)
  have O15 := q15.own.own
  obtain ⟨a15, s15, e15⟩ := own_form O15
  rw [e15] at c15 O15
  have z15 := hu 15 (by decide)
  have X15 := own_maxR O15
  unfold maxLen at X15
  have O15 := hideQ O15
  clear q15 e15
  have q16 := h.fl 16 (by decide)
  have c16 := h.cl 16 (by decide)
  have O16 := q16.own.own
  obtain ⟨a16, s16, e16⟩ := own_form O16
  rw [e16] at c16 O16
  have z16 := hu 16 (by decide)
  have X16 := own_maxR O16
  unfold maxLen at X16
  have O16 := hideQ O16
  clear q16 e16
  have k48 := hideQ (rplans_any o B rb F V W h hu h67)
  have k49 := hideQ (fun (X : World) (hX : Below W.heap.size W X) => rthings_any o B rb F V X (h.below hX) hu h67)
  clear h hu
  go_enter Tryz.func16, Tryz.ntmps16
  go_wp2_with fail
  go_loopw [3, 4] (fun t0 t1 wr => ∃ i : Nat, i ≤ (F 11).length ∧ t0 = .int .i64 (i : Int) ∧ wr = W) (fun t0 _ _ => (F 11).length - (intOf t0).toNat)
  case atStart => exact ⟨0, by omega, rfl, rfl⟩
  case round =>
    obtain ⟨i, hi, rfl, hwr⟩ := hrel
    have hwr := hwr.symm
    subst hwr
    by_cases hlt11 : i < (F 11).length
    · have w1 : (i : Int) < ((F 11).length : Int) := by omega
      have w0 : (0 : Int) ≤ (i : Int) := by omega
      obtain ⟨g, cap, f1, _, _, hg⟩ := own_block O11.out (by omega)
      injection f1 with f1 f0 f2
      clear f0
      subst f1
      subst f2
      have hr11 : W.cell? ⟨g, i, none⟩ = some (.slice (some ⟨((F 11)[i]).g, 0, none⟩) ((F 11)[i]).n ((F 11)[i]).c) := own_reads O11.out rfl i _ (by have := cellsF_get lr_len (F 11) i 0 hlt11 (by decide); rw [Nat.mul_one, Nat.add_zero] at this; rw [this]; rfl)
      obtain ⟨n2, nb, _, _, m1, m2⟩ := M11.out _ (List.getElem_mem hlt11)
      generalize ((F 11)[i]).g = rg11 at *
      generalize ((F 11)[i]).n = rn at *
      generalize ((F 11)[i]).c = rc11 at *
      obtain ⟨q11, rfl⟩ : ∃ q, rn = q + 2 := ⟨rn - 2, by omega⟩
      have m1_11 : W.cell? ⟨rg11, q11 , none⟩ = some (.string ⟨#[114, 111, 111, 109]⟩) := by have := m1; rw [show q11 + 2 - 2 = q11 by omega] at this; simpa [rS, rO, rV] using this
      have m2_11 : W.cell? ⟨rg11, (q11 + 1), none⟩ = some (.string ⟨#[114, 111, 111, 109]⟩) := by have := m2; rw [show q11 + 2 - 1 = q11 + 1 by omega] at this; simpa [rS, rO, rV] using this
      clear m1 m2
      go_wp2
      go_roundw
      case rel => exact ⟨i + 1, by omega, by go_num, by first | rfl | trivial⟩
      case measure => simp [intOf]; omega
    · have w1 : ¬ (i : Int) < ((F 11).length : Int) := by omega
      go_wp2
      go_loopw [5, 6] (fun t0 t1 wr => ∃ i : Nat, i ≤ (F 14).length ∧ t0 = .int .i64 (i : Int) ∧ wr = W) (fun t0 _ _ => (F 14).length - (intOf t0).toNat)
      case atStart => exact ⟨0, by omega, rfl, rfl⟩
      case round =>
        obtain ⟨i, hi, rfl, hwr⟩ := hrel
        have hwr := hwr.symm
        subst hwr
        have zl : (F 14).length = 0 := by rw [z14]; rfl
        have w1 : ¬ (i : Int) < ((F 14).length : Int) := by omega
        clear zl
        go_wp2
        go_loopw [7, 8] (fun t0 t1 wr => ∃ i : Nat, i ≤ (F 15).length ∧ t0 = .int .i64 (i : Int) ∧ wr = W) (fun t0 _ _ => (F 15).length - (intOf t0).toNat)
        case atStart => exact ⟨0, by omega, rfl, rfl⟩
        case round =>
          obtain ⟨i, hi, rfl, hwr⟩ := hrel
          have hwr := hwr.symm
          subst hwr
          have zl : (F 15).length = 0 := by rw [z15]; rfl
          have w1 : ¬ (i : Int) < ((F 15).length : Int) := by omega
          clear zl
          go_wp2
          go_loopw [9, 10] (fun t0 t1 wr => ∃ i : Nat, i ≤ (F 16).length ∧ t0 = .int .i64 (i : Int) ∧ wr = W) (fun t0 _ _ => (F 16).length - (intOf t0).toNat)
          case atStart => exact ⟨0, by omega, rfl, rfl⟩
          case round =>
            obtain ⟨i, hi, rfl, hwr⟩ := hrel
            have hwr := hwr.symm
            subst hwr
            have zl : (F 16).length = 0 := by rw [z16]; rfl
            have w1 : ¬ (i : Int) < ((F 16).length : Int) := by omega
            clear zl
            go_wp2_with (first
              | (go_at_call 48; go_loud (refine Calls.mono k48.out ?_); rintro e w1 ⟨rfl, hb1⟩; have k49' := k49.out w1 hb1)
              | (go_at_call 49; go_loud (refine Calls.mono k49' ?_); rintro e w2 ⟨rfl, hb2⟩))
            go_ret
            exact ⟨rfl, hb1.trans (hb2.mono hb1.size)⟩
end Go.Proofs.YtnicolaphmffkaaGreatDoor
