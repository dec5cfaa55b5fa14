import Derived.Test.YtcajejfddfiidaaDoorInA
namespace Go.Proofs.YtcajejfddfiidaaDoor
open Go.RowKit
set_option linter.unusedVariables false
set_option linter.unusedSimpArgs false


abbrev isDg (c : UInt8) : Prop := 48 ≤ c.toNat ∧ c.toNat ≤ 57
/-- A number of ticks, cut at 65537. -/
def numF (n : Nat) : List UInt8 → Option Nat
  | [] => some n
  | c :: r => if isDg c then numF (min (10 * n + (c.toNat - 48)) 65537) r else none
def hexF (x : Nat) : List UInt8 → Option Nat
  | [] => some x
  | c :: r => if hxV (c.toNat : Int) < 0 then none else hexF (16 * x + (hxV (c.toNat : Int)).toNat) r
def tlF (n : Nat) (b : List UInt8) : Nat × Nat := if b.length < 1 ∨ 16 < b.length then (0, 0) else match hexF 0 b with | none => (0, 0) | some x => (n, x)
/-- What a word says: how many ticks, and their mask. -/
def wdF (d : ByteArray) : Nat × Nat := if upF d 42 0 < d.size then (match numF 0 (d.data.toList.take (upF d 42 0)) with | none => (0, 0) | some n => tlF n (d.data.toList.drop (upF d 42 0 + 1))) else tlF 1 d.data.toList
def wdV (p : Nat × Nat) : Value := .tuple #[.int .i64 (p.1 : Int), .int .u64 (p.2 : Int)]
theorem at_drop (d : ByteArray) (i : Nat) (h : i < d.size) : d.data.toList.drop i = d[i] :: d.data.toList.drop (i + 1) := by
  rw [List.drop_eq_getElem_cons (by simpa using h)]
  simp [ByteArray.getElem_eq_getElem_data]
theorem at_take (d : ByteArray) (s i : Nat) (h : i < s) (hs : s ≤ d.size) : (d.data.toList.take s).drop i = d[i] :: (d.data.toList.take s).drop (i + 1) := by
  rw [List.drop_eq_getElem_cons (by simp; omega)]
  simp [ByteArray.getElem_eq_getElem_data]
theorem wu64 (z : Int) (h : 0 ≤ z ∧ z < 18446744073709551616) : IntKind.u64.wrap z = z := by
  simp [IntKind.wrap, IntKind.bits, IntKind.signed]
  omega
theorem hex_room {x i : Nat} {v : Int} (hx : x < 16 ^ i) (hi : i < 16) (hv : 0 ≤ v ∧ v ≤ 15) : 16 * x + v.toNat < 16 ^ (i + 1) ∧ (16 * (x : Int)) < 18446744073709551616 ∧ 16 * (x : Int) + v < 18446744073709551616 := by
  have h1 : (16 : Nat) ^ (i + 1) ≤ 16 ^ 16 := Nat.pow_le_pow_right (by decide) (by omega)
  have h2 : (16 : Nat) ^ 16 = 18446744073709551616 := by decide
  have h3 : (16 : Nat) ^ (i + 1) = 16 ^ i * 16 := Nat.pow_succ ..
  omega
set_option maxRecDepth 100000 in
set_option maxHeartbeats 2000000 in
theorem word_any (d : ByteArray) (w : World) (hs : d.size ≤ 4611686018427387904) : Calls Tryd.prog 19 #[.string d] w fun e w' => e = .returned (wdV (wdF d)) ∧ w' = w := by
  have k28 := fun (X : World) => upTo_any d 42 0 X hs (by decide)
  have h36 := fun (c : UInt8) (X : World) => hexed_any (c.toNat : Int) X (by have := c.toNat_lt; omega)
  have hA : Hid (∀ p, wdF d = p → True) := fun _ _ => trivial
  obtain ⟨A, hW⟩ : ∃ A, wdF d = A := ⟨_, rfl⟩
  rw [hW]
  unfold wdF at hW
  have hst : upF d 42 0 ≤ d.size := upF_le d 42 _ 0 (Nat.le_refl _) (by omega)
  generalize upF d 42 0 = st at *
  by_cases hlt : st < d.size
  case pos =>
    rw [if_pos hlt] at hW
    have t1 : (st : Int) < (d.size : Int) := by omega
    have hW' : Hid _ := hW
    clear hW hA
    go_enter Tryd.func19, Tryd.ntmps19
    go_wp2_with fail
    go_at_call 28
    refine Calls.mono (k28 _) ?_
    rintro e w1 ⟨rfl, hw⟩
    have hw' := hw.symm
    clear hw
    subst hw'
    go_wp2_with fail
    go_loopw [4, 7] (fun n i wr => ∃ (k m : Nat), k ≤ st ∧ m ≤ 65537 ∧ n = .int .i64 (m : Int) ∧ i = .int .i64 (k : Int) ∧ Hid ((match numF m ((d.data.toList.take st).drop k) with | none => (0, 0) | some n => tlF n (d.data.toList.drop (st + 1))) = A) ∧ wr = w) (fun _ i _ => st - (intOf i).toNat)
    case atStart => exact ⟨0, 0, by omega, by omega, rfl, rfl, hW', rfl⟩
    case round =>
      clear hW'
      obtain ⟨k, m, hk, hm, rfl, rfl, hq, hwr⟩ := hrel
      have hwr' := hwr.symm
      clear hwr
      subst hwr'
      by_cases hlk : k < st
      case pos =>
        have s1 : (k : Int) < (st : Int) := by omega
        have s2 : (k : Int) < (d.size : Int) := by omega
        have s3 : (0 : Int) ≤ (k : Int) := by omega
        have hq2 := hq.out
        rw [at_take d st k hlk hst] at hq2
        unfold numF at hq2
        have hcl := d[k].toNat_lt
        by_cases hdg : isDg d[k]
        case neg =>
          rw [if_neg hdg] at hq2
          have hA0 : Hid ((0, 0) = A) := hq2
          clear hq hq2
          by_cases c1 : 48 ≤ d[k].toNat
          · have c2 : (57 : Int) < (d[k].toNat : Int) := by unfold isDg at hdg; omega
            have c3 : ¬ (d[k].toNat : Int) < 48 := by omega
            clear hdg
            go_wp2_with fail
            go_ret2
            exact ⟨by rw [← hA0.out]; rfl, rfl⟩
          · have c3 : (d[k].toNat : Int) < 48 := by omega
            clear hdg
            go_wp2_with fail
            go_ret2
            exact ⟨by rw [← hA0.out]; rfl, rfl⟩
        rw [if_pos hdg] at hq2
        have c1 : ¬ (d[k].toNat : Int) < 48 := by unfold isDg at hdg; omega
        have c2 : ¬ (57 : Int) < (d[k].toNat : Int) := by unfold isDg at hdg; omega
        obtain ⟨v, hv⟩ : ∃ v : Nat, d[k].toNat = 48 + v := ⟨d[k].toNat - 48, by unfold isDg at hdg; omega⟩
        have hv9 : v ≤ 9 := by unfold isDg at hdg; omega
        have hmn : min (10 * m + (d[k].toNat - 48)) 65537 = min (10 * m + v) 65537 := by rw [hv]; congr 2; omega
        rw [hmn] at hq2
        have q1 : IntKind.u8.wrap ((d[k].toNat : Int) - 48) = (v : Int) := (w8 _ (by omega)).trans (by omega)
        have q2 : IntKind.i64.wrap (10 * (m : Int)) = 10 * (m : Int) := wrap64 _ (by omega)
        have q3 : IntKind.i64.wrap (v : Int) = (v : Int) := wrap64 _ (by omega)
        have q4 : IntKind.i64.wrap (10 * (m : Int) + (v : Int)) = 10 * (m : Int) + (v : Int) := wrap64 _ (by omega)
        obtain ⟨m', hm'⟩ : ∃ m' : Nat, min (10 * m + v) 65537 = m' := ⟨_, rfl⟩
        have q5 : min (10 * (m : Int) + (v : Int)) 65537 = (m' : Int) := by omega
        have hm6 : m' ≤ 65537 := by omega
        rw [hm'] at hq2
        have hq3 : Hid _ := hq2
        clear hq hq2 hdg hmn hm' hv
        go_wp2_with fail
        go_roundw
        case rel => exact ⟨k + 1, m', by omega, hm6, rfl, by go_num, hq3, by first | rfl | trivial⟩
        case measure => simp [intOf]; omega
      case neg =>
        obtain rfl : k = st := by omega
        have hq2 := hq.out
        rw [List.drop_eq_nil_of_le (by rw [List.length_take]; exact Nat.min_le_left _ _)] at hq2
        unfold numF at hq2
        obtain ⟨B, hBl, hsl⟩ : ∃ B : ByteArray, d.data.toList.drop (k + 1) = B.data.toList ∧ ∀ X : World, Sem.run Tryd.prog (Instr.slice 9 (.string d) (some (.int .i64 ((k : Int) + 1))) none none) X = .ok (.string B) X := by
          refine ⟨⟨(d.data.toList.drop (k + 1)).toArray⟩, by simp, fun X => ?_⟩
          have hp : (d.data.toList.take k).length = k := by rw [List.length_take, ← Lib.size_eq]; omega
          have := sl_suf d d[k] (d.data.toList.take k) (d.data.toList.drop (k + 1)) (by rw [← at_drop d k hlt, List.take_append_drop]) X
          rw [hp] at this
          exact this
        have hBs : B.size ≤ 4611686018427387904 := by
          have := congrArg List.length hBl
          rw [List.length_drop, ← Lib.size_eq, ← Lib.size_eq] at this
          omega
        rw [hBl] at hq2
        have s1 : ¬ (k : Int) < (k : Int) := by omega
        have s4 : IntKind.i64.wrap ((k : Int) + 1) = (k : Int) + 1 := wrap64 _ (by omega)
        have hT : Hid (tlF m B.data.toList = A) := hq2
        clear hq hq2 hBl hlk
        by_cases b1 : (B).size < 1
        case pos =>
          have c1 : (((B).size : Nat) : Int) < 1 := by omega
          have hA0 : Hid ((0, 0) = A) := by show _ = _; rw [← hT.out]; unfold tlF; rw [if_pos (.inl (by rw [← Lib.size_eq]; exact b1))]
          clear hT b1
          go_wp2_with fail
          go_ret2
          exact ⟨by rw [← hA0.out]; rfl, rfl⟩
        case neg =>
          have c1 : ¬ (((B).size : Nat) : Int) < 1 := by omega
          by_cases b2 : 16 < (B).size
          case pos =>
            have c2 : (16 : Int) < (((B).size : Nat) : Int) := by omega
            have hA0 : Hid ((0, 0) = A) := by show _ = _; rw [← hT.out]; unfold tlF; rw [if_pos (.inr (by rw [← Lib.size_eq]; exact b2))]
            clear hT b1 b2
            go_wp2_with fail
            go_ret2
            exact ⟨by rw [← hA0.out]; rfl, rfl⟩
          case neg =>
            have c2 : ¬ (16 : Int) < (((B).size : Nat) : Int) := by omega
            have hX : Hid ((match hexF 0 ((B).data.toList.drop 0) with | none => (0, 0) | some x => (m, x)) = A) := by
              show _ = _
              rw [← hT.out]; unfold tlF
              rw [if_neg (by rw [← Lib.size_eq]; omega), List.drop_zero]
            clear hT
            go_wp2_with fail
            go_loopw [8, 9] (fun x i wr => ∃ (kk mm : Nat), kk ≤ (B).size ∧ mm < 16 ^ kk ∧ x = .int .u64 (mm : Int) ∧ i = .int .i64 (kk : Int) ∧ Hid ((match hexF mm ((B).data.toList.drop kk) with | none => (0, 0) | some x => (m, x)) = A) ∧ wr = w) (fun _ i _ => (B).size - (intOf i).toNat)
            case atStart => exact ⟨0, 0, by omega, by decide, rfl, rfl, hX, rfl⟩
            case round =>
              clear hX
              obtain ⟨k2, m2, hk2, hm2, rfl, rfl, hq, hwr⟩ := hrel
              have hwr' := hwr.symm
              clear hwr
              subst hwr'
              by_cases hlk2 : k2 < (B).size
              case pos =>
                have r1 : (k2 : Int) < (((B).size : Nat) : Int) := by omega
                have r3 : (0 : Int) ≤ (k2 : Int) := by omega
                have hq2 := hq.out
                rw [at_drop (B) k2 hlk2] at hq2
                unfold hexF at hq2
                have k36 := h36 (B)[k2]
                have htop := hxV_top ((B)[k2].toNat : Int)
                generalize hxV ((B)[k2].toNat : Int) = v at *
                by_cases hneg : v < 0
                case pos =>
                  rw [if_pos hneg] at hq2
                  have hA0 : Hid ((0, 0) = A) := hq2
                  clear hq hq2
                  go_wp2_with fail
                  go_at_call 36
                  refine Calls.mono (k36 _) ?_
                  rintro e w1 ⟨rfl, hw⟩
                  have hw' := hw.symm
                  clear hw
                  subst hw'
                  go_wp2_with fail
                  go_ret2
                  exact ⟨by rw [← hA0.out]; rfl, rfl⟩
                case neg =>
                  rw [if_neg hneg] at hq2
                  obtain ⟨y1, y2, y3⟩ := hex_room (x := m2) (i := k2) (v := v) hm2 (by omega) ⟨by omega, htop.1⟩
                  obtain ⟨m3, hm3⟩ : ∃ m3 : Nat, 16 * m2 + v.toNat = m3 := ⟨_, rfl⟩
                  rw [hm3] at hq2 y1
                  have q1 : IntKind.u64.wrap (16 * (m2 : Int)) = 16 * (m2 : Int) := wu64 _ (by omega)
                  have q2 : IntKind.u64.wrap v = v := wu64 _ (by omega)
                  have q3 : IntKind.u64.wrap (16 * (m2 : Int) + v) = (m3 : Int) := (wu64 _ (by omega)).trans (by omega)
                  have hq3 : Hid _ := hq2
                  have y1' : Hid _ := y1
                  clear hq hq2 hm3 y1 y2 y3 hm2
                  go_wp2_with fail
                  go_at_call 36
                  refine Calls.mono (k36 _) ?_
                  rintro e w1 ⟨rfl, hw⟩
                  have hw' := hw.symm
                  clear hw
                  subst hw'
                  go_wp2_with fail
                  go_roundw
                  case rel => exact ⟨k2 + 1, m3, by omega, y1'.out, rfl, by go_num, hq3, by first | rfl | trivial⟩
                  case measure => simp [intOf]; omega
              case neg =>
                have r1 : ¬ (k2 : Int) < (((B).size : Nat) : Int) := by omega
                have hq2 := hq.out
                rw [List.drop_eq_nil_of_le (by rw [← Lib.size_eq]; omega)] at hq2
                have hA0 : Hid ((m, m2) = A) := hq2
                clear hq hq2
                go_wp2_with fail
                go_ret2
                exact ⟨by rw [← hA0.out]; rfl, rfl⟩
  case neg =>
    rw [if_neg hlt] at hW
    have t1 : ¬ (st : Int) < (d.size : Int) := by omega
    have hT : Hid (tlF 1 d.data.toList = A) := hW
    clear hW hA
    go_enter Tryd.func19, Tryd.ntmps19
    go_wp2_with fail
    go_at_call 28
    refine Calls.mono (k28 _) ?_
    rintro e w1 ⟨rfl, hw⟩
    have hw' := hw.symm
    clear hw
    subst hw'
    by_cases b1 : (d).size < 1
    case pos =>
      have c1 : (((d).size : Nat) : Int) < 1 := by omega
      have hA0 : Hid ((0, 0) = A) := by show _ = _; rw [← hT.out]; unfold tlF; rw [if_pos (.inl (by rw [← Lib.size_eq]; exact b1))]
      clear hT b1
      go_wp2_with fail
      go_ret2
      exact ⟨by rw [← hA0.out]; rfl, rfl⟩
    case neg =>
      have c1 : ¬ (((d).size : Nat) : Int) < 1 := by omega
      by_cases b2 : 16 < (d).size
      case pos =>
        have c2 : (16 : Int) < (((d).size : Nat) : Int) := by omega
        have hA0 : Hid ((0, 0) = A) := by show _ = _; rw [← hT.out]; unfold tlF; rw [if_pos (.inr (by rw [← Lib.size_eq]; exact b2))]
        clear hT b1 b2
        go_wp2_with fail
        go_ret2
        exact ⟨by rw [← hA0.out]; rfl, rfl⟩
      case neg =>
        have c2 : ¬ (16 : Int) < (((d).size : Nat) : Int) := by omega
        have hX : Hid ((match hexF 0 ((d).data.toList.drop 0) with | none => (0, 0) | some x => (1, x)) = A) := by
          show _ = _
          rw [← hT.out]; unfold tlF
          rw [if_neg (by rw [← Lib.size_eq]; omega), List.drop_zero]
        clear hT
        go_wp2_with fail
        go_loopw [8, 9] (fun x i wr => ∃ (kk mm : Nat), kk ≤ (d).size ∧ mm < 16 ^ kk ∧ x = .int .u64 (mm : Int) ∧ i = .int .i64 (kk : Int) ∧ Hid ((match hexF mm ((d).data.toList.drop kk) with | none => (0, 0) | some x => (1, x)) = A) ∧ wr = w) (fun _ i _ => (d).size - (intOf i).toNat)
        case atStart => exact ⟨0, 0, by omega, by decide, rfl, rfl, hX, rfl⟩
        case round =>
          clear hX
          obtain ⟨k2, m2, hk2, hm2, rfl, rfl, hq, hwr⟩ := hrel
          have hwr' := hwr.symm
          clear hwr
          subst hwr'
          by_cases hlk2 : k2 < (d).size
          case pos =>
            have r1 : (k2 : Int) < (((d).size : Nat) : Int) := by omega
            have r3 : (0 : Int) ≤ (k2 : Int) := by omega
            have hq2 := hq.out
            rw [at_drop (d) k2 hlk2] at hq2
            unfold hexF at hq2
            have k36 := h36 (d)[k2]
            have htop := hxV_top ((d)[k2].toNat : Int)
            generalize hxV ((d)[k2].toNat : Int) = v at *
            by_cases hneg : v < 0
            case pos =>
              rw [if_pos hneg] at hq2
              have hA0 : Hid ((0, 0) = A) := hq2
              clear hq hq2
              go_wp2_with fail
              go_at_call 36
              refine Calls.mono (k36 _) ?_
              rintro e w1 ⟨rfl, hw⟩
              have hw' := hw.symm
              clear hw
              subst hw'
              go_wp2_with fail
              go_ret2
              exact ⟨by rw [← hA0.out]; rfl, rfl⟩
            case neg =>
              rw [if_neg hneg] at hq2
              obtain ⟨y1, y2, y3⟩ := hex_room (x := m2) (i := k2) (v := v) hm2 (by omega) ⟨by omega, htop.1⟩
              obtain ⟨m3, hm3⟩ : ∃ m3 : Nat, 16 * m2 + v.toNat = m3 := ⟨_, rfl⟩
              rw [hm3] at hq2 y1
              have q1 : IntKind.u64.wrap (16 * (m2 : Int)) = 16 * (m2 : Int) := wu64 _ (by omega)
              have q2 : IntKind.u64.wrap v = v := wu64 _ (by omega)
              have q3 : IntKind.u64.wrap (16 * (m2 : Int) + v) = (m3 : Int) := (wu64 _ (by omega)).trans (by omega)
              have hq3 : Hid _ := hq2
              have y1' : Hid _ := y1
              clear hq hq2 hm3 y1 y2 y3 hm2
              go_wp2_with fail
              go_at_call 36
              refine Calls.mono (k36 _) ?_
              rintro e w1 ⟨rfl, hw⟩
              have hw' := hw.symm
              clear hw
              subst hw'
              go_wp2_with fail
              go_roundw
              case rel => exact ⟨k2 + 1, m3, by omega, y1'.out, rfl, by go_num, hq3, by first | rfl | trivial⟩
              case measure => simp [intOf]; omega
          case neg =>
            have r1 : ¬ (k2 : Int) < (((d).size : Nat) : Int) := by omega
            have hq2 := hq.out
            rw [List.drop_eq_nil_of_le (by rw [← Lib.size_eq]; omega)] at hq2
            have hA0 : Hid ((1, m2) = A) := hq2
            clear hq hq2
            go_wp2_with fail
            go_ret2
            exact ⟨by rw [← hA0.out]; rfl, rfl⟩
end Go.Proofs.YtcajejfddfiidaaDoor
