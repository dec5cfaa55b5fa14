import Derived.Test.YtcajejfddfiidaaDoorHas
namespace Go.Proofs.YtcajejfddfiidaaDoor
open Go.RowKit
set_option linter.unusedVariables false
set_option linter.unusedSimpArgs false

/-- The place of a byte from there on, or the length. -/
def upF (d : ByteArray) (c : UInt8) (i : Nat) : Nat := if h : i < d.size then (if d[i] = c then i else upF d c (i + 1)) else i
termination_by d.size - i
theorem upF_end (d : ByteArray) (c : UInt8) (i : Nat) (h : ¬ i < d.size) : upF d c i = i := by unfold upF; rw [dif_neg h]
theorem upF_hit (d : ByteArray) (c : UInt8) (i : Nat) (h : i < d.size) (e : d[i] = c) : upF d c i = i := by unfold upF; rw [dif_pos h, if_pos e]
theorem upF_next (d : ByteArray) (c : UInt8) (i : Nat) (h : i < d.size) (e : ¬ d[i] = c) : upF d c i = upF d c (i + 1) := by
  conv => lhs; unfold upF
  rw [dif_pos h, if_neg e]
set_option maxRecDepth 100000 in
set_option maxHeartbeats 2000000 in
theorem upTo_any (d : ByteArray) (c : UInt8) (i : Nat) (w : World) (hs : d.size ≤ 4611686018427387904) (hi : i ≤ 4611686018427387904) : Calls Tryd.prog 28 #[.string d, .int .i64 (i : Int), .int .u8 (c.toNat : Int)] w fun e w' => e = .returned (.int .i64 ((upF d c i : Nat) : Int)) ∧ w' = w := by
  obtain ⟨A, hA⟩ : ∃ A, upF d c i = A := ⟨_, rfl⟩
  have hA0' : Hid (upF d c i = A) := hA
  rw [hA]
  clear hA
  go_enter Tryd.func28, Tryd.ntmps28
  go_wp2_with fail
  go_loopw [1] (fun x wr => ∃ k : Nat, k ≤ 4611686018427387904 ∧ x = .int .i64 (k : Int) ∧ Hid (upF d c k = A) ∧ wr = w) (fun x _ => d.size - (intOf x).toNat)
  case atStart => exact ⟨i, hi, rfl, hA0', rfl⟩
  case round =>
    obtain ⟨k, hk, rfl, hq, rfl⟩ := hrel
    by_cases hlt : k < d.size
    case neg =>
      have t1 : ¬ (k : Int) < (d.size : Int) := by omega
      have hf : Hid (A = k) := by show _ = _; rw [← hq.out, upF_end d c k hlt]
      clear hq
      go_wp2_with fail
      go_ret
      exact ⟨by rw [hf.out]; rfl, rfl⟩
    have t1 : (k : Int) < (d.size : Int) := by omega
    have t2 : (0 : Int) ≤ (k : Int) := by omega
    by_cases he : d[k] = c
    case pos =>
      have hf : Hid (A = k) := by show _ = _; rw [← hq.out, upF_hit d c k hlt he]
      have b1 : ((d[k].toNat : Int) != (c.toNat : Int)) = false := by rw [he]; simp
      have b2 : d[k].toNat = c.toNat := by rw [he]
      clear hq he
      go_wp2_with fail
      go_ret
      exact ⟨by rw [hf.out]; rfl, rfl⟩
    case neg =>
      have hf : Hid (upF d c (k + 1) = A) := by show _ = _; rw [← hq.out, ← upF_next d c k hlt he]
      have b2 : ¬ d[k].toNat = c.toNat := fun e => he (UInt8.toNat_inj.1 e)
      have b1 : ((d[k].toNat : Int) != (c.toNat : Int)) = true := by simp; omega
      have b3 : ¬ (d[k].toNat : Int) = (c.toNat : Int) := by omega
      clear hq he
      go_wp2_with fail
      go_roundw
      case rel => exact ⟨k + 1, by omega, by go_num, hf, trivial⟩
      case measure => simp [intOf]; omega
/-- The digits from there on: their number (-1: above a million), and the place behind them. -/
def dgF (d : ByteArray) (k n : Nat) : Int × Nat := if h : k < d.size then (if 48 ≤ d[k].toNat ∧ d[k].toNat ≤ 57 then (if 1000000 < 10 * n + (d[k].toNat - 48) then (-1, k) else dgF d (k + 1) (10 * n + (d[k].toNat - 48))) else ((n : Int), k)) else ((n : Int), k)
termination_by d.size - k
def digF (d : ByteArray) (i : Nat) : Int × Nat := if (dgF d i 0).2 = i then (-1, i) else dgF d i 0
theorem dgF_end (d : ByteArray) (k n : Nat) (h : ¬ k < d.size) : dgF d k n = ((n : Int), k) := by unfold dgF; rw [dif_neg h]
theorem dgF_stop (d : ByteArray) (k n : Nat) (h : k < d.size) (e : ¬ (48 ≤ d[k].toNat ∧ d[k].toNat ≤ 57)) : dgF d k n = ((n : Int), k) := by unfold dgF; rw [dif_pos h, if_neg e]
theorem dgF_big (d : ByteArray) (k n : Nat) (h : k < d.size) (e : 48 ≤ d[k].toNat ∧ d[k].toNat ≤ 57) (b : 1000000 < 10 * n + (d[k].toNat - 48)) : dgF d k n = (-1, k) := by unfold dgF; rw [dif_pos h, if_pos e, if_pos b]
theorem dgF_next (d : ByteArray) (k n : Nat) (h : k < d.size) (e : 48 ≤ d[k].toNat ∧ d[k].toNat ≤ 57) (b : ¬ 1000000 < 10 * n + (d[k].toNat - 48)) : dgF d k n = dgF d (k + 1) (10 * n + (d[k].toNat - 48)) := by
  conv => lhs; unfold dgF
  rw [dif_pos h, if_pos e, if_neg b]
theorem wrap8 (z : Int) (h : 0 ≤ z ∧ z ≤ 255) : IntKind.u8.wrap z = z := by
  unfold IntKind.wrap
  simp [IntKind.bits, IntKind.signed]
  omega
set_option maxRecDepth 100000 in
set_option maxHeartbeats 2000000 in
theorem digits_any (d : ByteArray) (i : Nat) (w : World) (hs : d.size ≤ 4611686018427387904) (hi : i ≤ 4611686018427387904) : Calls Tryd.prog 29 #[.string d, .int .i64 (i : Int)] w fun e w' => e = .returned (.tuple #[.int .i64 (digF d i).1, .int .i64 (((digF d i).2 : Nat) : Int)]) ∧ w' = w := by
  obtain ⟨A, hA⟩ : ∃ A, dgF d i 0 = A := ⟨_, rfl⟩
  have hA0 : Hid (dgF d i 0 = A) := hA
  have hG : Hid (digF d i = if A.2 = i then (-1, i) else A) := by show _ = _; unfold digF; rw [hA]
  generalize digF d i = G at *
  clear hA
  go_enter Tryd.func29, Tryd.ntmps29
  go_wp2_with fail
  go_loopw [6, 7] (fun y x wr => ∃ n k : Nat, k ≤ 4611686018427387904 ∧ i ≤ k ∧ n ≤ 1000000 ∧ (k = i → n = 0) ∧ y = .int .i64 (n : Int) ∧ x = .int .i64 (k : Int) ∧ Hid (dgF d k n = A) ∧ wr = w) (fun _ x _ => d.size - (intOf x).toNat)
  case atStart => exact ⟨0, i, hi, by omega, by omega, fun _ => rfl, rfl, rfl, hA0, rfl⟩
  case round =>
    obtain ⟨n, k, hk, hik, hn, hz, rfl, rfl, hq, rfl⟩ := hrel
    by_cases hlt : k < d.size
    case neg =>
      have t1 : ¬ (k : Int) < (d.size : Int) := by omega
      have hA1 : A = ((n : Int), k) := by rw [← hq.out, dgF_end d k n hlt]
      subst hA1
      clear hq hA0
      by_cases hki : k = i
      case pos =>
        have hG2 : G = ((-1 : Int), k) := by rw [hG.out]; exact (if_pos hki).trans (by rw [hki])
        subst hG2
        subst hki
        clear hG
        go_wp2_with fail
        go_ret2
        exact ⟨rfl, rfl⟩
      case neg =>
        have hG2 : G = ((n : Int), k) := by rw [hG.out]; exact if_neg hki
        subst hG2
        have d1 : ((k : Int) == (i : Int)) = false := by simp; omega
        have d2 : ¬ (k : Int) = (i : Int) := by omega
        clear hG
        go_wp2_with fail
        go_ret2
        exact ⟨rfl, rfl⟩
    have t1 : (k : Int) < (d.size : Int) := by omega
    have t2 : (0 : Int) ≤ (k : Int) := by omega
    by_cases he : 48 ≤ d[k].toNat ∧ d[k].toNat ≤ 57
    case neg =>
      have hA1 : A = ((n : Int), k) := by rw [← hq.out, dgF_stop d k n hlt he]
      subst hA1
      clear hq hA0
      by_cases h4 : 48 ≤ d[k].toNat
      case neg =>
        have c1 : ¬ (48 : Int) ≤ (d[k].toNat : Int) := by omega
        by_cases hki : k = i
        case pos =>
          have hG2 : G = ((-1 : Int), k) := by rw [hG.out]; exact (if_pos hki).trans (by rw [hki])
          subst hG2
          subst hki
          clear hG
          go_wp2_with fail
          go_ret2
          exact ⟨rfl, rfl⟩
        case neg =>
          have hG2 : G = ((n : Int), k) := by rw [hG.out]; exact if_neg hki
          subst hG2
          have d1 : ((k : Int) == (i : Int)) = false := by simp; omega
          have d2 : ¬ (k : Int) = (i : Int) := by omega
          clear hG
          go_wp2_with fail
          go_ret2
          exact ⟨rfl, rfl⟩
      case pos =>
        have c1 : (48 : Int) ≤ (d[k].toNat : Int) := by omega
        have c2 : ¬ (d[k].toNat : Int) ≤ 57 := by omega
        by_cases hki : k = i
        case pos =>
          have hG2 : G = ((-1 : Int), k) := by rw [hG.out]; exact (if_pos hki).trans (by rw [hki])
          subst hG2
          subst hki
          clear hG
          go_wp2_with fail
          go_ret2
          exact ⟨rfl, rfl⟩
        case neg =>
          have hG2 : G = ((n : Int), k) := by rw [hG.out]; exact if_neg hki
          subst hG2
          have d1 : ((k : Int) == (i : Int)) = false := by simp; omega
          have d2 : ¬ (k : Int) = (i : Int) := by omega
          clear hG
          go_wp2_with fail
          go_ret2
          exact ⟨rfl, rfl⟩
    case pos =>
      have c1 : (48 : Int) ≤ (d[k].toNat : Int) := by omega
      have c2 : (d[k].toNat : Int) ≤ 57 := by omega
      have w1 : IntKind.u8.wrap ((d[k].toNat : Int) - 48) = (d[k].toNat : Int) - 48 := wrap8 _ (by omega)
      by_cases hb : 1000000 < 10 * n + (d[k].toNat - 48)
      case pos =>
        have c3 : (1000000 : Int) < 10 * (n : Int) + ((d[k].toNat : Int) - 48) := by omega
        have hA1 : A = ((-1 : Int), k) := by rw [← hq.out, dgF_big d k n hlt he hb]
        subst hA1
        have hki : ¬ k = i := fun e => by have := hz e; omega
        have hG2 : G = ((-1 : Int), k) := by rw [hG.out]; exact if_neg hki
        subst hG2
        clear hq hA0 hG
        go_wp2_with fail
        go_ret2
        exact ⟨rfl, rfl⟩
      case neg =>
        have c3 : ¬ (1000000 : Int) < 10 * (n : Int) + ((d[k].toNat : Int) - 48) := by omega
        have hf : Hid (dgF d (k + 1) (10 * n + (d[k].toNat - 48)) = A) := by show _ = _; rw [← hq.out, ← dgF_next d k n hlt he hb]
        clear hq hA0
        go_wp2_with fail
        go_roundw
        case rel => exact ⟨10 * n + (d[k].toNat - 48), k + 1, by omega, by omega, by omega, fun e => by omega, by go_num, by go_num, hf, trivial⟩
        case measure => simp [intOf]; omega
end Go.Proofs.YtcajejfddfiidaaDoor
