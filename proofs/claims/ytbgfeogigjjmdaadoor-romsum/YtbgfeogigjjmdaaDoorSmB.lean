import Derived.Test.YtbgfeogigjjmdaaDoorSmA
namespace Go.Proofs.YtbgfeogigjjmdaaDoor
open Go.RowKit
set_option linter.unusedVariables false

/-- So many bits, shifted out. -/
def itF : Nat → Nat → Nat
  | 0, s => s
  | n + 1, s => Crc.f1 (itF n s)
theorem itF_eight (s : Nat) : itF 8 s = Crc.f8 s := rfl
theorem itF_lt {s : Nat} (h : s < 4294967296) : ∀ n, itF n s < 4294967296
  | 0 => h
  | n + 1 => Crc.f1_lt (itF_lt h n)

set_option maxRecDepth 100000 in
set_option maxHeartbeats 2000000 in
theorem refSum_any (a : Option Addr) (cap : Nat) (L : List Nat) (w : World) (hn : L.length ≤ 9223372036854775807) (hB : Bs w a L) :
    Calls Tryd.prog 5 #[.slice a L.length cap] w fun e w' => e = .returned (.int .u32 ((Crc.crc L : Nat) : Int)) ∧ w = w' := by
  have hB' : Hid (Bs w a L) := hB
  clear hB
  go_enter Tryd.func5, Tryd.ntmps5
  go_wp2
  go_loopg [3, 4] L.length (fun gk s i wr => ∃ (k S : Nat), k + gk = L.length ∧ i = .int .i64 k ∧ s = .int .u32 (S : Int) ∧ S < 4294967296 ∧ Hid (S = Crc.sumF 4294967295 (L.take k)) ∧ w = wr)
  case atStart => exact ⟨0, 4294967295, by omega, rfl, rfl, by omega, rfl, rfl⟩
  case round =>
    obtain ⟨k, S, hk, rfl, rfl, hS, hE, rfl⟩ := hrel
    by_cases hlt : k < L.length
    · obtain ⟨b, o, rfl, hb, hc⟩ := hB'.out.cell (by omega)
      have e1 := hc k hlt
      have hx := hB'.out.lt k
      have hst : Hid (Crc.sumF 4294967295 (L.take (k + 1)) = Crc.f8 (S ^^^ L.getD k 0)) := by
        show _ = _
        rw [sum_step L _ k hlt, ← hE.out]
      clear hc
      generalize L.getD k 0 = x at e1 hx hst
      have hk0 : (0 : Int) ≤ (k : Int) := by omega
      have hk1 : (k : Int) < (L.length : Int) := by omega
      have hX : S ^^^ x < 4294967296 := Crc.xor_lt hS (by omega)
      have q0 : bits .xor .u32 (S : Int) (x : Int) = ((S ^^^ x : Nat) : Int) := xor_u32 _ _ _ hS (by omega) rfl
      generalize S ^^^ x = X at hX hst q0
      go_wp2
      go_loopg [3, 5] 8 (fun gj s i wr => ∃ (j R : Nat), j + gj = 8 ∧ i = .int .i64 j ∧ s = .int .u32 (R : Int) ∧ R < 4294967296 ∧ Hid (R = itF j X) ∧ w = wr)
      case atStart => exact ⟨0, X, by omega, rfl, rfl, hX, rfl, rfl⟩
      case round =>
        obtain ⟨j, R, hj, rfl, rfl, hR, hF, rfl⟩ := hrel
        by_cases hj8 : j < 8
        · have hj0 : (0 : Int) ≤ (j : Int) := by omega
          have hj1 : (j : Int) < 8 := by omega
          by_cases ho : R % 2 = 1
          · have ho1 : (((R : Int) % 2) == 1) = true := by simp; omega
            have q1 : bits .xor .u32 ((R : Int) / 2) 3988292384 = ((R / 2 ^^^ 3988292384 : Nat) : Int) := by
              rw [show (R : Int) / 2 = ((R / 2 : Nat) : Int) by simp]
              exact xor_u32 (R / 2) 3988292384 _ (by omega) (by decide) rfl
            have hY : R / 2 ^^^ 3988292384 < 4294967296 := Crc.xor_lt (by omega) (by decide)
            have hG : Hid (R / 2 ^^^ 3988292384 = itF (j + 1) X) := by
              show _ = Crc.f1 (itF j X)
              rw [← hF.out, Crc.f1, if_pos ho]; rfl
            generalize R / 2 ^^^ 3988292384 = Y at q1 hY hG
            clear ho
            go_wp2
            go_roundg (7 - j)
            case measure => go_light; omega
            case rel => exact ⟨j + 1, Y, by omega, by go_num, rfl, hY, hG, rfl⟩
          · have ho1 : (((R : Int) % 2) == 1) = false := by simp; omega
            have hG : Hid (R / 2 = itF (j + 1) X) := by
              show _ = Crc.f1 (itF j X)
              rw [← hF.out, Crc.f1, if_neg ho]
            clear ho
            go_wp2
            go_roundg (7 - j)
            case measure => go_light; omega
            case rel => exact ⟨j + 1, R / 2, by omega, by go_num, by go_num, by omega, hG, rfl⟩
        · obtain rfl : j = 8 := by omega
          have hst' : Hid (R = Crc.sumF 4294967295 (L.take (k + 1))) := by
            show _ = _
            rw [hst.out, hF.out, itF_eight]
          clear hst hF
          go_wp2
          go_roundg (L.length - (k + 1))
          case measure => go_light; omega
          case rel => exact ⟨k + 1, R, by omega, by go_num, rfl, hR, hst', rfl⟩
    · obtain rfl : k = L.length := by omega
      have hk1 : ¬ (L.length : Int) < (L.length : Int) := by omega
      have hfin : Hid (Crc.crc L = S ^^^ 4294967295) := by
        show _ = _
        unfold Crc.crc
        rw [hE.out, List.take_length]
      have q1 : bits .xor .u32 (S : Int) 4294967295 = ((S ^^^ 4294967295 : Nat) : Int) := xor_u32 S 4294967295 _ hS (by decide) rfl
      go_wp2
      go_ret
      exact ⟨ret_int (by rw [hfin.out]), rfl⟩
end Go.Proofs.YtbgfeogigjjmdaaDoor
