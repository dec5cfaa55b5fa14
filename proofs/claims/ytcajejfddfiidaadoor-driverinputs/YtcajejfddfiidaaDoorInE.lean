import Derived.Lib.ConvBytes
import Derived.Lib.Hide
import Derived.Lib.Strings
import Derived.Lib.Walk
import Derived.Laws.Strings3
import Derived.Laws.Closers25b
import Derived.WalkKit
import Derived.BigCall
import Derived.BigGuard
import Derived.Test.YtcajejfddfiidaaDoorHas
namespace Go.Proofs.YtcajejfddfiidaaDoor
open Go.RowKit
set_option linter.unusedVariables false
set_option linter.unusedSimpArgs false


/-- A number of base 10 below 2^31. -/
def p10F (n : Nat) : List UInt8 → Option Nat
  | [] => some n
  | c :: r => if 48 ≤ c.toNat ∧ c.toNat ≤ 57 then (if 2147483647 < 10 * n + (c.toNat - 48) then none else p10F (10 * n + (c.toNat - 48)) r) else none
/-- What internal/strconv.ParseUint answers: a number, or an error. -/
def PuP (o : Option Nat) (e : Ending) : Prop := match o with
  | some n => e = .returned (.tuple #[.int .u64 (n : Int), .nilIface])
  | none => ∃ x k : Int, e = .returned (.tuple #[.int .u64 x, .iface 102 (.int .i64 k)]) ∧ (k = 1 ∨ k = 2)
theorem bw_below (w : World) (s : ByteArray) : Below w.heap.size w (Lib.bytesWorld w 5 s) := ⟨rfl, rfl, rfl, by rw [Lib.bytesWorld_size]; omega, fun k hk => Lib.bytesWorld_at_old w 5 s k hk⟩
set_option maxRecDepth 100000 in
set_option maxHeartbeats 8000000 in
theorem lower_any (c : Int) (w : World) : Calls Tryd.prog 60 #[.int .u8 c] w fun e w' => e = .returned (.int .u8 (bits .or .u8 c 32)) ∧ w' = w := by
  go_enter Tryd.func60, Tryd.ntmps60
  go_wp2
  go_ret
  exact ⟨rfl, rfl⟩
set_option maxRecDepth 100000 in
set_option maxHeartbeats 8000000 in
theorem pu10_any (t : ByteArray) (w : World) (hne : t.size ≠ 0) (hmax : t.size ≤ 9223372036854775806) :
    Calls Tryd.prog 49 #[.string t, .int .i64 10, .int .i64 31] w fun e w' => PuP (p10F 0 t.data.toList) e ∧ Below w.heap.size w w' := by
  have hemp : t.toList.isEmpty = false := by
    rw [← decide_eq_emptyBytes]
    exact decide_eq_false (fun h => hne (by rw [h]; rfl))
  have hcv := Lib.run_convert_string_bytes (P := Tryd.prog) w 9 55 5 t (u := .string) Tryd.underlying9 Tryd.underlying55 Tryd.underlying5
  have hB : ∀ j, j < t.size → (Lib.bytesWorld w 5 t).cell? ⟨w.heap.size, j, none⟩ = some (.int .u8 (t.data.toList.getD j 0).toNat) := fun j hj => Lib.bytesWorld_cell w 5 t j hj
  have hbel := bw_below w t
  obtain ⟨W1, hW1⟩ : ∃ W1, W1 = Lib.bytesWorld w 5 t := ⟨_, rfl⟩
  rw [← hW1] at hcv hB hbel
  clear hW1
  obtain ⟨bs, hL⟩ : ∃ bs, bs = t.data.toList := ⟨_, rfl⟩
  have hLn : bs.length = t.size := by rw [hL, Lib.size_eq]
  rw [← hL] at hB ⊢
  clear hL
  have hbel' : Hid (Below w.heap.size w W1) := hbel
  clear hbel
  obtain ⟨o, ho⟩ : ∃ o, p10F 0 bs = o := ⟨_, rfl⟩
  rw [ho]
  have ho' : Hid (p10F 0 bs = o) := ho
  clear ho
  go_enter Tryd.func49, Tryd.ntmps49
  go_wp2
  go_loop [12, 13, 101] (fun vu vn vi => ∃ (k acc : Nat) (a : Int), vu = .bool false ∧ vn = .int .u64 a ∧ vi = .int .i64 k ∧ k ≤ t.size ∧ Hid (a = (acc : Int) ∧ acc ≤ 2147483647 ∧ p10F acc (bs.drop k) = o))
    (fun _ _ vi => t.size - (intOf vi).toNat)
  case atStart => exact ⟨0, 0, 0, rfl, rfl, rfl, by omega, rfl, by omega, ho'.out⟩
  case round =>
    clear ho'
    obtain ⟨k, acc, a, rfl, rfl, rfl, hk, hh⟩ := hrel
    obtain ⟨ha, hacc, hdec⟩ := hh.out
    clear hh
    have a0 : 0 ≤ a := by omega
    have a1 : a < 1844674407370955162 := by omega
    have a2 : a ≤ 2147483647 := by omega
    by_cases hkn : k < t.size
    · have hc := hB k hkn
      have hdrop : bs.drop k = bs[k]'(by omega) :: bs.drop (k + 1) := List.drop_eq_getElem_cons (by omega)
      have hget : bs.getD k 0 = bs[k]'(by omega) := by simp [List.getD, List.getElem?_eq_getElem (show k < bs.length by omega)]
      rw [hdrop] at hdec
      rw [hget] at hc
      generalize bs[k]'(by omega) = c at hc hdec
      have hc256 : c.toNat < 256 := c.toNat_lt
      clear hB hdrop hget
      unfold p10F at hdec
      by_cases hdig : 48 ≤ c.toNat ∧ c.toNat ≤ 57
      · rw [if_pos hdig] at hdec
        obtain ⟨hd0, hd1⟩ := hdig
        by_cases hov : 2147483647 < 10 * acc + (c.toNat - 48)
        · rw [if_pos hov] at hdec
          have iov : 2147483647 < a * 10 + ((c.toNat : Int) - 48) := by omega
          have iov2 : a * 10 + ((c.toNat : Int) - 48) < 18446744073709551616 := by omega
          have hP : Hid (o = none) := hdec.symm
          clear hacc hov ha hdec
          go_wp2
          go_ret2
          exact ⟨by rw [hP.out]; exact ⟨_, 1, rfl, .inl rfl⟩, hbel'⟩
        · rw [if_neg hov] at hdec
          have HN : Hid (a * 10 + ((c.toNat : Int) - 48) = ((10 * acc + (c.toNat - 48) : Nat) : Int) ∧ 10 * acc + (c.toNat - 48) ≤ 2147483647 ∧ p10F (10 * acc + (c.toNat - 48)) (bs.drop (k + 1)) = o) := Lib.hid ⟨by omega, by omega, hdec⟩
          have iov : a * 10 + ((c.toNat : Int) - 48) ≤ 2147483647 := by omega
          clear hacc hov hdec ha
          go_wp2
          refine ⟨⟨k + 1, 10 * acc + (c.toNat - 48), a * 10 + ((c.toNat : Int) - 48), rfl, (by first | rfl | (congr 1; omega)), (by first | rfl | (congr 1; omega)), by omega, HN⟩, by simp [intOf]; omega⟩
      · rw [if_neg hdig] at hdec
        have hP : Hid (o = none) := hdec.symm
        have hdig' : ¬ (48 ≤ c.toNat ∧ c.toNat ≤ 57) := hdig
        clear hacc ha hdec hdig
        have hv0 := bits_lo_u8 .or (c.toNat : Int) 32
        have hv1 := bits_hi_u8 .or (c.toNat : Int) 32
        have hu0 := bits_lo_u8 .or 95 32
        have hu1 := bits_hi_u8 .or 95 32
        go_wp2_with (go_at_call 60; (with_reducible refine Calls.mono (lower_any _ _) ?_); rintro e w' ⟨rfl, rfl⟩)
        all_goals go_ret2
        all_goals exact ⟨by rw [hP.out]; exact ⟨_, 2, rfl, .inr rfl⟩, hbel'⟩
    · have hkk : k = t.size := by omega
      subst hkk
      rw [List.drop_eq_nil_of_le (by omega)] at hdec
      have hP : Hid (o = some acc) := hdec.symm
      subst ha
      clear hacc a0 a1 a2 hdec
      go_wp2
      go_ret2
      exact ⟨by rw [hP.out]; rfl, hbel'⟩
end Go.Proofs.YtcajejfddfiidaaDoor
