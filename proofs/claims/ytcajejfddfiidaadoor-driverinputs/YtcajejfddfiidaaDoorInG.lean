import Derived.Test.YtcajejfddfiidaaDoorInA
import Derived.Test.YtcajejfddfiidaaDoorInB
import Derived.Test.YtcajejfddfiidaaDoorInE
namespace Go.Proofs.YtcajejfddfiidaaDoor
open Go.RowKit
set_option linter.unusedVariables false
set_option linter.unusedSimpArgs false


theorem hx_low256 : ∀ c : Fin 256, (48 ≤ c.val ∧ c.val ≤ 57 → hxV (c.val : Int) = (c.val : Int) - 48) ∧ (¬ (48 ≤ c.val ∧ c.val ≤ 57) → 97 ≤ bits .or .u8 (c.val : Int) 32 → bits .or .u8 (c.val : Int) 32 ≤ 102 → hxV (c.val : Int) = bits .or .u8 (c.val : Int) 32 - 97 + 10) ∧ (¬ (48 ≤ c.val ∧ c.val ≤ 57) → ¬ (97 ≤ bits .or .u8 (c.val : Int) 32 ∧ bits .or .u8 (c.val : Int) 32 ≤ 102) → hxV (c.val : Int) = -1) := by decide +kernel
theorem hx_low (c : UInt8) : (48 ≤ c.toNat ∧ c.toNat ≤ 57 → hxV (c.toNat : Int) = (c.toNat : Int) - 48) ∧ (¬ (48 ≤ c.toNat ∧ c.toNat ≤ 57) → 97 ≤ bits .or .u8 (c.toNat : Int) 32 → bits .or .u8 (c.toNat : Int) 32 ≤ 102 → hxV (c.toNat : Int) = bits .or .u8 (c.toNat : Int) 32 - 97 + 10) ∧ (¬ (48 ≤ c.toNat ∧ c.toNat ≤ 57) → ¬ (97 ≤ bits .or .u8 (c.toNat : Int) 32 ∧ bits .or .u8 (c.toNat : Int) 32 ≤ 102) → hxV (c.toNat : Int) = -1) := hx_low256 ⟨c.toNat, c.toNat_lt⟩
set_option maxRecDepth 100000 in
set_option maxHeartbeats 8000000 in
theorem pu16_any (t : ByteArray) (w : World) (hne : t.size ≠ 0) (hmax : t.size ≤ 16) :
    Calls Tryd.prog 49 #[.string t, .int .i64 16, .int .i64 64] w fun e w' => PuP (hexF 0 t.data.toList) e ∧ Below w.heap.size w w' := by
  have hemp : t.toList.isEmpty = false := by
    rw [← decide_eq_emptyBytes]
    exact decide_eq_false (fun h => hne (by rw [h]; rfl))
  have hcv := Lib.run_convert_string_bytes (P := Tryd.prog) w 9 55 5 t (u := .string) Tryd.underlying9 Tryd.underlying55 Tryd.underlying5
  have hB : ∀ j, j < t.size → (Lib.bytesWorld w 5 t).cell? ⟨w.heap.size, j, none⟩ = some (.int .u8 (t.data.toList.getD j 0).toNat) := fun j hj => Lib.bytesWorld_cell w 5 t j hj
  have hbel := bw_below w t
  obtain ⟨W1, hW1⟩ : ∃ W1, W1 = Lib.bytesWorld w 5 t := ⟨_, rfl⟩
  rw [← hW1] at hcv hB hbel
  clear hW1
  obtain ⟨bs, hL⟩ : ∃ bs, bs = t.data.toList := ⟨_, rfl⟩
  have hLn : bs.length = t.size := by rw [hL, Lib.size_eq]
  rw [← hL] at hB ⊢
  clear hL
  have hbel' : Hid (Below w.heap.size w W1) := hbel
  clear hbel
  obtain ⟨o, ho⟩ : ∃ o, hexF 0 bs = o := ⟨_, rfl⟩
  rw [ho]
  have ho' : Hid (hexF 0 bs = o) := ho
  clear ho
  have hmv : IntKind.u64.wrap (IntKind.u64.wrap 18446744073709551616 - 1) = 18446744073709551615 := by decide
  go_enter Tryd.func49, Tryd.ntmps49
  go_wp2
  go_loop [12, 13, 101] (fun vu vn vi => ∃ (k acc : Nat) (a : Int), vu = .bool false ∧ vn = .int .u64 a ∧ vi = .int .i64 k ∧ k ≤ t.size ∧ Hid (a = (acc : Int) ∧ acc < 16 ^ k ∧ hexF acc (bs.drop k) = o))
    (fun _ _ vi => t.size - (intOf vi).toNat)
  case atStart => exact ⟨0, 0, 0, rfl, rfl, rfl, by omega, rfl, by decide, ho'.out⟩
  case round =>
    clear ho'
    obtain ⟨k, acc, a, rfl, rfl, rfl, hk, hh⟩ := hrel
    obtain ⟨ha, hacc, hdec⟩ := hh.out
    clear hh
    have a0 : 0 ≤ a := by omega
    by_cases hkn : k < t.size
    · have hc := hB k hkn
      have hp : (16 : Nat) ^ k ≤ 16 ^ 15 := Nat.pow_le_pow_right (by decide) (by omega)
      have hp15 : (16 : Nat) ^ 15 = 1152921504606846976 := by decide
      have hps : (16 : Nat) ^ (k + 1) = 16 ^ k * 16 := Nat.pow_succ ..
      have a1 : a < 1152921504606846976 := by omega
      have hdrop : bs.drop k = bs[k]'(by omega) :: bs.drop (k + 1) := List.drop_eq_getElem_cons (by omega)
      have hget : bs.getD k 0 = bs[k]'(by omega) := by simp [List.getD, List.getElem?_eq_getElem (show k < bs.length by omega)]
      rw [hdrop] at hdec
      rw [hget] at hc
      generalize bs[k]'(by omega) = c at hc hdec
      have hc256 : c.toNat < 256 := c.toNat_lt
      obtain ⟨x1, x2, x3⟩ := hx_low c
      clear hB hdrop hget
      unfold hexF at hdec
      by_cases hdig : 48 ≤ c.toNat ∧ c.toNat ≤ 57
      · have hv := x1 hdig
        obtain ⟨hd0, hd1⟩ := hdig
        rw [hv, if_neg (by omega)] at hdec
        have HN : Hid (a * 16 + ((c.toNat : Int) - 48) = ((16 * acc + ((c.toNat : Int) - 48).toNat : Nat) : Int) ∧ 16 * acc + ((c.toNat : Int) - 48).toNat < 16 ^ (k + 1) ∧ hexF (16 * acc + ((c.toNat : Int) - 48).toNat) (bs.drop (k + 1)) = o) := Lib.hid ⟨by omega, by omega, hdec⟩
        have iov : a * 16 + ((c.toNat : Int) - 48) ≤ 18446744073709551615 := by omega
        clear hacc hdec ha x1 x2 x3 hp hp15 hps hv
        go_wp2
        refine ⟨⟨k + 1, 16 * acc + ((c.toNat : Int) - 48).toNat, a * 16 + ((c.toNat : Int) - 48), rfl, (by first | rfl | (congr 1; omega)), (by first | rfl | (congr 1; omega)), by omega, HN⟩, by simp [intOf]; omega⟩
      · have y2 := x2 hdig
        have y3 := x3 hdig
        have hdig' : Hid (¬ (48 ≤ c.toNat ∧ c.toNat ≤ 57)) := hdig
        have hv0 := bits_lo_u8 .or (c.toNat : Int) 32
        have hv1 := bits_hi_u8 .or (c.toNat : Int) 32
        have hu0 := bits_lo_u8 .or 95 32
        have hu1 := bits_hi_u8 .or 95 32
        by_cases hlo : 97 ≤ bits .or .u8 (c.toNat : Int) 32 ∧ bits .or .u8 (c.toNat : Int) 32 ≤ 102
        · have hv := y2 hlo.1 hlo.2
          obtain ⟨l0, l1⟩ := hlo
          rw [hv] at hdec
          have h95 : ¬ c.toNat = 95 := by
            intro e
            rw [e] at l0 l1
            revert l0 l1
            decide
          have hnd : (c.toNat : Int) < 48 ∨ 57 < (c.toNat : Int) := by omega
          rw [if_neg (by omega)] at hdec
          obtain ⟨v, ev⟩ : ∃ v : Nat, bits .or .u8 (c.toNat : Int) 32 = 97 + (v : Int) := ⟨(bits .or .u8 (c.toNat : Int) 32 - 97).toNat, by omega⟩
          have hlow := fun X : World => lower_any (c.toNat : Int) X
          rw [ev] at hdec hlow
          have v5 : v ≤ 5 := by omega
          rw [show (97 + (v : Int) - 97 + 10).toNat = v + 10 by omega] at hdec
          have HN : Hid (a * 16 + ((v : Int) + 10) = ((16 * acc + (v + 10) : Nat) : Int) ∧ 16 * acc + (v + 10) < 16 ^ (k + 1) ∧ hexF (16 * acc + (v + 10)) (bs.drop (k + 1)) = o) := Lib.hid ⟨by omega, by omega, hdec⟩
          have iov : a * 16 + ((v : Int) + 10) ≤ 18446744073709551615 := by omega
          have q1 : (97 : Int) ≤ 97 + (v : Int) := by omega
          have q2 : 97 + (v : Int) ≤ 122 := by omega
          have q3 : IntKind.u8.wrap (97 + (v : Int) - 97) = (v : Int) := (w8 _ (by omega)).trans (by omega)
          have q4 : IntKind.u8.wrap ((v : Int) + 10) = (v : Int) + 10 := w8 _ (by omega)
          have q5 : ¬ (16 : Int) ≤ (v : Int) + 10 := by omega
          clear hacc hdec ha x1 x2 x3 y2 y3 hp hp15 hps hv hv0 hv1 hu0 hu1 l0 l1 ev hdig
          rcases hnd with hnd | hnd
          all_goals (
            go_wp2_with (go_at_call 60; (with_reducible refine Calls.mono (hlow _) ?_); rintro e w' ⟨rfl, rfl⟩)
            refine ⟨⟨k + 1, 16 * acc + (v + 10), a * 16 + ((v : Int) + 10), rfl, (by first | rfl | (congr 1; omega)), (by first | rfl | (congr 1; omega)), by omega, HN⟩, by simp [intOf]; omega⟩)
        · have hv := y3 hlo
          rw [hv, if_pos (by decide)] at hdec
          have hP : Hid (o = none) := hdec.symm
          have hlo' : bits .or .u8 (c.toNat : Int) 32 < 97 ∨ 103 ≤ bits .or .u8 (c.toNat : Int) 32 := by omega
          clear hacc ha hdec x1 x2 x3 y2 y3 hp hp15 hps hv hlo hdig'
          rcases hlo' with hlo' | hlo'
          all_goals (
            go_wp2_with (go_at_call 60; (with_reducible refine Calls.mono (lower_any _ _) ?_); rintro e w' ⟨rfl, rfl⟩)
            all_goals go_ret2
            all_goals exact ⟨by rw [hP.out]; exact ⟨_, 2, rfl, .inr rfl⟩, hbel'⟩)
    · have hkk : k = t.size := by omega
      subst hkk
      rw [List.drop_eq_nil_of_le (by omega)] at hdec
      have hP : Hid (o = some acc) := hdec.symm
      subst ha
      clear hacc a0 hdec
      go_wp2
      go_ret2
      exact ⟨by rw [hP.out]; rfl, hbel'⟩
end Go.Proofs.YtcajejfddfiidaaDoor
