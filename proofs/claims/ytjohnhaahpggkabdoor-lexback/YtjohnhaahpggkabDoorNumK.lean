import Derived.Test.YtjohnhaahpggkabDoorNumJ
namespace Go.Proofs.YtjohnhaahpggkabDoor
open Go.RowKit
set_option linter.unusedVariables false

theorem list_cons (s : ByteArray) (h : 0 < s.size) : s.data.toList = s[0] :: s.data.toList.drop 1 := by
  have := drop_get s 0 h
  simpa using this

theorem hasHex_iff (s : ByteArray) (h : 0 < s.size) : Lib.hasPrefix s.data.toList [48, 120] = true ↔ s[0] = 48 ∧ (s.data.toList.drop 1).head? = some 120 := by
  have e := list_cons s h
  generalize s.data.toList.drop 1 = r at e ⊢
  unfold Lib.hasPrefix
  rw [e]
  cases r with
  | nil => simp [List.isPrefixOf]
  | cons a r =>
    simp only [List.isPrefixOf, Bool.and_eq_true, beq_iff_eq, List.head?_cons, Option.some.injEq, and_true]
    exact ⟨fun h => ⟨h.1.symm, h.2.symm⟩, fun h => ⟨h.1.symm, h.2.symm⟩⟩

theorem hasHex_size (s : ByteArray) (h : Lib.hasPrefix s.data.toList [48, 120] = true) : 2 ≤ s.size := by
  unfold Lib.hasPrefix at h
  rw [List.isPrefixOf_iff_prefix] at h
  have := h.length_le
  simpa using this

theorem drop2_eq (s : ByteArray) : (s.extract 2 s.size).data.toList = (s.data.toList.drop 1).tail := by
  rw [Lib.extract_data, List.tail_drop]
  exact List.take_of_length_le (by simp)

theorem num_empty (s : ByteArray) (h : s.size = 0) : numOf s.data.toList = none := by
  have : s.data.toList = [] := by
    apply List.eq_nil_of_length_eq_zero; simpa using h
  rw [this]; rfl
theorem num_nod (s : ByteArray) (h : 0 < s.size) (hd : isD s[0] = false) : numOf s.data.toList = none := by
  rw [list_cons s h]; unfold numOf; simp [hd]
theorem num_hex (s : ByteArray) (h : 0 < s.size) (hd : isD s[0] = true) (hp : Lib.hasPrefix s.data.toList [48, 120] = true) :
    numOf s.data.toList = if okD 16 true true (s.extract 2 s.size).data.toList = true then some (valD 16 0 (s.extract 2 s.size).data.toList) else none := by
  obtain ⟨h1, h2⟩ := (hasHex_iff s h).1 hp
  rw [drop2_eq, list_cons s h]; unfold numOf
  simp only [hd, Bool.true_eq_false, if_false, List.drop_succ_cons, List.drop_zero]
  rw [if_pos ⟨by rw [h1]; rfl, h2⟩]
theorem num_not (s : ByteArray) (h : 0 < s.size) (hd : isD s[0] = true) (hp : Lib.hasPrefix s.data.toList [48, 120] = false) :
    numOf s.data.toList = if okD 10 true true s.data.toList = true then some (valD 10 0 s.data.toList) else durOf hms s.data.toList := by
  have hn : ¬ (s[0] = 48 ∧ (s.data.toList.drop 1).head? = some 120) := by rw [← hasHex_iff s h, hp]; simp
  have e := list_cons s h
  generalize s.data.toList.drop 1 = r at e hn
  rw [e]; unfold numOf
  simp only [hd, Bool.true_eq_false, if_false]
  rw [if_neg]
  rintro ⟨h1, h2⟩
  exact hn ⟨UInt8.toNat_inj.1 h1, h2⟩

theorem Cl.of_min {v V : Nat} (h : v = min V 2147483648) : Cl v V := by
  subst h; exact ⟨fun h => by omega, fun h => by omega⟩
theorem Cl.of_min2 {v V : Nat} (h : v = min V 1099511627776) : Cl v V := by
  subst h; exact ⟨fun h => by omega, fun h => by omega⟩
theorem DurRes.of_hex {O : Bool} {V v : Nat} (h : DigRes O V 2147483648 v) : DurRes (if O = true then some V else Option.none) O v := by
  cases O with
  | true => exact ⟨rfl, fun V' hV => by simp at hV; subst hV; exact Cl.of_min (h.1 rfl)⟩
  | false => exact ⟨rfl, fun V' hV => by simp at hV⟩
theorem DurRes.of_ref {O : Bool} {V v : Nat} (h : DigRes O V 1099511627776 v) : DurRes (if O = true then some V else Option.none) O v := by
  cases O with
  | true => exact ⟨rfl, fun V' hV => by simp at hV; subst hV; exact Cl.of_min2 (h.1 rfl)⟩
  | false => exact ⟨rfl, fun V' hV => by simp at hV⟩

set_option maxRecDepth 100000 in
set_option maxHeartbeats 2000000 in
theorem numberValue_any (s : ByteArray) (w : World) (hs : s.size < 4611686018427387904) :
    Calls Tryd.prog 61 #[.string s] w fun e w' => (∃ (v : Nat) (ok : Bool), e = .returned (.tuple #[.int .i64 v, .bool ok]) ∧ v ≤ 9007199254740992 ∧ DurRes (numOf s.data.toList) ok v) ∧ Below w.heap.size w w' := by
  by_cases h0 : s.size = 0
  · have hR : Hid (numOf s.data.toList = none) := num_empty s h0
    generalize numOf s.data.toList = R at hR ⊢
    have he : s = ByteArray.empty := by
      obtain ⟨⟨l⟩⟩ := s
      have : l = [] := by apply List.eq_nil_of_length_eq_zero; exact h0
      subst this; rfl
    subst he
    clear hs h0
    go_enter Tryd.func61, Tryd.ntmps61
    go_wp2
    go_ret2
    exact ⟨⟨0, false, rfl, by omega, DurRes.none hR.out⟩, Below.refl _ _⟩
  · have h1 : 0 < s.size := by omega
    have hne : s.toList.isEmpty = false := by
      rw [Lib.toList_data, list_cons s h1]; rfl
    have hD := fun w => isDigit_any s[0] w
    cases hd : isD s[0] with
    | false =>
      have hR : Hid (numOf s.data.toList = none) := num_nod s h1 hd
      generalize numOf s.data.toList = R at hR ⊢
      rw [hd] at hD
      clear hd
      go_enter Tryd.func61, Tryd.ntmps61
      go_wp2_with (go_at_call 46; with_reducible refine (hD _).mono ?_; rintro e w' ⟨rfl, hwe⟩; subst hwe)
      go_ret2
      exact ⟨⟨0, false, rfl, by omega, DurRes.none hR.out⟩, Below.refl _ _⟩
    | true =>
      cases hp : Lib.hasPrefix s.data.toList [48, 120] with
      | true =>
        have hR : Hid (numOf s.data.toList = _) := num_hex s h1 hd hp
        have hC := fun w => cutPrefix_any s true w hs hp (fun _ => hasHex_size s hp)
        have hDg := fun w => digitsValue16 (s.extract 2 s.size) w (by simp; omega)
        have hR' := hR.out
        generalize numOf s.data.toList = R at hR hR' ⊢
        rw [hd] at hD
        clear hd hp hR
        generalize okD 16 true true (s.extract 2 s.size).data.toList = O at hR' hDg
        generalize valD 16 0 (s.extract 2 s.size).data.toList = V at hR' hDg
        simp only [if_true] at hC
        generalize s.extract 2 s.size = T at hDg hC
        have HE : Hid (R = if O = true then some V else Option.none) := hR'
        clear hR'
        go_enter Tryd.func61, Tryd.ntmps61
        go_wp2_with (first
          | (go_at_call 46; with_reducible refine (hD _).mono ?_; rintro e w' ⟨rfl, hwe⟩; subst hwe)
          | (go_at_call 67; with_reducible refine (hC _).mono ?_; rintro e w' ⟨rfl, hwe⟩; subst hwe)
          | (go_at_call 68; with_reducible refine (hDg _).mono ?_; rintro e w2 ⟨⟨d, rfl, hdr⟩, hwe⟩; subst hwe; have hd2 := DigRes.le hdr; have HR := hid_of (DurRes.of_hex hdr); clear hdr))
        go_ret2
        exact ⟨⟨d, O, rfl, by omega, by rw [HE.out]; exact HR.out⟩, Below.refl _ _⟩
      | false =>
        have hR' := num_not s h1 hd hp
        have hC := fun w => cutPrefix_any s false w hs hp (fun h => by cases h)
        have hDg := fun w => digitsValue10 s w hs
        have hDu := fun w => durationValue_any s w hs
        generalize numOf s.data.toList = R at hR' ⊢
        rw [hd] at hD
        clear hd hp
        simp only [Bool.false_eq_true, if_false] at hC
        cases hok : okD 10 true true s.data.toList with
        | true =>
          rw [hok] at hDg hR'
          generalize valD 10 0 s.data.toList = V at hR' hDg
          have HR : Hid (R = if true = true then some V else Option.none) := hR'
          clear hR' hok hDu
          go_enter Tryd.func61, Tryd.ntmps61
          go_wp2_with (first
            | (go_at_call 46; with_reducible refine (hD _).mono ?_; rintro e w' ⟨rfl, hwe⟩; subst hwe)
            | (go_at_call 67; with_reducible refine (hC _).mono ?_; rintro e w' ⟨rfl, hwe⟩; subst hwe)
            | (go_at_call 68; with_reducible refine (hDg _).mono ?_; rintro e w2 ⟨⟨d, rfl, hdr⟩, hwe⟩; subst hwe; have hd2 := DigRes.le hdr; have HX := hid_of (DurRes.of_hex hdr); clear hdr))
          go_ret2
          exact ⟨⟨d, true, rfl, by omega, by rw [HR.out]; exact HX.out⟩, Below.refl _ _⟩
        | false =>
          rw [hok] at hDg hR'
          generalize valD 10 0 s.data.toList = V at hR' hDg
          have hR2 : durOf hms s.data.toList = R := by rw [hR']; simp
          rw [hR2] at hDu
          clear hR' hok hR2
          go_enter Tryd.func61, Tryd.ntmps61
          go_wp2_with (first
            | (go_at_call 46; with_reducible refine (hD _).mono ?_; rintro e w' ⟨rfl, hwe⟩; subst hwe)
            | (go_at_call 67; with_reducible refine (hC _).mono ?_; rintro e w' ⟨rfl, hwe⟩; subst hwe)
            | (go_at_call 68; with_reducible refine (hDg _).mono ?_; rintro e w2 ⟨⟨d, rfl, hdr⟩, hwe⟩; subst hwe; clear hdr)
            | (go_at_call 69; with_reducible refine (hDu _).mono ?_; rintro e w3 ⟨⟨v, ok, rfl, hv, hdr⟩, hb⟩; have HX := hid_of hdr; clear hdr))
          go_ret2
          exact ⟨⟨v, ok, rfl, by omega, HX.out⟩, hb⟩
end Go.Proofs.YtjohnhaahpggkabDoor
