import Derived.Test.YtjohnhaahpggkabDoorNumL
namespace Go.Proofs.YtjohnhaahpggkabDoor
open Go.RowKit
set_option linter.unusedVariables false

theorem dur_nodigit : ∀ (us : List (UInt8 × Nat)) (c : UInt8) (r : List UInt8), isD c = false → durOf us (c :: r) = none
  | [], c, r, _ => by simp [durOf]
  | (u, k) :: us, c, r, h => by
    rw [durOf, if_neg]
    · exact dur_nodigit us c r h
    · rintro ⟨h1, _⟩
      rw [List.takeWhile_cons_of_neg (by simp [h])] at h1
      exact h1 rfl

theorem ok10_first (s : ByteArray) (g : Bool) (h : okD 10 g true s.data.toList = true) : ∃ h0 : 0 < s.size, isD s[0] = true ∧ Lib.hasPrefix s.data.toList [48, 120] = false := by
  by_cases h0 : 0 < s.size
  · refine ⟨h0, ?_, ?_⟩
    · rw [list_cons s h0] at h
      exact (dv_lt10 _).1 (okD_first 10 g _ _ h).1
    · rw [← Bool.not_eq_true, hasHex_iff s h0]
      rintro ⟨h1, h2⟩
      rw [list_cons s h0] at h
      cases hr : s.data.toList.drop 1 with
      | nil => rw [hr] at h2; simp at h2
      | cons a r =>
        rw [hr] at h2 h
        simp only [List.head?_cons, Option.some.injEq] at h2
        subst h2
        rw [h1] at h
        have h3 : okD 10 g true (48 :: 120 :: r) = false := by
          rw [okD, if_neg (by decide), if_pos (by decide), okD, if_neg (by decide), if_neg (by decide)]
        rw [h3] at h; cases h
  · have : s.data.toList = [] := List.eq_nil_of_length_eq_zero (by have : s.data.toList.length = s.size := by simp
                                                                   omega)
    rw [this] at h; simp [okD] at h

theorem dur_hex (s : ByteArray) (h : Lib.hasPrefix s.data.toList [48, 120] = true) : durOf hms s.data.toList = none := by
  have hsz := hasHex_size s h
  obtain ⟨h1, h2⟩ := (hasHex_iff s (by omega)).1 h
  refine durOf_bad hms _ 120 ?_ (by decide) (by decide)
  rw [list_cons s (by omega)]
  cases hr : s.data.toList.drop 1 with
  | nil => rw [hr] at h2; simp at h2
  | cons a r => rw [hr] at h2; simp at h2; simp [h2]

theorem num_dur (s : ByteArray) (h0 : 0 < s.size) (h10 : okD 10 true true s.data.toList = false) (hx : Lib.hasPrefix s.data.toList [48, 120] = true → s.size ≤ 2) : numOf s.data.toList = durOf hms s.data.toList := by
  cases hd : isD s[0] with
  | false => rw [num_nod s h0 hd, list_cons s h0, dur_nodigit hms _ _ hd]
  | true =>
    cases hp : Lib.hasPrefix s.data.toList [48, 120] with
    | true =>
      rw [num_hex s h0 hd hp, dur_hex s hp]
      have hsz := hasHex_size s hp
      have : s.size = 2 := by have := hx hp; omega
      have e : (s.extract 2 s.size).data.toList = [] := by
        rw [Lib.extract_data]; simp [this]
      rw [e]; simp [okD]
    | false => rw [num_not s h0 hd hp, h10]; simp

theorem hex_of (s : ByteArray) (h : 2 < s.size) (h1 : (s[0].toNat : Int) = 48) (h2 : (s[1].toNat : Int) = 120) : Lib.hasPrefix s.data.toList [48, 120] = true := by
  rw [hasHex_iff s (by omega)]
  refine ⟨UInt8.toNat_inj.1 (by show s[0].toNat = 48; omega), ?_⟩
  rw [drop_get s 1 (by omega)]
  simp only [List.head?_cons, Option.some.injEq]
  exact UInt8.toNat_inj.1 (by show s[1].toNat = 120; omega)
theorem hex_not (s : ByteArray) (h : 2 < s.size) (h1 : ¬ ((s[0].toNat : Int) = 48 ∧ (s[1].toNat : Int) = 120)) : Lib.hasPrefix s.data.toList [48, 120] = false := by
  rw [← Bool.not_eq_true, hasHex_iff s (by omega)]
  rintro ⟨h3, h4⟩
  rw [drop_get s 1 (by omega)] at h4
  simp only [List.head?_cons, Option.some.injEq] at h4
  exact h1 ⟨by rw [h3]; rfl, by rw [h4]; rfl⟩

/-- What stands in the two variables ahead of the last tests. -/
def Tl (R : Option Nat) (ok : Bool) (v : Nat) : Prop := DurRes R ok v
theorem Tl.none {R : Option Nat} {v : Nat} (h : Tl R false v) : Ending.returned (.tuple #[.int .i32 0, .int .i64 22]) = .returned (numA R) := by
  have h1 : false = R.isSome := h.1
  cases R with
  | none => rfl
  | some V => cases h1
theorem Tl.big {R : Option Nat} {v : Nat} (h : Tl R true v) (hv : (2147483647 : Int) < (v : Int)) : Ending.returned (.tuple #[.int .i32 0, .int .i64 23]) = .returned (numA R) := by
  have h1 : true = R.isSome := h.1
  cases R with
  | none => cases h1
  | some V =>
    rw [numA_big V ?_]
    have := h.2 V rfl
    rcases Nat.lt_or_ge 2147483647 V with h' | h'
    · exact h'
    · have := this.1 h'; omega
theorem Tl.small {R : Option Nat} {v : Nat} (h : Tl R true v) (hv : (v : Int) ≤ 2147483647) : Ending.returned (.tuple #[.int .i32 (v : Int), .int .i64 0]) = .returned (numA R) := by
  have h1 : true = R.isSome := h.1
  cases R with
  | none => cases h1
  | some V =>
    have h2 := h.2 V rfl
    have h3 : V ≤ 2147483647 := by
      rcases Nat.lt_or_ge 2147483647 V with h' | h'
      · have := h2.2 h'; omega
      · exact h'
    rw [numA_small V h3, h2.1 h3]

set_option maxRecDepth 100000 in
set_option maxHeartbeats 4000000 in
theorem refNumber_1 (s : ByteArray) (R : Option Nat) (w : World) (hD : ∀ w, Calls Tryd.prog 51 #[.string s, .int .i64 10, .bool true] w fun e w' => (∃ v : Nat, e = .returned (.tuple #[.int .i64 v, .bool true]) ∧ v ≤ 1099511627776 ∧ Tl R true v) ∧ w' = w) :
    Calls Tryd.prog 42 #[.string s] w fun e w' => e = .returned (numA R) ∧ Below w.heap.size w w' := by
  go_enter Tryd.func42, Tryd.ntmps42
  go_wp2_with (go_at_call 51; with_reducible refine (hD _).mono ?_; rintro e w1 ⟨⟨v, rfl, hv, hT⟩, hwe⟩; subst hwe; have HT := hid_of hT; clear hT)
  · go_ret2
    exact ⟨HT.out.big (by omega), Below.refl _ _⟩
  · go_ret2
    exact ⟨HT.out.small (by omega), Below.refl _ _⟩

set_option maxRecDepth 100000 in
set_option maxHeartbeats 4000000 in
theorem refNumber_2a (s : ByteArray) (R : Option Nat) (w : World) (hD : ∀ w, Calls Tryd.prog 51 #[.string s, .int .i64 10, .bool true] w fun e w' => (∃ v : Nat, e = .returned (.tuple #[.int .i64 v, .bool false])) ∧ w' = w)
    (hE : ∀ w, Calls Tryd.prog 51 #[.string (s.extract 2 s.size), .int .i64 16, .bool true] w fun e w' => (∃ v : Nat, e = .returned (.tuple #[.int .i64 v, .bool true]) ∧ v ≤ 1099511627776 ∧ Tl R true v) ∧ w' = w)
    (h2 : 2 < s.size) (h48 : (s[0].toNat : Int) = 48) (h120 : (s[1].toNat : Int) = 120) :
    Calls Tryd.prog 42 #[.string s] w fun e w' => e = .returned (numA R) ∧ Below w.heap.size w w' := by
  have h2' : (2 : Int) < (s.size : Int) := by omega
  go_enter Tryd.func42, Tryd.ntmps42
  go_wp2_with (first
    | (go_at_call 51; with_reducible refine (hD _).mono ?_; rintro e w1 ⟨⟨v1, rfl⟩, hwe⟩; subst hwe)
    | (go_at_call 51; with_reducible refine (hE _).mono ?_; rintro e w1 ⟨⟨v, rfl, hv, hT⟩, hwe⟩; subst hwe; have HT := hid_of hT; clear hT))
  · go_ret2
    exact ⟨HT.out.big (by omega), Below.refl _ _⟩
  · go_ret2
    exact ⟨HT.out.small (by omega), Below.refl _ _⟩

set_option maxRecDepth 100000 in
set_option maxHeartbeats 4000000 in
theorem refNumber_2b (s : ByteArray) (w : World) (hD : ∀ w, Calls Tryd.prog 51 #[.string s, .int .i64 10, .bool true] w fun e w' => (∃ v : Nat, e = .returned (.tuple #[.int .i64 v, .bool false])) ∧ w' = w)
    (hE : ∀ w, Calls Tryd.prog 51 #[.string (s.extract 2 s.size), .int .i64 16, .bool true] w fun e w' => (∃ v : Nat, e = .returned (.tuple #[.int .i64 v, .bool false])) ∧ w' = w)
    (hU : ∀ w, Calls Tryd.prog 52 #[.string s] w fun e w' => (∃ v : Nat, e = .returned (.tuple #[.int .i64 v, .bool false])) ∧ Below w.heap.size w w')
    (h2 : 2 < s.size) (h48 : (s[0].toNat : Int) = 48) (h120 : (s[1].toNat : Int) = 120) :
    Calls Tryd.prog 42 #[.string s] w fun e w' => e = .returned (numA Option.none) ∧ Below w.heap.size w w' := by
  have h2' : (2 : Int) < (s.size : Int) := by omega
  rw [numA_none]
  go_enter Tryd.func42, Tryd.ntmps42
  go_wp2_with (first
    | (go_at_call 51; with_reducible refine (hD _).mono ?_; rintro e w1 ⟨⟨v1, rfl⟩, hwe⟩; subst hwe)
    | (go_at_call 51; with_reducible refine (hE _).mono ?_; rintro e w1 ⟨⟨v2, rfl⟩, hwe⟩; subst hwe)
    | (go_at_call 52; with_reducible refine (hU _).mono ?_; rintro e w1 ⟨⟨v3, rfl⟩, hb⟩))
  go_ret2
  exact ⟨rfl, hb⟩

set_option maxRecDepth 100000 in
set_option maxHeartbeats 4000000 in
theorem refNumber_3 (s : ByteArray) (R : Option Nat) (w : World) (hD : ∀ w, Calls Tryd.prog 51 #[.string s, .int .i64 10, .bool true] w fun e w' => (∃ v : Nat, e = .returned (.tuple #[.int .i64 v, .bool false])) ∧ w' = w)
    (hU : ∀ w, Calls Tryd.prog 52 #[.string s] w fun e w' => (∃ (v : Nat) (ok : Bool), e = .returned (.tuple #[.int .i64 v, .bool ok]) ∧ v ≤ 1099511627776 ∧ Tl R ok v) ∧ Below w.heap.size w w')
    (h : s.size ≤ 2 ∨ ∃ h2 : 2 < s.size, ¬ (s[0].toNat : Int) = 48 ∨ ((s[0].toNat : Int) = 48 ∧ ¬ (s[1].toNat : Int) = 120)) :
    Calls Tryd.prog 42 #[.string s] w fun e w' => e = .returned (numA R) ∧ Below w.heap.size w w' := by
  have key : ∀ ok : Bool, (∀ w, Calls Tryd.prog 52 #[.string s] w fun e w' => (∃ (v : Nat), e = .returned (.tuple #[.int .i64 v, .bool ok]) ∧ v ≤ 1099511627776 ∧ Tl R ok v) ∧ Below w.heap.size w w') →
      Calls Tryd.prog 42 #[.string s] w fun e w' => e = .returned (numA R) ∧ Below w.heap.size w w' := by
    intro ok hU
    rcases h with h | ⟨h2, h | ⟨h48, h⟩⟩
    · have h' : ¬ (2 : Int) < (s.size : Int) := by omega
      cases ok
      · go_enter Tryd.func42, Tryd.ntmps42
        go_wp2_with (first
          | (go_at_call 51; with_reducible refine (hD _).mono ?_; rintro e w1 ⟨⟨v1, rfl⟩, hwe⟩; subst hwe)
          | (go_at_call 52; with_reducible refine (hU _).mono ?_; rintro e w1 ⟨⟨v, rfl, hv, hT⟩, hb⟩; have HT := hid_of hT; clear hT))
        go_ret2
        exact ⟨HT.out.none, hb⟩
      · go_enter Tryd.func42, Tryd.ntmps42
        go_wp2_with (first
          | (go_at_call 51; with_reducible refine (hD _).mono ?_; rintro e w1 ⟨⟨v1, rfl⟩, hwe⟩; subst hwe)
          | (go_at_call 52; with_reducible refine (hU _).mono ?_; rintro e w1 ⟨⟨v, rfl, hv, hT⟩, hb⟩; have HT := hid_of hT; clear hT))
        · go_ret2
          exact ⟨HT.out.big (by omega), hb⟩
        · go_ret2
          exact ⟨HT.out.small (by omega), hb⟩
    · have h' : (2 : Int) < (s.size : Int) := by omega
      cases ok
      · go_enter Tryd.func42, Tryd.ntmps42
        go_wp2_with (first
          | (go_at_call 51; with_reducible refine (hD _).mono ?_; rintro e w1 ⟨⟨v1, rfl⟩, hwe⟩; subst hwe)
          | (go_at_call 52; with_reducible refine (hU _).mono ?_; rintro e w1 ⟨⟨v, rfl, hv, hT⟩, hb⟩; have HT := hid_of hT; clear hT))
        go_ret2
        exact ⟨HT.out.none, hb⟩
      · go_enter Tryd.func42, Tryd.ntmps42
        go_wp2_with (first
          | (go_at_call 51; with_reducible refine (hD _).mono ?_; rintro e w1 ⟨⟨v1, rfl⟩, hwe⟩; subst hwe)
          | (go_at_call 52; with_reducible refine (hU _).mono ?_; rintro e w1 ⟨⟨v, rfl, hv, hT⟩, hb⟩; have HT := hid_of hT; clear hT))
        · go_ret2
          exact ⟨HT.out.big (by omega), hb⟩
        · go_ret2
          exact ⟨HT.out.small (by omega), hb⟩
    · have h' : (2 : Int) < (s.size : Int) := by omega
      cases ok
      · go_enter Tryd.func42, Tryd.ntmps42
        go_wp2_with (first
          | (go_at_call 51; with_reducible refine (hD _).mono ?_; rintro e w1 ⟨⟨v1, rfl⟩, hwe⟩; subst hwe)
          | (go_at_call 52; with_reducible refine (hU _).mono ?_; rintro e w1 ⟨⟨v, rfl, hv, hT⟩, hb⟩; have HT := hid_of hT; clear hT))
        go_ret2
        exact ⟨HT.out.none, hb⟩
      · go_enter Tryd.func42, Tryd.ntmps42
        go_wp2_with (first
          | (go_at_call 51; with_reducible refine (hD _).mono ?_; rintro e w1 ⟨⟨v1, rfl⟩, hwe⟩; subst hwe)
          | (go_at_call 52; with_reducible refine (hU _).mono ?_; rintro e w1 ⟨⟨v, rfl, hv, hT⟩, hb⟩; have HT := hid_of hT; clear hT))
        · go_ret2
          exact ⟨HT.out.big (by omega), hb⟩
        · go_ret2
          exact ⟨HT.out.small (by omega), hb⟩
  refine key R.isSome (fun w => (hU w).mono ?_)
  rintro e w' ⟨⟨v, ok, he, hv, hT⟩, hb⟩
  have : ok = R.isSome := hT.1
  rw [← this]
  exact ⟨⟨v, he, hv, hT⟩, hb⟩

theorem refNumber_any (s : ByteArray) (w : World) (hs : s.size < 4611686018427387904) :
    Calls Tryd.prog 42 #[.string s] w fun e w' => e = .returned (numA (numOf s.data.toList)) ∧ Below w.heap.size w w' := by
  have hD := fun w => digits10 s true w hs
  cases h10 : okD 10 true true s.data.toList with
  | true =>
    obtain ⟨h0, hd, hp⟩ := ok10_first s true h10
    have hR := num_not s h0 hd hp
    refine refNumber_1 s _ w (fun w => (hD w).mono ?_)
    rintro e w' ⟨⟨v, he, hr⟩, hw⟩
    refine ⟨⟨v, by rw [he, h10], hr.2, ?_⟩, hw⟩
    rw [hR]
    have := DurRes.of_ref hr
    rw [h10] at this ⊢
    exact this
  | false =>
    have hD' : ∀ w, Calls Tryd.prog 51 #[.string s, .int .i64 10, .bool true] w fun e w' => (∃ v : Nat, e = .returned (.tuple #[.int .i64 v, .bool false])) ∧ w' = w := fun w => (hD w).mono (by
      rintro e w' ⟨⟨v, he, hr⟩, hw⟩
      exact ⟨⟨v, by rw [he, h10]⟩, hw⟩)
    by_cases hx : ∃ h2 : 2 < s.size, (s[0].toNat : Int) = 48 ∧ (s[1].toNat : Int) = 120
    · obtain ⟨h2, h48, h120⟩ := hx
      have hp := hex_of s h2 h48 h120
      have hd : isD s[0] = true := by rw [isD_iff]; omega
      have hR := num_hex s (by omega) hd hp
      have hE := fun w => digits16 (s.extract 2 s.size) true w (by simp; omega)
      cases h16 : okD 16 true true (s.extract 2 s.size).data.toList with
      | true =>
        refine refNumber_2a s _ w hD' (fun w => (hE w).mono ?_) h2 h48 h120
        rintro e w' ⟨⟨v, he, hr⟩, hw⟩
        refine ⟨⟨v, by rw [he, h16], hr.2, ?_⟩, hw⟩
        rw [hR]
        have := DurRes.of_ref hr
        rw [h16] at this ⊢
        exact this
      | false =>
        rw [h16] at hR
        simp only [Bool.false_eq_true, if_false] at hR
        rw [hR]
        refine refNumber_2b s w hD' (fun w => (hE w).mono ?_) (fun w => (duration_any s w hs (by omega)).mono ?_) h2 h48 h120
        · rintro e w' ⟨⟨v, he, hr⟩, hw⟩
          exact ⟨⟨v, by rw [he, h16]⟩, hw⟩
        · rintro e w' ⟨⟨v, ok, he, hv, hT⟩, hb⟩
          have : ok = false := by rw [hT.1, dur_hex s hp]; rfl
          exact ⟨⟨v, by rw [he, this]⟩, hb⟩
    · have hcond : s.size ≤ 2 ∨ ∃ h2 : 2 < s.size, ¬ (s[0].toNat : Int) = 48 ∨ ((s[0].toNat : Int) = 48 ∧ ¬ (s[1].toNat : Int) = 120) := by
        rcases Nat.lt_or_ge 2 s.size with h2 | h2
        · right
          refine ⟨h2, ?_⟩
          by_cases h48 : (s[0].toNat : Int) = 48
          · exact .inr ⟨h48, fun h => hx ⟨h2, h48, h⟩⟩
          · exact .inl h48
        · exact .inl h2
      refine refNumber_3 s _ w hD' (fun w => ?_) hcond
      by_cases h0 : s.size = 0
      · rw [num_empty s h0]
        have he : s = ByteArray.empty := by
          obtain ⟨⟨l⟩⟩ := s
          have : l = [] := by apply List.eq_nil_of_length_eq_zero; exact h0
          subst this; rfl
        subst he
        refine (duration_zero w).mono ?_
        rintro e w' ⟨he, hb⟩
        exact ⟨⟨0, false, he, by omega, DurRes.none rfl⟩, hb⟩
      · rw [num_dur s (by omega) h10 (fun hp => by
          rcases Nat.lt_or_ge 2 s.size with h2 | h2
          · exfalso
            have := hex_not s h2 (fun h => hx ⟨h2, h.1, h.2⟩)
            rw [hp] at this; cases this
          · exact h2)]
        exact duration_any s w hs (by omega)
end Go.Proofs.YtjohnhaahpggkabDoor
