import Derived.Test.YtcehnibfmhbeiabDoorWalksA
namespace Go.Proofs.YtcehnibfmhbeiabDoor
open Go.RowKit
set_option linter.unusedVariables false
set_option maxRecDepth 100000 in
set_option maxHeartbeats 1000000 in
theorem refNumeral_loop0 (s : ByteArray) (w : World) (hs : s.size ≤ 9223372036854775807) (h48 : (s.toList == [48]) = false) (ho : 0 < s.size) (hh : (((s[0]'(by omega)).toNat : Int) == 45) = false) (A : Bool) (hA : A = true ↔ 49 ≤ s[0].toNat ∧ ∀ i (h : i < s.size), 0 ≤ i → isDig s[i] = true) :
    Calls Tryd.prog 10 #[.string s] w fun e w' => e = .returned (.bool A) ∧ w' = w := by
  have hA' : Hid (A = true ↔ 49 ≤ s[0].toNat ∧ ∀ i (h : i < s.size), 0 ≤ i → isDig s[i] = true) := hA
  clear hA
  have hpos : 0 < s.size := by omega
  have hne : ¬ s = ByteArray.empty := by intro e; subst e; simp at hpos
  by_cases hlo : (s[0].toNat : Int) < 49
  · have hr : A = false := by
      rw [← Bool.not_eq_true, hA'.out]; omega
    rw [hr]
    go_enter Tryd.func10, Tryd.ntmps10
    go_wp2
    go_ret
    exact ⟨rfl, rfl⟩
  · by_cases hhi : 57 < (s[0].toNat : Int)
    · have hr : A = false := by
        rw [← Bool.not_eq_true, hA'.out]
        intro h; have := (isDig_eq _).1 (h.2 0 ho (Nat.le_refl _)); omega
      rw [hr]
      go_enter Tryd.func10, Tryd.ntmps10
      go_wp2
      go_ret
      exact ⟨rfl, rfl⟩
    · go_enter Tryd.func10, Tryd.ntmps10
      go_wp2
      go_loop [3] (fun i => ∃ k : Nat, 0 ≤ k ∧ k ≤ s.size ∧ i = .int .i64 k ∧ ∀ j (h : j < s.size), 0 ≤ j → j < k → isDig s[j] = true) (fun i => s.size - (intOf i).toNat)
      case atStart => exact ⟨0, Nat.le_refl _, by omega, rfl, fun j _ h1 h2 => by omega⟩
      case round =>
        obtain ⟨k, hk0, hk, rfl, hpre⟩ := hrel
        have hpre' : Hid (∀ j (h : j < s.size), 0 ≤ j → j < k → isDig s[j] = true) := hpre
        clear hpre
        by_cases hlt : k < s.size
        · by_cases hl2 : (s[k].toNat : Int) < 48
          · go_wp2
            go_ret
            exact ⟨ret_bool (by
              rw [eq_comm, ← Bool.not_eq_true, hA'.out]
              intro h; have := (isDig_eq _).1 (h.2 k hlt hk0); omega), rfl⟩
          · by_cases hh2 : 57 < (s[k].toNat : Int)
            · go_wp2
              go_ret
              exact ⟨ret_bool (by
                rw [eq_comm, ← Bool.not_eq_true, hA'.out]
                intro h; have := (isDig_eq _).1 (h.2 k hlt hk0); omega), rfl⟩
            · have hdig' : Hid (isDig s[k] = true) := (isDig_eq _).2 (by omega)
              go_wp2
              go_round
              case rel => exact ⟨k + 1, by omega, by omega, by go_num, fun j h h1 hj => by
                by_cases e : j = k
                · subst e; exact hdig'.out
                · exact hpre'.out j h h1 (by omega)⟩
              case measure => simp [intOf]; omega
        · go_wp2
          go_ret
          exact ⟨ret_bool (by rw [eq_comm, hA'.out]; exact ⟨by omega, fun i h h1 => hpre'.out i h h1 (by omega)⟩), rfl⟩

set_option maxRecDepth 100000 in
set_option maxHeartbeats 1000000 in
theorem refNumeral_loop1 (s : ByteArray) (w : World) (hs : s.size ≤ 9223372036854775807) (h48 : (s.toList == [48]) = false) (ho : 1 < s.size) (hh : (((s[0]'(by omega)).toNat : Int) == 45) = true) (A : Bool) (hA : A = true ↔ 49 ≤ s[1].toNat ∧ ∀ i (h : i < s.size), 1 ≤ i → isDig s[i] = true) :
    Calls Tryd.prog 10 #[.string s] w fun e w' => e = .returned (.bool A) ∧ w' = w := by
  have hA' : Hid (A = true ↔ 49 ≤ s[1].toNat ∧ ∀ i (h : i < s.size), 1 ≤ i → isDig s[i] = true) := hA
  clear hA
  have hpos : 0 < s.size := by omega
  have hne : ¬ s = ByteArray.empty := by intro e; subst e; simp at hpos
  by_cases hlo : (s[1].toNat : Int) < 49
  · have hr : A = false := by
      rw [← Bool.not_eq_true, hA'.out]; omega
    rw [hr]
    go_enter Tryd.func10, Tryd.ntmps10
    go_wp2
    go_ret
    exact ⟨rfl, rfl⟩
  · by_cases hhi : 57 < (s[1].toNat : Int)
    · have hr : A = false := by
        rw [← Bool.not_eq_true, hA'.out]
        intro h; have := (isDig_eq _).1 (h.2 1 ho (Nat.le_refl _)); omega
      rw [hr]
      go_enter Tryd.func10, Tryd.ntmps10
      go_wp2
      go_ret
      exact ⟨rfl, rfl⟩
    · go_enter Tryd.func10, Tryd.ntmps10
      go_wp2
      go_loop [3] (fun i => ∃ k : Nat, 1 ≤ k ∧ k ≤ s.size ∧ i = .int .i64 k ∧ ∀ j (h : j < s.size), 1 ≤ j → j < k → isDig s[j] = true) (fun i => s.size - (intOf i).toNat)
      case atStart => exact ⟨1, Nat.le_refl _, by omega, rfl, fun j _ h1 h2 => by omega⟩
      case round =>
        obtain ⟨k, hk0, hk, rfl, hpre⟩ := hrel
        have hpre' : Hid (∀ j (h : j < s.size), 1 ≤ j → j < k → isDig s[j] = true) := hpre
        clear hpre
        by_cases hlt : k < s.size
        · by_cases hl2 : (s[k].toNat : Int) < 48
          · go_wp2
            go_ret
            exact ⟨ret_bool (by
              rw [eq_comm, ← Bool.not_eq_true, hA'.out]
              intro h; have := (isDig_eq _).1 (h.2 k hlt hk0); omega), rfl⟩
          · by_cases hh2 : 57 < (s[k].toNat : Int)
            · go_wp2
              go_ret
              exact ⟨ret_bool (by
                rw [eq_comm, ← Bool.not_eq_true, hA'.out]
                intro h; have := (isDig_eq _).1 (h.2 k hlt hk0); omega), rfl⟩
            · have hdig' : Hid (isDig s[k] = true) := (isDig_eq _).2 (by omega)
              go_wp2
              go_round
              case rel => exact ⟨k + 1, by omega, by omega, by go_num, fun j h h1 hj => by
                by_cases e : j = k
                · subst e; exact hdig'.out
                · exact hpre'.out j h h1 (by omega)⟩
              case measure => simp [intOf]; omega
        · go_wp2
          go_ret
          exact ⟨ret_bool (by rw [eq_comm, hA'.out]; exact ⟨by omega, fun i h h1 => hpre'.out i h h1 (by omega)⟩), rfl⟩


set_option maxRecDepth 100000 in
set_option maxHeartbeats 1000000 in
theorem refNumeral_yes (s : ByteArray) (w : World) (hb : (s.toList == [48]) = true) : Calls Tryd.prog 10 #[.string s] w fun e w' => e = .returned (.bool true) ∧ w' = w := by
  go_enter Tryd.func10, Tryd.ntmps10
  go_wp2
  go_ret
  exact ⟨rfl, rfl⟩
set_option maxRecDepth 100000 in
set_option maxHeartbeats 1000000 in
theorem refNumeral_empty (s : ByteArray) (w : World) (hb : (s.toList == [48]) = false) (h0 : s.size = 0) : Calls Tryd.prog 10 #[.string s] w fun e w' => e = .returned (.bool false) ∧ w' = w := by
  have h1 : ¬ 0 < s.size := by omega
  go_enter Tryd.func10, Tryd.ntmps10
  go_wp2
  all_goals (go_ret; exact ⟨rfl, rfl⟩)
set_option maxRecDepth 100000 in
set_option maxHeartbeats 1000000 in
theorem refNumeral_sign (s : ByteArray) (w : World) (hb : (s.toList == [48]) = false) (h0 : s.size = 1) (hh : (((s[0]'(by omega)).toNat : Int) == 45) = true) : Calls Tryd.prog 10 #[.string s] w fun e w' => e = .returned (.bool false) ∧ w' = w := by
  have hpos : 0 < s.size := by omega
  have h1 : (s.size : Int) ≤ 1 := by omega
  go_enter Tryd.func10, Tryd.ntmps10
  go_wp2
  all_goals (go_ret; exact ⟨rfl, rfl⟩)

theorem get_of {s : ByteArray} {l : List UInt8} (h : s.data.toList = l) (i : Nat) (hi : i < s.size) : l[i]? = some s[i] := by
  subst h
  rw [List.getElem?_eq_getElem (by simpa using hi)]
  simp [ByteArray.getElem_eq_getElem_data]

theorem refNumeral_any (s : ByteArray) (w : World) (hs : s.size ≤ maxLen) :
    Calls Tryd.prog 10 #[.string s] w fun e w' => e = .returned (.bool (numB s.data.toList)) ∧ w' = w := by
  unfold maxLen at hs
  by_cases h48 : s.data.toList = [48]
  · have hb : (s.toList == [48]) = true := by rw [ByteArray.toList_eq, h48]; rfl
    rw [h48]
    exact refNumeral_yes s w hb
  · have hb : (s.toList == [48]) = false := by rw [ByteArray.toList_eq]; simpa using h48
    rw [numB_not h48]
    cases hl : s.data.toList with
    | nil =>
      have h0 : s.size = 0 := by rw [Lib.size_eq, hl]; rfl
      exact refNumeral_empty s w hb h0
    | cons c r =>
      have hsz : s.size = r.length + 1 := by rw [Lib.size_eq, hl]; rfl
      obtain ⟨hp, hc⟩ := head_of hl
      by_cases h45 : c = 45
      · have hh : (((s[0]'(by omega)).toNat : Int) == 45) = true := by rw [hc, h45]; rfl
        have hbd : body (c :: r) = r := by simp [body, h45]
        rw [hbd]
        cases hr : r with
        | nil =>
          rw [hr] at hsz
          exact refNumeral_sign s w hb (by simpa using hsz) hh
        | cons x y =>
          rw [hr] at hsz hl
          have h1 : 1 < s.size := by simp at hsz; omega
          have hx : s[1] = x := by have := get_of hl 1 h1; simpa using this.symm
          refine refNumeral_loop1 s w (by omega) hb h1 hh _ ?_
          show (decide (x ≠ 48) && isDig x && y.all isDig) = true ↔ _
          have hall : (isDig x && y.all isDig) = true ↔ ∀ i (h : i < s.size), 1 ≤ i → isDig s[i] = true := by
            rw [show (isDig x && y.all isDig) = (x :: y).all isDig from rfl, List.all_eq_true]
            constructor
            · intro h i hi h1i
              refine h _ (List.mem_iff_getElem?.2 ⟨i - 1, ?_⟩)
              have := get_of hl i hi
              obtain ⟨j, rfl⟩ : ∃ j, i = j + 1 := ⟨i - 1, by omega⟩
              simpa using this
            · intro h z hz
              obtain ⟨j, hj⟩ := List.mem_iff_getElem?.1 hz
              have hjl : j < (x :: y).length := (List.getElem?_eq_some_iff.1 hj).1
              have hi : j + 1 < s.size := by rw [Lib.size_eq, hl]; simpa using hjl
              have := get_of hl (j + 1) hi
              have e : s[j + 1] = z := by
                have h2 : (c :: x :: y)[j + 1]? = some z := by simpa using hj
                rw [h2] at this; exact (Option.some.inj this).symm
              rw [← e]; exact h (j + 1) hi (by omega)
          rw [Bool.and_assoc, Bool.and_eq_true, hall, hx, decide_eq_true_iff]
          constructor
          · rintro ⟨h1', h2'⟩
            have h3 := h2' 1 h1 (Nat.le_refl _)
            rw [hx, isDig_eq] at h3
            have h4 : x.toNat ≠ 48 := fun e => h1' (UInt8.toNat_inj.1 (by rw [e]; rfl))
            exact ⟨by omega, h2'⟩
          · rintro ⟨h1', h2'⟩
            refine ⟨fun e => ?_, h2'⟩
            rw [e] at h1'; exact absurd h1' (by decide)
      · have hh : (((s[0]'(by omega)).toNat : Int) == 45) = false := by
          have := u8_eq s[0] 45 (by decide)
          rw [hc] at this ⊢
          rw [show ((45 : Nat) : Int) = 45 from rfl] at this
          rw [this]; simpa using h45
        have hbd : body (c :: r) = c :: r := by simp [body, h45]
        rw [hbd]
        refine refNumeral_loop0 s w (by omega) hb hp hh _ ?_
        show (decide (c ≠ 48) && isDig c && r.all isDig) = true ↔ _
        have hall : (isDig c && r.all isDig) = true ↔ ∀ i (h : i < s.size), 0 ≤ i → isDig s[i] = true := by
          rw [show (isDig c && r.all isDig) = (c :: r).all isDig from rfl, ← hl, all_dig]
          exact ⟨fun h i hi _ => h i hi, fun h i hi => h i hi (Nat.zero_le _)⟩
        rw [Bool.and_assoc, Bool.and_eq_true, hall, hc, decide_eq_true_iff]
        constructor
        · rintro ⟨h1', h2'⟩
          have h3 := h2' 0 hp (Nat.le_refl _)
          rw [hc, isDig_eq] at h3
          have h4 : c.toNat ≠ 48 := fun e => h1' (UInt8.toNat_inj.1 (by rw [e]; rfl))
          exact ⟨by omega, h2'⟩
        · rintro ⟨h1', h2'⟩
          refine ⟨fun e => ?_, h2'⟩
          rw [e] at h1'; exact absurd h1' (by decide)
end Go.Proofs.YtcehnibfmhbeiabDoor
