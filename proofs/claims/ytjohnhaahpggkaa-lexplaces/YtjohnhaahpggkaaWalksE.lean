import Derived.Test.YtjohnhaahpggkaaWalksB
import Derived.Test.YtjohnhaahpggkaaWalksD
namespace Go.Proofs.Ytjohnhaahpggkaa
open Go.RowKit
set_option linter.unusedVariables false

set_option maxRecDepth 100000 in
set_option maxHeartbeats 1000000 in
theorem cut_hit (s : ByteArray) (c : UInt8) (i : Nat) (hi : i < s.size) (w : World) (hs : s.size < 4611686018427387904) (e : s[i] = c) (hf : ∀ j (hj : j < s.size), j < i → ¬ s[j] = c) :
    Calls Try.prog 11 #[.string s, .string ⟨#[c]⟩] w fun e w' => e = .returned (.tuple #[.string (s.extract 0 i), .string (s.extract (i + 1) s.size), .bool true]) ∧ ∃ n, w' = w.drewN n := by
  have hI := fun w => cut17_hit s c i hi w hs e hf
  clear e hf
  go_enter Try.func11, Try.ntmps11
  go_wp2_with (go_at_call 17; refine (hI _).mono ?_; rintro e w' ⟨rfl, n, hwe⟩; subst hwe)
  go_ret3
  exact ⟨rfl, _, rfl⟩
set_option maxRecDepth 100000 in
set_option maxHeartbeats 1000000 in
theorem cut_miss (s : ByteArray) (c : UInt8) (w : World) (hs : s.size < 4611686018427387904) (hf : ∀ j (hj : j < s.size), ¬ s[j] = c) :
    Calls Try.prog 11 #[.string s, .string ⟨#[c]⟩] w fun e w' => e = .returned (.tuple #[.string s, .string ByteArray.empty, .bool false]) ∧ ∃ n, w' = w.drewN n := by
  have hI := fun w => cut17_miss s c w hs hf
  clear hf
  go_enter Try.func11, Try.ntmps11
  go_wp2_with (go_at_call 17; refine (hI _).mono ?_; rintro e w' ⟨rfl, hwe⟩; subst hwe)
  go_ret3
  exact ⟨rfl, 0, rfl⟩

theorem cut_stop (t : ByteArray) (w : World) (hs : t.size < 4611686018427387904) (h : stop t < t.size) :
    Calls Try.prog 11 #[.string t, .string ⟨#[10]⟩] w fun e w' => e = .returned (.tuple #[.string (t.extract 0 (stop t)), .string (t.extract (stop t + 1) t.size), .bool true]) ∧ ∃ n, w' = w.drewN n :=
  cut_hit t 10 (stop t) h w hs (stop_is t h) (fun j hj hji => stop_ne t j hj hji)
theorem cut_none (t : ByteArray) (w : World) (hs : t.size < 4611686018427387904) (h : ¬ stop t < t.size) :
    Calls Try.prog 11 #[.string t, .string ⟨#[10]⟩] w fun e w' => e = .returned (.tuple #[.string t, .string ByteArray.empty, .bool false]) ∧ ∃ n, w' = w.drewN n :=
  cut_miss t 10 w hs (fun j hj => stop_ne t j hj (by have := stop_le t; omega))

set_option maxRecDepth 100000 in
set_option maxHeartbeats 1000000 in
theorem line_no (s : ByteArray) (line : Int) (w : World) (h : line < 1) :
    Calls Try.prog 6 #[.string s, .int .i64 line] w fun e w' => e = .returned (.string ByteArray.empty) ∧ ∃ n, w' = w.drewN n := by
  go_enter Try.func6, Try.ntmps6
  go_wp2
  go_ret
  exact ⟨rfl, 0, rfl⟩

set_option maxRecDepth 100000 in
set_option maxHeartbeats 1000000 in
theorem line_yes (s A : ByteArray) (m0 : Nat) (w : World) (hs : s.size < 4611686018427387904) (hm : (m0 : Int) + 1 ≤ 9223372036854775807) (hA : lineB m0 s = A) :
    Calls Try.prog 6 #[.string s, .int .i64 (m0 + 1)] w fun e w' => e = .returned (.string A) ∧ ∃ n, w' = w.drewN n := by
  have h0 : ¬ (m0 : Int) + 1 < 1 := by omega
  have HA : Hid (lineB m0 s = A) := hA
  clear hA
  go_enter Try.func6, Try.ntmps6
  go_wp2
  go_loopw [0, 1] (fun ts tl wr => ∃ (t : ByteArray) (m q : Nat) (L : Int), L = (m : Int) + 1 ∧ t.size ≤ s.size ∧ m ≤ m0 ∧ ts = .string t ∧ tl = .int .i64 L ∧ lineB m t = A ∧ wr = w.drewN q) (fun _ tl _ => (intOf tl).toNat)
  case atStart => exact ⟨s, m0, 0, _, rfl, Nat.le_refl _, Nat.le_refl _, rfl, rfl, HA.out, rfl⟩
  case round =>
    obtain ⟨t, m, q, L, hLm, ht, hmm, rfl, rfl, hL, rfl⟩ := hrel
    have HM : Hid (L = (m : Int) + 1) := hLm
    have HL : Hid (lineB m t = A) := hL
    clear hL
    have hts : t.size < 4611686018427387904 := by omega
    have hstl := stop_le t
    cases m with
    | zero =>
      have hgt : ¬ (1 : Int) < L := by omega
      clear hLm
      by_cases hst : stop t < t.size
      · have hT : Hid ((⟨(Lib.trimSuffix (t.extract 0 (stop t)).data.toList [13]).toArray⟩ : ByteArray) = A) := (trim_front t hst).trans HL.out
        have hC := fun w => cut_stop t w hts hst
        have hTr := fun w => Try.strings_TrimSuffix (t.extract 0 (stop t)) ⟨#[13]⟩ w (by simp; omega)
        have hT' : (⟨(Lib.trimSuffix (t.extract 0 (stop t)).data.toList (ByteArray.mk #[13]).data.toList).toArray⟩ : ByteArray) = A := hT.out
        rw [hT'] at hTr
        clear hT' hT HL
        generalize t.extract 0 (stop t) = X at hC hTr
        generalize t.extract (stop t + 1) t.size = Y at hC
        go_wp2_with (first
          | (go_at_call 11; refine (hC _).mono ?_; rintro e w' ⟨rfl, n, hwe⟩; subst hwe)
          | (go_at_call 12; refine (hTr _).mono ?_; rintro e w' ⟨rfl, hwe⟩; subst hwe))
        go_ret
        exact ⟨rfl, _, rfl⟩
      · have hT : Hid (t = A) := by
          have := HL.out
          rw [lineB, dif_neg hst] at this
          exact this
        have hC := fun w => cut_none t w hts hst
        go_wp2_with (go_at_call 11; refine (hC _).mono ?_; rintro e w' ⟨rfl, n, hwe⟩; subst hwe)
        go_ret
        exact ⟨ret_str hT.out, _, rfl⟩
    | succ m =>
      by_cases hst : stop t < t.size
      · have hN : Hid (lineB m (t.extract (stop t + 1) t.size) = A) := by
          have := HL.out
          rw [lineB, if_pos hst] at this
          exact this
        have hC := fun w => cut_stop t w hts hst
        have hle : (t.extract (stop t + 1) t.size).size ≤ s.size := by simp; omega
        clear HL
        generalize t.extract 0 (stop t) = X at hC
        generalize t.extract (stop t + 1) t.size = Y at hC hN hle
        have hgt : (1 : Int) < L := by omega
        have hg2 : L ≤ 9223372036854775807 := by omega
        clear hLm
        go_wp2_with (go_at_call 11; refine (hC _).mono ?_; rintro e w' ⟨rfl, n, hwe⟩; subst hwe)
        go_roundw
        case rel => exact ⟨Y, m, _, _, by have := HM.out; omega, hle, by omega, rfl, rfl, hN.out, rfl⟩
        case measure => simp [intOf]; omega
      · have hT : Hid (A = ByteArray.empty) := by
          have := HL.out
          rw [lineB, if_neg hst] at this
          exact this.symm
        have hC := fun w => cut_none t w hts hst
        have hgt : (1 : Int) < L := by omega
        have hg2 : L ≤ 9223372036854775807 := by omega
        clear hLm
        go_wp2_with (go_at_call 11; refine (hC _).mono ?_; rintro e w' ⟨rfl, n, hwe⟩; subst hwe)
        go_ret
        exact ⟨ret_str hT.out.symm, _, rfl⟩
end Go.Proofs.Ytjohnhaahpggkaa
