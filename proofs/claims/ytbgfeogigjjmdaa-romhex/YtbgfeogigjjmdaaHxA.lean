import Derived.Test.YtbgfeogigjjmdaaHxM
import Derived.Test.YtbgfeogigjjmdaaHas
import Derived.Test.YtbgfeogigjjmdaaShelf
import Derived.Laws.BitsAllLaws
import Derived.Deep.RegionHeld3
namespace Go.Proofs.Ytbgfeogigjjmdaa
open Go.RowKit
set_option linter.unusedVariables false

set_option maxRecDepth 100000 in
set_option maxHeartbeats 1000000 in
theorem digit_any (c : Nat) (w : World) (hc : c < 256) : Calls Try.prog 52 #[.int .u8 (c : Int)] w fun e w' => e = .returned (.int .u8 ((dg c : Nat) : Int)) ∧ w = w' := by
  have cs : c < 48 ∨ (48 ≤ c ∧ c ≤ 57) ∨ (57 < c ∧ c < 65) ∨ (65 ≤ c ∧ c ≤ 70) ∨ (70 < c ∧ c < 97) ∨ (97 ≤ c ∧ c ≤ 102) ∨ 102 < c := by omega
  rcases cs with h | h | h | h | h | h | h
  · have e : dg c = 255 := by unfold dg; rw [if_neg (by omega), if_neg (by omega), if_neg (by omega)]
    have h1 : ¬ (48 : Int) ≤ (c : Int) := by omega
    have h2 : ¬ (65 : Int) ≤ (c : Int) := by omega
    have h3 : ¬ (97 : Int) ≤ (c : Int) := by omega
    rw [e]; clear e h
    go_enter Try.func52, Try.ntmps52
    go_wp2
    go_ret
    exact ⟨rfl, rfl⟩
  · have e : dg c = c - 48 := by unfold dg; rw [if_pos (by omega)]
    have h1 : (48 : Int) ≤ (c : Int) := by omega
    have h2 : (c : Int) ≤ 57 := by omega
    have e2 : ((c - 48 : Nat) : Int) = (c : Int) - 48 := by omega
    rw [e, e2]; clear e h e2
    go_enter Try.func52, Try.ntmps52
    go_wp2
    go_ret
    exact ⟨ret_int (by go_num), rfl⟩
  · have e : dg c = 255 := by unfold dg; rw [if_neg (by omega), if_neg (by omega), if_neg (by omega)]
    have h1 : (48 : Int) ≤ (c : Int) := by omega
    have h1' : ¬ (c : Int) ≤ 57 := by omega
    have h2 : ¬ (65 : Int) ≤ (c : Int) := by omega
    have h3 : ¬ (97 : Int) ≤ (c : Int) := by omega
    rw [e]; clear e h
    go_enter Try.func52, Try.ntmps52
    go_wp2
    go_ret
    exact ⟨rfl, rfl⟩
  · have e : dg c = c - 55 := by unfold dg; rw [if_neg (by omega), if_pos (by omega)]
    have h1 : (48 : Int) ≤ (c : Int) := by omega
    have h1' : ¬ (c : Int) ≤ 57 := by omega
    have h2 : (65 : Int) ≤ (c : Int) := by omega
    have h2' : (c : Int) ≤ 70 := by omega
    have e2 : ((c - 55 : Nat) : Int) = (c : Int) - 65 + 10 := by omega
    rw [e, e2]; clear e h e2
    go_enter Try.func52, Try.ntmps52
    go_wp2
    go_ret
    exact ⟨ret_int (by go_num), rfl⟩
  · have e : dg c = 255 := by unfold dg; rw [if_neg (by omega), if_neg (by omega), if_neg (by omega)]
    have h1 : (48 : Int) ≤ (c : Int) := by omega
    have h1' : ¬ (c : Int) ≤ 57 := by omega
    have h2 : (65 : Int) ≤ (c : Int) := by omega
    have h2' : ¬ (c : Int) ≤ 70 := by omega
    have h3 : ¬ (97 : Int) ≤ (c : Int) := by omega
    rw [e]; clear e h
    go_enter Try.func52, Try.ntmps52
    go_wp2
    go_ret
    exact ⟨rfl, rfl⟩
  · have e : dg c = c - 87 := by unfold dg; rw [if_neg (by omega), if_neg (by omega), if_pos (by omega)]
    have h1 : (48 : Int) ≤ (c : Int) := by omega
    have h1' : ¬ (c : Int) ≤ 57 := by omega
    have h2 : (65 : Int) ≤ (c : Int) := by omega
    have h2' : ¬ (c : Int) ≤ 70 := by omega
    have h3 : (97 : Int) ≤ (c : Int) := by omega
    have h3' : (c : Int) ≤ 102 := by omega
    have e2 : ((c - 87 : Nat) : Int) = (c : Int) - 97 + 10 := by omega
    rw [e, e2]; clear e h e2
    go_enter Try.func52, Try.ntmps52
    go_wp2
    go_ret
    exact ⟨ret_int (by go_num), rfl⟩
  · have e : dg c = 255 := by unfold dg; rw [if_neg (by omega), if_neg (by omega), if_neg (by omega)]
    have h1 : (48 : Int) ≤ (c : Int) := by omega
    have h1' : ¬ (c : Int) ≤ 57 := by omega
    have h2 : (65 : Int) ≤ (c : Int) := by omega
    have h2' : ¬ (c : Int) ≤ 70 := by omega
    have h3 : (97 : Int) ≤ (c : Int) := by omega
    have h3' : ¬ (c : Int) ≤ 102 := by omega
    rw [e]; clear e h
    go_enter Try.func52, Try.ntmps52
    go_wp2
    go_ret
    exact ⟨rfl, rfl⟩

/-- A panic with a fault. -/
abbrev pan (c ln col : Int) : Ending := .panicked [{ v := .iface 29 (.agg #[.int .i64 c, .int .i64 ln, .int .i64 col]), recovered := false }]

set_option maxRecDepth 100000 in
set_option maxHeartbeats 1000000 in
theorem giveUp_any (rb : Nat) (c col ln : Int) (w : World) (h0 : w.cell? ⟨rb, 0, none⟩ = some (.int .i64 ln)) :
    Calls Try.prog 29 #[.pointer (some ⟨rb, 0, none⟩), .int .i64 c, .int .i64 col] w fun e w' => e = pan c ln col ∧ w = w' := by
  go_enter Try.func29, Try.ntmps29
  go_wp2
  exact ⟨rfl, rfl, rfl⟩

set_option maxRecDepth 100000 in
set_option maxHeartbeats 1000000 in
theorem want_any (rb : Nat) (h : Bool) (col ln : Int) (w : World) (h0 : w.cell? ⟨rb, 0, none⟩ = some (.int .i64 ln)) :
    Calls Try.prog 32 #[.pointer (some ⟨rb, 0, none⟩), .bool h, .int .i64 col] w fun e w' => (if h then e = .returned (.tuple #[]) else e = pan 106 ln col) ∧ w = w' := by
  have hG := giveUp_any rb 106 col ln w h0
  cases h
  · go_enter Try.func32, Try.ntmps32
    go_wp2_with (go_at_call 29; (with_reducible refine Calls.mono hG ?_); rintro e w2 ⟨rfl, rfl⟩)
    try simp only [Exit.inBlock, Exit.then]
    exact ⟨rfl, rfl, rfl⟩
  · go_enter Try.func32, Try.ntmps32
    go_wp2
    go_end0
    exact ⟨rfl, rfl⟩

theorem pre58 (s : ByteArray) : Lib.hasPrefix s.data.toList [58] = decide ((nl s).head? = some 58) := by
  unfold Lib.hasPrefix nl
  cases s.data.toList with
  | nil => rfl
  | cons c r =>
    by_cases h : c = 58
    · subst h; simp [List.isPrefixOf]
    · have h2 : ¬ c.toNat = 58 := fun e => h (UInt8.toNat_inj.1 (by simpa using e))
      have h3 : (58 : UInt8) ≠ c := fun e => h e.symm
      simp [List.isPrefixOf, h2, h3]
theorem nl_drop (s : ByteArray) (k : Nat) (h : k < s.size) : (nl s).drop k = s[k].toNat :: (nl s).drop (k + 1) := by
  have h' : k < (nl s).length := by rw [nl_len]; exact h
  rw [List.drop_eq_getElem_cons h']
  congr 1
  have := nl_get s k h
  rw [List.getD_eq_getElem?_getD, List.getElem?_eq_getElem h'] at this
  exact this
/-- The place at which a line's bytes are no record's; none: they are. -/
def badF (l : List Nat) : Option Nat := if l.head? ≠ some 58 then some 0 else badL 1 (l.drop 1)
def BadP (o : Option Nat) (ln : Int) (e : Ending) : Prop := match o with | some i => e = pan 107 ln ((i : Nat) + 1) | none => e = .returned (.tuple #[])

set_option maxRecDepth 100000 in
set_option maxHeartbeats 2000000 in
theorem wantDigits_any (rb : Nat) (ln : Int) (s : ByteArray) (w : World) (hs : s.size < 4611686018427387904) (h0 : w.cell? ⟨rb, 0, none⟩ = some (.int .i64 ln)) :
    Calls Try.prog 41 #[.pointer (some ⟨rb, 0, none⟩), .string s] w fun e w' => BadP (badF (nl s)) ln e ∧ w = w' := by
  have hP := (Try.strings_HasPrefix s ⟨#[58]⟩ w).mono fun e w' h => (⟨h.1, h.2.symm⟩ : e = _ ∧ w = w')
  have hG := fun col => giveUp_any rb 107 col ln w h0
  have hp : Lib.hasPrefix s.data.toList [58] = decide ((nl s).head? = some 58) := pre58 s
  rw [show ((⟨#[58]⟩ : ByteArray).data.toList) = [58] from rfl, hp] at hP
  clear hp
  by_cases h58 : (nl s).head? = some 58
  · have hF : Hid (badF (nl s) = badL 1 ((nl s).drop 1)) := by
      show _ = _
      unfold badF; rw [if_neg (by simpa using h58)]
    have hsz : 1 ≤ s.size := by
      rcases Nat.eq_zero_or_pos s.size with h | h
      · have : nl s = [] := List.eq_nil_of_length_eq_zero (by rw [nl_len]; exact h)
        rw [this] at h58; cases h58
      · exact h
    rw [decide_eq_true h58] at hP
    clear h58
    generalize badF (nl s) = BF at hF
    go_enter Try.func41, Try.ntmps41
    go_wp2_with (go_at_call 51; (with_reducible refine Calls.mono hP ?_); rintro e w2 ⟨rfl, rfl⟩)
    go_loopg [4] (s.size - 1) (fun gk i wr => ∃ (k : Nat), k + gk = s.size ∧ 1 ≤ k ∧ i = .int .i64 k ∧ Hid (BF = badL k ((nl s).drop k)) ∧ w = wr)
    case atStart => exact ⟨1, by omega, by omega, rfl, hF, rfl⟩
    case round =>
      clear hF
      obtain ⟨k, hk, hk1, rfl, hF, rfl⟩ := hrel
      by_cases hlt : k < s.size
      · have hD := digit_any s[k].toNat w (UInt8.toNat_lt _)
        have hx : (k : Int) < (s.size : Int) := by omega
        have hx0 : (0 : Int) ≤ (k : Int) := by omega
        have hB : Hid (BF = if 15 < dg s[k].toNat then some k else badL (k + 1) ((nl s).drop (k + 1))) := by
          show _ = _
          rw [hF.out, nl_drop s k hlt]; rfl
        clear hF
        by_cases hd : 15 < dg s[k].toNat
        · have hd' : (15 : Int) < ((dg s[k].toNat : Nat) : Int) := by omega
          have hB2 : Hid (BF = some k) := by show _ = _; rw [hB.out, if_pos hd]
          clear hB
          have hGk := hG ((k : Int) + 1)
          go_wp2_with (first | (go_at_call 52; (with_reducible refine Calls.mono hD ?_); rintro e w2 ⟨rfl, rfl⟩) | (go_at_call 29; (with_reducible refine Calls.mono hGk ?_); rintro e w2 ⟨rfl, rfl⟩))
          try simp only [Exit.inBlock, Exit.then]
          exact ⟨rfl, by rw [hB2.out]; rfl, rfl⟩
        · have hd' : ¬ (15 : Int) < ((dg s[k].toNat : Nat) : Int) := by omega
          have hB2 : Hid (BF = badL (k + 1) ((nl s).drop (k + 1))) := by show _ = _; rw [hB.out, if_neg hd]
          clear hB
          go_wp2_with (go_at_call 52; (with_reducible refine Calls.mono hD ?_); rintro e w2 ⟨rfl, rfl⟩)
          go_roundg (s.size - (k + 1))
          case measure => go_light; omega
          case rel => exact ⟨k + 1, by omega, by omega, by go_num, hB2, rfl⟩
      · obtain rfl : k = s.size := by omega
        have hx : ¬ (s.size : Int) < (s.size : Int) := by omega
        have hB2 : Hid (BF = none) := by
          show _ = _
          rw [hF.out, List.drop_of_length_le (by rw [nl_len]; omega)]; rfl
        clear hF
        go_wp2
        go_end0
        exact ⟨by rw [hB2.out]; rfl, rfl⟩
  · have hF : Hid (badF (nl s) = some 0) := by
      show _ = _
      unfold badF; rw [if_pos h58]
    rw [decide_eq_false h58] at hP
    have hG1 := hG 1
    clear h58
    generalize badF (nl s) = BF at hF
    go_enter Try.func41, Try.ntmps41
    go_wp2_with (first | (go_at_call 51; (with_reducible refine Calls.mono hP ?_); rintro e w2 ⟨rfl, rfl⟩) | (go_at_call 29; (with_reducible refine Calls.mono hG1 ?_); rintro e w2 ⟨rfl, rfl⟩))
    try simp only [Exit.inBlock, Exit.then]
    exact ⟨rfl, by rw [hF.out]; rfl, rfl⟩
end Go.Proofs.Ytbgfeogigjjmdaa
