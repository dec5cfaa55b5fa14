import Derived.Test.YtcehnibfmhbeiaaDoorMkC
import Derived.Laws.Bits64b
namespace Go.Proofs.YtcehnibfmhbeiaaDoor
open Go.RowKit
set_option linter.unusedVariables false

theorem and_half (a b : Nat) : (a &&& b) / 2 = a / 2 &&& b / 2 := by
  have := Nat.shiftRight_and_distrib (a := a) (b := b) (i := 1)
  simpa [Nat.shiftRight_eq_div_pow] using this
theorem and_pred_even (M : Nat) (h : 0 < M) : (M &&& (M - 1)) % 2 = 0 := by
  have h0 : (M &&& (M - 1)).testBit 0 = false := by
    rw [Nat.testBit_and, Nat.testBit_zero, Nat.testBit_zero]
    by_cases hp : M % 2 = 1
    · have : ¬ (M - 1) % 2 = 1 := by omega
      simp [this]
    · simp [hp]
  rw [Nat.testBit_zero] at h0
  have := of_decide_eq_false h0
  omega
theorem mem_step : ∀ (f i M : Nat), 0 < M → M < 2 ^ f → mem i f M = (i + Lib.ctzFrom f M) :: mem i f (M &&& (M - 1))
  | 0, i, M, h0, h => by simp at h; omega
  | f + 1, i, M, h0, h => by
    have he := and_pred_even M h0
    have hh := and_half M (M - 1)
    have hp : 2 ^ (f + 1) = 2 ^ f * 2 := Nat.pow_succ 2 f
    have e1 : mem i (f + 1) M = (if M % 2 = 1 then [i] else []) ++ mem (i + 1) f (M / 2) := rfl
    have e2 : mem i (f + 1) (M &&& (M - 1)) = mem (i + 1) f ((M &&& (M - 1)) / 2) := by
      show (if (M &&& (M - 1)) % 2 = 1 then [i] else []) ++ mem (i + 1) f ((M &&& (M - 1)) / 2) = _
      rw [if_neg (by omega)]; rfl
    rw [e1, e2, hh]
    by_cases ho : M % 2 = 1
    · rw [if_pos ho, show (M - 1) / 2 = M / 2 by omega, Nat.and_self]
      have : Lib.ctzFrom (f + 1) M = 0 := by simp [Lib.ctzFrom, ho]
      rw [this]; rfl
    · rw [if_neg ho, show (M - 1) / 2 = M / 2 - 1 by omega]
      have : Lib.ctzFrom (f + 1) M = 1 + Lib.ctzFrom f (M / 2) := by simp [Lib.ctzFrom, ho]
      rw [this, List.nil_append, mem_step f (i + 1) (M / 2) (by omega) (by omega)]
      congr 1; omega
theorem mem_zero : ∀ (f i : Nat), mem i f 0 = []
  | 0, _ => rfl
  | f + 1, i => by
    show (if 0 % 2 = 1 then [i] else []) ++ mem (i + 1) f (0 / 2) = []
    rw [if_neg (by decide)]
    exact mem_zero f (i + 1)
theorem mem_ctz (M : Nat) (h0 : M ≠ 0) (h : M < 18446744073709551616) : mem 0 64 M = Lib.ctz 64 M :: mem 0 64 (M &&& (M - 1)) := by
  have := mem_step 64 0 M (by omega) (by simpa using h)
  rw [this, Nat.zero_add]
  have e : Lib.ctz 64 M = Lib.ctzFrom 64 M := by simp [Lib.ctz, h0]
  rw [e]
theorem and127 (a : Int) : 0 ≤ bits .and .i64 a 127 ∧ bits .and .i64 a 127 ≤ 127 := by
  have e : bits .and .i64 a 127 = IntKind.i64.wrap ((BitVec.ofInt 64 a &&& BitVec.ofInt 64 127).toNat : Int) := rfl
  have h1 : (BitVec.ofInt 64 a &&& BitVec.ofInt 64 127).toNat ≤ 127 := by
    rw [BitVec.toNat_and]
    exact Nat.le_trans Nat.and_le_right (by decide)
  rw [e]
  generalize (BitVec.ofInt 64 a &&& BitVec.ofInt 64 127).toNat = x at h1
  simp [IntKind.wrap, IntKind.bits, IntKind.signed]
  omega

theorem ret_c (a : Int) : ∃ c : Nat, c ≤ 127 ∧ Ending.returned (.int .i64 (bits .and .i64 a 127)) = .returned (.int .i64 (c : Int)) :=
  ⟨(bits .and .i64 a 127).toNat, by have := and127 a; omega, by rw [Int.toNat_of_nonneg (and127 a).1]⟩

set_option maxRecDepth 100000 in
set_option maxHeartbeats 1000000 in
theorem onesCount_any (x : Int) (w : World) (h0 : 0 ≤ x) (h1 : x < 18446744073709551616) : Calls Tryd.prog 25 #[.int .u64 x] w fun e w' => (∃ c : Nat, c ≤ 127 ∧ e = .returned (.int .i64 (c : Int))) ∧ w = w' := by
  go_enter Tryd.func25, Tryd.ntmps25
  go_wp2
  go_ret
  exact ⟨ret_c _, rfl⟩
theorem tz_any (m : Nat) (w : World) (hm : m < 18446744073709551616) (hT : Go.Proofs.TabAt 1 Lib.deBruijn64tab w) : Calls Tryd.prog 26 #[.int .u64 m] w fun e w' => e = .returned (.int .i64 (Lib.ctz 64 m)) ∧ w = w' :=
  (Any7.bits_TrailingZeros64 Tryd.lays29 m hm w (fun _ => hT)).mono fun _ _ h => ⟨h.1, h.2.symm⟩

theorem TabAt.below {w w' : World} (h : Go.Proofs.TabAt 1 Lib.deBruijn64tab w) (hb : Below w.heap.size w w') (h1 : 1 < w.heap.size) : Go.Proofs.TabAt 1 Lib.deBruijn64tab w' :=
  fun j hj => (hb.cell (p := ⟨1, j, none⟩) h1).trans (h j hj)

set_option maxRecDepth 100000 in
set_option maxHeartbeats 2000000 in
theorem members_any (m : Nat) (w : World) (hm : m < 18446744073709551616) (hT : Go.Proofs.TabAt 1 Lib.deBruijn64tab w) (hsz : 1 < w.heap.size) :
    Calls Tryd.prog 13 #[.int .u64 m] w fun e w' => ∃ v, e = .returned v ∧ w'.ownsRow w.heap.size 3 1 v (mem 0 64 m).length (vals (mem 0 64 m)) ∧ Below w.heap.size w w' ∧ v ≠ .slice none 0 0 := by
  obtain ⟨i0, hi, hz0, hz1, hz2⟩ := info_parts info3
  have hlen := mem_len 64 0 m
  have hoc := onesCount_any (m : Int) w (by omega) (by omega)
  have hTb : Hid (∀ w', Below w.heap.size w w' → Go.Proofs.TabAt 1 Lib.deBruijn64tab w') := fun w' h => TabAt.below hT h hsz
  clear hT
  go_enter Tryd.func13, Tryd.ntmps13
  go_wp2_with (first
    | (go_at_call 25; refine hoc.mono ?_; rintro e w' ⟨⟨c, hc, rfl⟩, rfl⟩)
    | (at_make; refine wpList_make_own _ rfl _ _ 30 rfl w.heap.size 3 i0 (.int .i64 0) 1 Tryd.underlying30 hi hz0 hz1 _ _ _ c rfl rfl rfl (by rw [hz2]; omega) (by unfold maxLen; omega) (Nat.le_refl _) ?_; intro w1 hown1 hgrow1))
  have hB1 : Below w.heap.size w w1 := (Below.refl _ _).grown hgrow1 (Nat.le_refl _) (fun _ h => by cases h)
  go_loopg [0, 3] 64 (fun gk mm l wr => ∃ (M : Nat) (L : List Nat), (mem 0 64 M).length ≤ gk ∧ mm = .int .u64 M ∧ M < 18446744073709551616 ∧ wr.ownsRow w.heap.size 3 1 l L.length (vals L) ∧ Below w.heap.size w wr ∧ l ≠ .slice none 0 0 ∧ L ++ mem 0 64 M = mem 0 64 m)
  case atStart => exact ⟨m, [], hlen, rfl, hm, hown1, hB1, by simp, by rw [List.nil_append]⟩
  case round =>
    obtain ⟨M, L, hgk, rfl, hM, hown, hB, hnn, hL⟩ := hrel
    have hL' : Hid (L ++ mem 0 64 M = mem 0 64 m) := hL
    have hLl : L.length ≤ 64 := by have := congrArg List.length hL; rw [List.length_append] at this; omega

    clear hL hoc
    by_cases h0 : M = 0
    · subst h0
      have hfin : Hid (L = mem 0 64 m) := by
        have := hL'.out
        rw [mem_zero, List.append_nil] at this
        exact this
      clear hL'
      go_wp2
      go_ret
      refine ⟨_, rfl, ?_, hB, hnn⟩
      rw [← hfin.out]
      exact hown
    · have hb0 : ((M : Int) != 0) = true := by simp; omega
      have hst := mem_ctz M h0 hM
      have htz := tz_any M wr hM (hTb.out wr hB)
      have hand : bits .and .u64 (M : Int) ((M : Int) - 1) = ((M &&& (M - 1) : Nat) : Int) := by
        have := bits_and_u64_nat M (M - 1) hM (by omega)
        rw [show ((M - 1 : Nat) : Int) = (M : Int) - 1 by omega] at this
        exact this
      have hM2 : M &&& (M - 1) < 18446744073709551616 := Nat.lt_of_le_of_lt Nat.and_le_left hM
      have hgk2 : (mem 0 64 (M &&& (M - 1))).length < gk := by
        have := congrArg List.length hst
        rw [List.length_cons] at this; omega
      have hst2 : Hid ((L ++ [Lib.ctz 64 M]) ++ mem 0 64 (M &&& (M - 1)) = mem 0 64 m) := by
        show _ = _
        rw [← hL'.out, hst]; simp
      have hMp : (1 : Int) ≤ (M : Int) := by omega
      clear hst hL' h0 hgk
      generalize M &&& (M - 1) = M2 at hand hM2 hgk2 hst2
      generalize Lib.ctz 64 M = t at htz hst2
      go_wp2_with (first
        | (go_at_call 26; refine htz.mono ?_; rintro e w' ⟨rfl, rfl⟩)
        | (at_builtin; refine wpList_append_own _ rfl _ _ 30 rfl w.heap.size 3 i0 (.int .i64 0) 1 8 Tryd.underlying30 hi hz0 hz1 hz2 rfl (by decide) _ _ _ rfl (hown.alloc _) ⟨wr.heap.size, 0, none⟩ 1 1 [.int .i64 (t : Int)] rfl rfl (cell_one_new _ _ _) (fun x hx => by simp at hx; subst hx; rfl) (by unfold maxLen; omega) (by omega) (by have := hB.size; simp; omega) ?_; intro v' w3 hown' hgrow3 hnil3))
      go_roundg (mem 0 64 M2).length
      case measure => exact hgk2
      case rel =>
        have hB3 : Below w.heap.size w w3 := (hB.alloc hB.size _).grown hgrow3 (by have := hB.size; simp; omega) (fun b hb => own_block hown hb)
        refine ⟨M2, L ++ [t], Nat.le_refl _, rfl, hM2, ?_, hB3, fun h => ?_, hst2.out⟩
        · have e : vals (L ++ [t]) = vals L ++ [.int .i64 (t : Int)] := by simp [vals]
          rw [e, List.length_append]
          exact hown'
        · exact absurd (hnil3.1 h).2 (by decide)
end Go.Proofs.YtcehnibfmhbeiaaDoor
