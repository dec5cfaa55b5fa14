import Derived.Test.YtjohnhaahpggkabDoorStrA
import Derived.WalkMore
namespace Go.Proofs.YtjohnhaahpggkabDoor
open Go.RowKit
set_option linter.unusedVariables false

/-- The cells that a cutter keeps: the index, the line, where it begins. -/
structure Cutter (w : World) (ba bs bl bb : Nat) (s : ByteArray) (k : Nat) : Prop where
  at' : Has w ba #[.int .i64 (k : Int)]
  src : Has w bs #[.string s]
  line : Has w bl #[.int .i64 (lineAt s k)]
  beg : Has w bb #[.int .i64 (begAt s k)]
/-- The blocks are four. -/
structure Four (ba bs bl bb : Nat) : Prop where
  h1 : ba ≠ bs
  h2 : ba ≠ bl
  h3 : ba ≠ bb
  h4 : bs ≠ bl
  h5 : bs ≠ bb
  h6 : bl ≠ bb
  h7 : ba ≠ 2
  h8 : bl ≠ 2
  h9 : bb ≠ 2

theorem Cutter.below {w w' : World} {ba bs bl bb : Nat} {s : ByteArray} {k : Nat} (h : Cutter w ba bs bl bb s k) (hb : Below w.heap.size w w') : Cutter w' ba bs bl bb s k :=
  ⟨h.at'.below hb, h.src.below hb, h.line.below hb, h.beg.below hb⟩
theorem Cutter.next {w : World} {ba bs bl bb : Nat} {s : ByteArray} {k : Nat} (h : Cutter w ba bs bl bb s k) (f : Four ba bs bl bb) (hl : lineAt s (k + 1) = lineAt s k) (hb : begAt s (k + 1) = begAt s k) :
    Cutter (w.setCell ⟨ba, 0, none⟩ (.int .i64 ((k : Int) + 1))) ba bs bl bb s (k + 1) :=
  ⟨h.at'.set 0 (by simp) _, h.src.far (Ne.symm f.h1) _, by rw [hl]; exact h.line.far (Ne.symm f.h2) _, by rw [hb]; exact h.beg.far (Ne.symm f.h3) _⟩
theorem Cutter.nl {w : World} {ba bs bl bb : Nat} {s : ByteArray} {k : Nat} (h : Cutter w ba bs bl bb s k) (f : Four ba bs bl bb) (hl : lineAt s (k + 1) = lineAt s k + 1) (hb : begAt s (k + 1) = (k : Int) + 1) :
    Cutter ((((w.setCell ⟨bl, 0, none⟩ (.int .i64 (lineAt s k + 1))).setCell ⟨bb, 0, none⟩ (.int .i64 ((k : Int) + 1))).setCell ⟨ba, 0, none⟩ (.int .i64 ((k : Int) + 1))).drew) ba bs bl bb s (k + 1) :=
  ⟨((h.at'.far f.h2 _).far f.h3 _).set 0 (by simp) _, ((h.src.far f.h4 _).far f.h5 _).far (Ne.symm f.h1) _,
    by rw [hl]; exact ((h.line.set 0 (by simp) _).far f.h6 _).far (Ne.symm f.h2) _, by rw [hb]; exact ((h.beg.far (Ne.symm f.h6) _).set 0 (by simp) _).far (Ne.symm f.h3) _⟩
theorem Cutter.jump {w : World} {ba bs bl bb : Nat} {s : ByteArray} {k q : Nat} (h : Cutter w ba bs bl bb s k) (f : Four ba bs bl bb) (hl : lineAt s q = lineAt s k) (hb : begAt s q = begAt s k) (x : Value) :
    Cutter ((w.setCell ⟨ba, 0, none⟩ x).setCell ⟨ba, 0, none⟩ (.int .i64 (q : Int))) ba bs bl bb s q :=
  ⟨(h.at'.set 0 (by simp) _).set 0 (by simp) _, (h.src.far (Ne.symm f.h1) _).far (Ne.symm f.h1) _, by rw [hl]; exact (h.line.far (Ne.symm f.h2) _).far (Ne.symm f.h2) _, by rw [hb]; exact (h.beg.far (Ne.symm f.h3) _).far (Ne.symm f.h3) _⟩

theorem first_le (l : List UInt8) : (firstTk l).2 ≤ l.length := by
  cases l with
  | nil => exact Nat.le_refl _
  | cons c r =>
    have hpre : (runL (c :: r)).length ≤ (c :: r).length := (List.takeWhile_prefix isR).length_le
    cases hL : isL c with
    | true => rw [first_L c r hL]; exact hpre
    | false =>
      cases hD : isD c with
      | true => rw [first_D c r hL hD]; exact hpre
      | false =>
        rw [first_S c r hL hD]
        unfold signTk
        split
        · rename_i h; exact h.1
        · split <;> simp
theorem tail_list (s : ByteArray) (k : Nat) : (s.extract k s.size).data.toList = s.data.toList.drop k := by
  rw [Lib.extract_data]; exact List.take_of_length_le (by simp)

set_option maxRecDepth 100000 in
set_option maxHeartbeats 4000000 in
theorem cutter1_any (s : ByteArray) (i ba bs bl bb : Nat) (W : World) (hs : s.size < 4611686018427387904) (hi : i ≤ s.size) (hW : Wt W) (f : Four ba bs bl bb) (hC : Cutter W ba bs bl bb s i) :
    Calls Tryd.prog 38 #[.pointer (some ⟨ba, 0, none⟩), .pointer (some ⟨bs, 0, none⟩), .pointer (some ⟨bl, 0, none⟩), .pointer (some ⟨bb, 0, none⟩)] W fun e W' =>
      e = .returned (tokAt s (skipAt s i)).v ∧ Only (fun k => k = ba ∨ k = bl ∨ k = bb) W W' ∧ Has W' ba #[.int .i64 ((skipAt s i + sizeAt s (skipAt s i) : Nat) : Int)] ∧ Has W' bl #[.int .i64 (lineAt s (skipAt s i))] ∧ Has W' bb #[.int .i64 (begAt s (skipAt s i))] := by
  have hJ : Hid (skipAt s i = skipAt s i) := rfl
  go_enter Tryd.func38, Tryd.ntmps38
  go_wp2
  go_step3
  go_wp2
  go_step3
  go_wp2
  go_loopg [7] (s.size - i) (fun gk t7 wr => ∃ k : Nat, gk = s.size - k ∧ k ≤ s.size ∧ skipAt s k = skipAt s i ∧ Cutter wr ba bs bl bb s k ∧ Has wr W.heap.size #[.int .i64 0, .int .i32 0, .string ⟨#[]⟩, .int .i64 0, .int .i64 0] ∧ Only (fun k => k = ba ∨ k = bl ∨ k = bb) W wr)
  case atStart => exact ⟨i, rfl, hi, rfl, hC.below ((Below.refl _ _).alloc (Nat.le_refl _) _), Has.new _ _ _ rfl, (Only.refl _ _).alloc _⟩
  case round =>
    obtain ⟨k, hgk, hk, hsk, hCw, hR, hO⟩ := hrel
    have HS : Hid (skipAt s k = skipAt s i) := hsk
    clear hsk
    have bl' := lineAt_bd s k
    have bb' := begAt_bd s k
    obtain ⟨a0, A1, a2⟩ := id hCw.at'
    obtain ⟨s0, S1, s2⟩ := id hCw.src
    obtain ⟨l0, L1, l2⟩ := id hCw.line
    obtain ⟨b0, B1, b2⟩ := id hCw.beg
    obtain ⟨r0, R1, r2⟩ := id hR
    have f2 := f.h2
    have f3 := f.h3
    have f6 := f.h6
    have hba := hC.at'.1
    have hbl := hC.line.1
    have hbb := hC.beg.1
    by_cases hlt : k < s.size
    · by_cases h10 : (s[k].toNat : Int) = 10
      · have hb : isB s[k] = true := by unfold isB; simp; omega
        have HN : Hid (skipAt s (k + 1) = skipAt s i) := (skip_blank s k hlt hb).symm.trans HS.out
        have HL : Hid (lineAt s (k + 1) = lineAt s k + 1) := lineAt_hit s k hlt h10
        have HB : Hid (begAt s (k + 1) = k + 1) := begAt_hit s k hlt h10
        clear hb
        go_wp2
        go_region_with (fail)
        all_goals
          go_wp2
          go_roundg (gk - 1)
          case measure => go_light; omega
          case rel => exact ⟨k + 1, by omega, by omega, HN.out, hCw.nl f HL.out HB.out, ((hR.far (by omega) _).far (by omega) _).far (by omega) _, (((hO.set (.inr (.inl rfl)) _).set (.inr (.inr rfl)) _).set (.inl rfl) _).drew⟩
      · by_cases h32 : (s[k].toNat : Int) = 32
        · have hb : isB s[k] = true := by unfold isB; simp; omega
          have HN : Hid (skipAt s (k + 1) = skipAt s i) := (skip_blank s k hlt hb).symm.trans HS.out
          have hl1 := lineAt_miss s k hlt h10
          have hb1 := begAt_miss s k hlt h10
          have HC := hid_of (hCw.next f hl1 hb1)
          clear hb hl1 hb1 h10
          go_wp2
          go_roundg (gk - 1)
          case measure => go_light; omega
          case rel => exact ⟨k + 1, by omega, by omega, HN.out, HC.out, hR.far (by omega) _, hO.set (.inl rfl) _⟩
        · by_cases h9 : (s[k].toNat : Int) = 9
          · have hb : isB s[k] = true := by unfold isB; simp; omega
            have HN : Hid (skipAt s (k + 1) = skipAt s i) := (skip_blank s k hlt hb).symm.trans HS.out
            have hl1 := lineAt_miss s k hlt h10
            have hb1 := begAt_miss s k hlt h10
            have HC := hid_of (hCw.next f hl1 hb1)
            clear hb hl1 hb1 h10
            go_wp2
            go_roundg (gk - 1)
            case measure => go_light; omega
            case rel => exact ⟨k + 1, by omega, by omega, HN.out, HC.out, hR.far (by omega) _, hO.set (.inl rfl) _⟩
          · by_cases h13 : (s[k].toNat : Int) = 13
            · have hb : isB s[k] = true := by unfold isB; simp; omega
              have HN : Hid (skipAt s (k + 1) = skipAt s i) := (skip_blank s k hlt hb).symm.trans HS.out
              have hl1 := lineAt_miss s k hlt h10
              have hb1 := begAt_miss s k hlt h10
              have HC := hid_of (hCw.next f hl1 hb1)
              clear hb hl1 hb1 h10
              go_wp2
              go_roundg (gk - 1)
              case measure => go_light; omega
              case rel => exact ⟨k + 1, by omega, by omega, HN.out, HC.out, hR.far (by omega) _, hO.set (.inl rfl) _⟩
            · by_cases h35 : (s[k].toNat : Int) = 35
              · obtain ⟨q, hq1, hq2, hq3, hq4, hq5⟩ := lEnd_ex s k (by omega)
                have hkq : k < q := by
                  rcases Nat.lt_or_ge k q with h | h
                  · exact h
                  · exfalso
                    have : q = k := by omega
                    subst this
                    rcases hq5 with h | ⟨_, h⟩
                    · omega
                    · exact h10 ((ten_iff _).2 h)
                have HN : Hid (skipAt s q = skipAt s i) := (skip_comment s k q hlt (by omega) hkq hq3 hq4 hq5).symm.trans HS.out
                have hst := still s k (q - k) (by omega) (fun j hj a b e => hq4 j hj a (by omega) ((ten_iff _).1 e))
                rw [show k + (q - k) = q by omega] at hst
                have HL : Hid (lineAt s q = lineAt s k) := hst.1
                have HB : Hid (begAt s q = begAt s k) := hst.2
                have hCe := fun w => commentEnd_any s k w hs (by omega)
                rw [hq1] at hCe
                clear hq1 hq4 hq5 hst
                go_wp2_with (go_at_call 39; (with_reducible refine (hCe _).mono ?_); rintro e w1 ⟨rfl, hwe⟩; subst hwe)
                go_roundg (s.size - q)
                case measure => go_light; omega
                case rel => exact ⟨q, by omega, by omega, HN.out, hCw.jump f HL.out HB.out _, (hR.far (by omega) _).far (by omega) _, (hO.set (.inl rfl) _).set (.inl rfl) _⟩
              · have HJ : Hid (skipAt s i = k) := by
                  show _ = _
                  rw [← HS.out]
                  exact skip_stop s k hlt (by unfold isB; simp; omega) (by omega)
                have hF := firstToken_any (s.extract k s.size) wr (by simp; omega) (hW.only hO (by simp; have := f.h7; have := f.h8; have := f.h9; omega))
                rw [tail_list] at hF
                clear hgk
                have e1 : Hid ((tokAt s k).v = tokV (firstTk (s.data.toList.drop k)).1 (lineAt s k) (colAt s k)) := rfl
                have e2 : Hid (sizeAt s k = (firstTk (s.data.toList.drop k)).2) := rfl
                have hz := first_le (s.data.toList.drop k)
                have hz2 : (s.data.toList.drop k).length = s.size - k := by simp
                rw [hz2] at hz
                clear hz2
                generalize firstTk (s.data.toList.drop k) = T at hF e1 e2 hz
                obtain ⟨⟨kk, nn, xx⟩, zz⟩ := T
                simp only at hF hz
                have hz3 : (k : Int) + (zz : Int) ≤ 9223372036854775807 := by omega
                have hz4 : (0 : Int) ≤ (k : Int) + (zz : Int) := by omega
                rw [tokV_eq] at hF
                generalize hX : _root_.Go.Proofs.YtjohnhaahpggkabDoor.bs xx = BX at hF
                go_wp2_with (go_at_call 35; (with_reducible refine hF.mono ?_); rintro e w1 ⟨rfl, hb1⟩; have hC1 := hCw.below hb1; have hR1 := hR.below hb1; obtain ⟨a0', A1', a2'⟩ := id hC1.at'; obtain ⟨s0', S1', s2'⟩ := id hC1.src; obtain ⟨l0', L1', l2'⟩ := id hC1.line; obtain ⟨b0', B1', b2'⟩ := id hC1.beg; obtain ⟨r0', R1', r2'⟩ := id hR1; clear A1 S1 L1 B1 R1 a2 s2 l2 b2 r2)
                rw [Exit.noGoto_ret]
                have hY := ((hR1.far (show W.heap.size ≠ ba by omega) (i := 0) (.int .i64 ((k : Int) + zz))).set5 (.int .i64 kk) (.int .i32 nn) (.string BX) (.int .i64 (lineAt s k)) (.int .i64 ((k : Int) - begAt s k + 1))).alloc (Obj.cells #[.int .i64 kk, .int .i32 nn, .string BX, .int .i64 (lineAt s k), .int .i64 ((k : Int) - begAt s k + 1)] 27)
                obtain ⟨y0, Y1, y2⟩ := hY
                have hOf := ((hO.below hb1).set (i := 0) (.inl rfl) (.int .i64 ((k : Int) + zz)))
                exact bodyPost_ret (v := .agg #[.int .i64 kk, .int .i32 nn, .string BX, .int .i64 (lineAt s k), .int .i64 ((k : Int) - begAt s k + 1)]) (by simp [results, Tryd.results38, go_sem, Y1]) rfl
                  ⟨by rw [HJ.out, e1.out, tokV_eq, hX, colAt_beg], (((((hOf.set_new (Nat.le_refl _) _).set_new (Nat.le_refl _) _).set_new (Nat.le_refl _) _).set_new (Nat.le_refl _) _).set_new (Nat.le_refl _) _).alloc _,
                    by rw [HJ.out, e2.out]; exact ((((((hC1.at'.set 0 (by simp) _).far (by omega) _).far (by omega) _).far (by omega) _).far (by omega) _).far (by omega) _).alloc _,
                    by rw [HJ.out]; exact ((((((hC1.line.far (Ne.symm f.h2) _).far (by omega) _).far (by omega) _).far (by omega) _).far (by omega) _).far (by omega) _).alloc _,
                    by rw [HJ.out]; exact ((((((hC1.beg.far (Ne.symm f.h3) _).far (by omega) _).far (by omega) _).far (by omega) _).far (by omega) _).far (by omega) _).alloc _⟩
    · have hkz : k = s.size := by omega
      have HJ : Hid (skipAt s i = k) := by
        show _ = _
        rw [← HS.out]
        exact skip_end s k (by omega)
      have hlt' : ¬ (k : Int) < (s.size : Int) := by omega
      clear hkz
      have hF := firstToken_any (s.extract k s.size) wr (by simp; omega) (hW.only hO (by simp; have := f.h7; have := f.h8; have := f.h9; omega))
      rw [tail_list] at hF
      clear hgk
      have e1 : Hid ((tokAt s k).v = tokV (firstTk (s.data.toList.drop k)).1 (lineAt s k) (colAt s k)) := rfl
      have e2 : Hid (sizeAt s k = (firstTk (s.data.toList.drop k)).2) := rfl
      have hz := first_le (s.data.toList.drop k)
      have hz2 : (s.data.toList.drop k).length = s.size - k := by simp
      rw [hz2] at hz
      clear hz2
      generalize firstTk (s.data.toList.drop k) = T at hF e1 e2 hz
      obtain ⟨⟨kk, nn, xx⟩, zz⟩ := T
      simp only at hF hz
      have hz3 : (k : Int) + (zz : Int) ≤ 9223372036854775807 := by omega
      have hz4 : (0 : Int) ≤ (k : Int) + (zz : Int) := by omega
      rw [tokV_eq] at hF
      generalize hX : _root_.Go.Proofs.YtjohnhaahpggkabDoor.bs xx = BX at hF
      go_wp2_with (go_at_call 35; (with_reducible refine hF.mono ?_); rintro e w1 ⟨rfl, hb1⟩; have hC1 := hCw.below hb1; have hR1 := hR.below hb1; obtain ⟨a0', A1', a2'⟩ := id hC1.at'; obtain ⟨s0', S1', s2'⟩ := id hC1.src; obtain ⟨l0', L1', l2'⟩ := id hC1.line; obtain ⟨b0', B1', b2'⟩ := id hC1.beg; obtain ⟨r0', R1', r2'⟩ := id hR1; clear A1 S1 L1 B1 R1 a2 s2 l2 b2 r2)
      rw [Exit.noGoto_ret]
      have hY := ((hR1.far (show W.heap.size ≠ ba by omega) (i := 0) (.int .i64 ((k : Int) + zz))).set5 (.int .i64 kk) (.int .i32 nn) (.string BX) (.int .i64 (lineAt s k)) (.int .i64 ((k : Int) - begAt s k + 1))).alloc (Obj.cells #[.int .i64 kk, .int .i32 nn, .string BX, .int .i64 (lineAt s k), .int .i64 ((k : Int) - begAt s k + 1)] 27)
      obtain ⟨y0, Y1, y2⟩ := hY
      have hOf := ((hO.below hb1).set (i := 0) (.inl rfl) (.int .i64 ((k : Int) + zz)))
      exact bodyPost_ret (v := .agg #[.int .i64 kk, .int .i32 nn, .string BX, .int .i64 (lineAt s k), .int .i64 ((k : Int) - begAt s k + 1)]) (by simp [results, Tryd.results38, go_sem, Y1]) rfl
        ⟨by rw [HJ.out, e1.out, tokV_eq, hX, colAt_beg], (((((hOf.set_new (Nat.le_refl _) _).set_new (Nat.le_refl _) _).set_new (Nat.le_refl _) _).set_new (Nat.le_refl _) _).set_new (Nat.le_refl _) _).alloc _,
          by rw [HJ.out, e2.out]; exact ((((((hC1.at'.set 0 (by simp) _).far (by omega) _).far (by omega) _).far (by omega) _).far (by omega) _).far (by omega) _).alloc _,
          by rw [HJ.out]; exact ((((((hC1.line.far (Ne.symm f.h2) _).far (by omega) _).far (by omega) _).far (by omega) _).far (by omega) _).far (by omega) _).alloc _,
          by rw [HJ.out]; exact ((((((hC1.beg.far (Ne.symm f.h3) _).far (by omega) _).far (by omega) _).far (by omega) _).far (by omega) _).far (by omega) _).alloc _⟩
end Go.Proofs.YtjohnhaahpggkabDoor
