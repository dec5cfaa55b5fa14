import Derived.Test.YtbgfeogigjjmdaaRhC
import Derived.Test.YtbgfeogigjjmdaaHxH
namespace Go.Proofs.Ytbgfeogigjjmdaa
open Go.RowKit
set_option linter.unusedVariables false

/-- What the reference's reader of a line answers. -/
def ParP (o : Except Flt (List Nat)) (e : Ending) (w w' : World) : Prop := match o with
  | .error (c, col) => e = .returned (.tuple #[.slice none 0 0, .int .i64 ((c : Nat) : Int), .int .i64 ((col : Nat) : Int)])
  | .ok all => ∃ v, e = .returned (.tuple #[v, .int .i64 0, .int .i64 0]) ∧ w'.ownsRow w.heap.size 5 1 v all.length (v8 all)
theorem dr_ok {c : Nat} (h : dg c ≤ 15) : dr c = ((dg c : Nat) : Int) := if_pos h
theorem dr_bad {c : Nat} (h : 15 < dg c) : dr c = -1 := if_neg (by omega)
theorem refDigit_same (c : Nat) (hc : c < 256) (w : World) : Calls Try.prog 38 #[.int .u8 (c : Int)] w fun e w' => e = .returned (.int .i64 (dr c)) ∧ w' = w := (refDigit_any c w hc).mono fun e w' h => ⟨h.1, h.2.symm⟩

set_option maxRecDepth 100000 in
set_option maxHeartbeats 8000000 in
theorem parse_any (s : ByteArray) (w : World) (hs : s.size < 4611686018427387904) :
    Calls Try.prog 23 #[.string s] w fun e w' => ParP (parF (nl s)) e w w' ∧ Below w.heap.size w w' := by
  obtain ⟨PF, hPF⟩ : ∃ PF, parF (nl s) = PF := ⟨_, rfl⟩
  rw [hPF]
  have hPF' : Hid (parF (nl s) = PF) := hPF
  clear hPF
  rcases Nat.eq_zero_or_pos s.size with h0 | h0
  · obtain rfl : s = ⟨#[]⟩ := by
      obtain ⟨⟨l⟩⟩ := s
      have : l = [] := List.eq_nil_of_length_eq_zero h0
      subst this; rfl
    have hp : Hid (PF = .error (107, 1)) := by
      show _ = _
      rw [← hPF'.out]; rfl
    go_enter Try.func23, Try.ntmps23
    go_wp2
    go_ret3
    exact ⟨by rw [hp.out]; rfl, Below.refl _ _⟩
  · have hse : ¬ s.toList = [] := by
      rw [ByteArray.toList_eq]
      intro e
      have e2 : s.data.toList.length = 0 := by rw [e]; rfl
      have e3 : s.size = 0 := by rw [← e2, Array.length_toList]; rfl
      omega
    have hse2 : s.toList.isEmpty = false := by simpa using hse
    have e0 : ∀ W : World, Sem.run Try.prog (Instr.index 9 (.string s) (.int .i64 0)) W = .ok (.int .u8 (s[0].toNat : Int)) W := idx s 0 h0
    have hh : (nl s).head? = some s[0].toNat := by
      have := nl_get s 0 h0
      cases hn : nl s with
      | nil => have := nl_len s; rw [hn] at this; simp at this; omega
      | cons a r => rw [hn] at this; simp at this; simp [this]
    have hc0 : s[0].toNat < 256 := UInt8.toNat_lt _
    by_cases h58 : s[0].toNat = 58
    · have y0 : ((s[0].toNat : Int) != 58) = false := by simp; omega
      have hF : Hid (badF (nl s) = badL 1 ((nl s).drop 1)) := by
        show _ = _
        unfold badF; rw [if_neg (by rw [hh, h58]; simp)]
      have hPb : Hid (∀ i, badF (nl s) = some i → PF = .error (107, i + 1)) := fun i hi => by rw [← hPF'.out]; exact parF_bad hi
      have hPg := fun hb : badF (nl s) = none => hPF'.out.symm.trans (parF_good hb)
      rw [nl_len] at hPg
      have hPg' : Hid (badF (nl s) = none → _) := hPg
      clear hPg hPF' hh
      generalize s[0].toNat = c0 at *
      clear h58
      go_enter Try.func23, Try.ntmps23
      go_wp2
      go_loopg [5] (s.size - 1) (fun gk i wr => ∃ (k : Nat), k + gk = s.size ∧ 1 ≤ k ∧ i = .int .i64 k ∧ Hid (badF (nl s) = badL k ((nl s).drop k)) ∧ w = wr)
      case atStart => exact ⟨1, by omega, by omega, rfl, hF, rfl⟩
      case round =>
        clear hF
        obtain ⟨k, hk, hk1, rfl, hF, rfl⟩ := hrel
        by_cases hlt : k < s.size
        · have hD := refDigit_any s[k].toNat w (UInt8.toNat_lt _)
          have hx : (k : Int) < (s.size : Int) := by omega
          have hx0 : (0 : Int) ≤ (k : Int) := by omega
          have hB : Hid (badF (nl s) = if 15 < dg s[k].toNat then some k else badL (k + 1) ((nl s).drop (k + 1))) := by
            show _ = _
            rw [hF.out, nl_drop s k hlt]; rfl
          clear hF
          by_cases hd : 15 < dg s[k].toNat
          · rw [dr_bad hd] at hD
            have hB2 : Hid (PF = .error (107, k + 1)) := hPb.out k (by rw [hB.out, if_pos hd])
            clear hB hd
            go_wp2_with (go_at_call 38; (with_reducible refine Calls.mono hD ?_); rintro e w2 ⟨rfl, rfl⟩)
            try simp only [Exit.inBlock, Exit.then]
            go_ret3
            exact ⟨by rw [hB2.out]; rfl, Below.refl _ _⟩
          · rw [dr_ok (by omega)] at hD
            have hd' : ¬ ((dg s[k].toNat : Nat) : Int) < 0 := by omega
            have hB2 : Hid (badF (nl s) = badL (k + 1) ((nl s).drop (k + 1))) := by show _ = _; rw [hB.out, if_neg hd]
            clear hB hd
            go_wp2_with (go_at_call 38; (with_reducible refine Calls.mono hD ?_); rintro e w2 ⟨rfl, rfl⟩)
            go_roundg (s.size - (k + 1))
            case measure => go_light; omega
            case rel => exact ⟨k + 1, by omega, by omega, by go_num, hB2, rfl⟩
        · obtain rfl : k = s.size := by omega
          have hx : ¬ (s.size : Int) < (s.size : Int) := by omega
          have hb : badF (nl s) = none := by
            rw [hF.out, List.drop_of_length_le (by rw [nl_len]; omega)]; rfl
          have hPg := hPg'.out hb
          clear hF hPg' hPb
          by_cases hn : s.size < 11
          · have hn' : (s.size : Int) < 11 := by omega
            have hB2 : Hid (PF = .error (107, s.size + 1)) := by show _ = _; rw [hPg, if_pos hn]
            clear hPg hb hn
            go_upto_region 8 with fail
            go_quiet (fail)
            go_wp2
            try simp only [Exit.inBlock, Exit.then]
            go_ret3
            exact ⟨by rw [hB2.out]; rfl, bel_drewN (Below.refl _ _)⟩
          · rw [if_neg hn] at hPg
            have hn' : ¬ (s.size : Int) < 11 := by omega
            have hd1 := dg_at s hb 1 (by omega) (by omega)
            have hd2 := dg_at s hb 2 (by omega) (by omega)
            rw [nl_get s 1 (by omega), nl_get s 2 (by omega)] at hPg
            have hD1 := fun W => refDigit_same s[1].toNat (UInt8.toNat_lt _) W
            have hD2 := fun W => refDigit_same s[2].toNat (UInt8.toNat_lt _) W
            rw [dr_ok hd1] at hD1
            rw [dr_ok hd2] at hD2
            have e1 : ∀ W : World, Sem.run Try.prog (Instr.index 9 (.string s) (.int .i64 1)) W = .ok (.int .u8 (s[1].toNat : Int)) W := idx s 1 (by omega)
            have e2 : ∀ W : World, Sem.run Try.prog (Instr.index 9 (.string s) (.int .i64 2)) W = .ok (.int .u8 (s[2].toNat : Int)) W := idx s 2 (by omega)
            have hA0 : (prs ((nl s).drop 1)).length = (s.size - 1) / 2 := by rw [prs_len, List.length_drop, nl_len]
            have hA256 : ∀ x ∈ prs ((nl s).drop 1), x < 256 := prs_lt _ (good_dg hb)
            have hXk : Hid (∀ k, 1 + 2 * k + 1 < s.size → ∃ x1 x2 c1 c2 : Nat, c1 < 256 ∧ c2 < 256 ∧ x1 ≤ 15 ∧ x2 ≤ 15 ∧ (prs ((nl s).drop 1)).getD k 0 = 16 * x1 + x2 ∧ (∀ W : World, Sem.run Try.prog (Instr.index 9 (.string s) (.int .i64 ((1 + 2 * k : Nat) : Int))) W = .ok (.int .u8 (c1 : Int)) W) ∧ (∀ W : World, Sem.run Try.prog (Instr.index 9 (.string s) (.int .i64 (((1 + 2 * k : Nat) : Int) + 1))) W = .ok (.int .u8 (c2 : Int)) W) ∧ (∀ W : World, Calls Try.prog 38 #[.int .u8 (c1 : Int)] W fun e w' => e = .returned (.int .i64 (x1 : Int)) ∧ w' = W) ∧ (∀ W : World, Calls Try.prog 38 #[.int .u8 (c2 : Int)] W fun e w' => e = .returned (.int .i64 (x2 : Int)) ∧ w' = W)) := by
              intro k hk2
              have g1 := dg_at s hb (1 + 2 * k) (by omega) (by omega)
              have g2 := dg_at s hb (1 + 2 * k + 1) (by omega) (by omega)
              refine ⟨dg s[1 + 2 * k].toNat, dg s[1 + 2 * k + 1].toNat, s[1 + 2 * k].toNat, s[1 + 2 * k + 1].toNat, UInt8.toNat_lt _, UInt8.toNat_lt _, g1, g2, ?_, idx s (1 + 2 * k) (by omega), idx s (1 + 2 * k + 1) hk2, ?_, ?_⟩
              · rw [prs_get _ k (by rw [List.length_drop, nl_len]; omega)]
                have e1 : ((nl s).drop 1).getD (2 * k) 0 = (nl s).getD (1 + 2 * k) 0 := by rw [List.getD_eq_getElem?_getD, List.getD_eq_getElem?_getD, List.getElem?_drop]
                have e2 : ((nl s).drop 1).getD (2 * k + 1) 0 = (nl s).getD (1 + 2 * k + 1) 0 := by rw [List.getD_eq_getElem?_getD, List.getD_eq_getElem?_getD, List.getElem?_drop, ← Nat.add_assoc]
                rw [e1, e2, nl_get s _ (by omega), nl_get s _ (by omega)]
              · rw [← dr_ok g1]; exact refDigit_same _ (UInt8.toNat_lt _)
              · rw [← dr_ok g2]; exact refDigit_same _ (UInt8.toNat_lt _)
            generalize prs ((nl s).drop 1) = ALL at *
            generalize s[1].toNat = c1 at *
            generalize s[2].toNat = c2 at *
            generalize dg c1 = x1 at *
            generalize dg c2 = x2 at *
            by_cases hne : s.size = 11 + 2 * (16 * x1 + x2)
            · rw [if_neg (by simpa using hne)] at hPg
              have hne' : ((s.size : Int) != 11 + 2 * (16 * (x1 : Int) + (x2 : Int))) = false := by simp; omega
              have hAl : Hid (ALL.length = 5 + (16 * x1 + x2)) := by show _ = _; rw [hA0, hne]; omega
              have hne1 : s.size ≤ 11 + 2 * (16 * x1 + x2) := by omega
              have hne2 : 11 + 2 * (16 * x1 + x2) ≤ s.size := by omega
              have hPg' : Hid (PF = _) := hPg
              clear hPg hb hne hA0 hn
              go_upto_region 8 with fail
              go_quiet ((go_at_call 38; first | with_reducible exact Calls.quiet_of_same (hD1 _) | with_reducible exact Calls.quiet_of_same (hD2 _)))
              clear hD1 hD2 e1 e2 e0 hne'
              have hcl : 16 * x1 + x2 ≤ 255 := by omega
              generalize 16 * x1 + x2 = cnt at *
              clear hd1 hd2
              obtain ⟨i5, hi, hz0, hz1, hz2⟩ := info_parts info5
              go_wp2
              go_loopg [6, 7, 8] (5 + cnt) (fun gk v sm i wr => ∃ (k S p : Nat), k + gk = 5 + cnt ∧ i = .int .i64 (p : Int) ∧ Hid (p = 1 + 2 * k) ∧ sm = .int .i64 (S : Int) ∧ S ≤ 256 * k ∧ Hid (S = (ALL.take k).sum) ∧ Hid (wr.ownsRow w.heap.size 5 1 v k (v8 (ALL.take k))) ∧ Hid (Below w.heap.size w wr))
              case atStart => exact ⟨0, 0, 1, by omega, rfl, rfl, rfl, by omega, rfl, World.ownsRow_nil _ _ _ _, bel_drewN (Below.refl _ _)⟩
              case round =>
                obtain ⟨k, S, p, hk, rfl, hp, rfl, hS, hSe, hOw, hBe⟩ := hrel
                have hpe := hp.out
                by_cases hlt : k < 5 + cnt
                · have hp1 : (p : Int) < (s.size : Int) := by omega
                  have hp2 : p < 1000 := by omega
                  obtain ⟨x1, x2, c1, c2, hc1, hc2, hx1, hx2, hxe, f1, f2, hD1, hD2⟩ := hXk.out k (by omega)
                  rw [← hpe] at f1 f2
                  have hkA : k < ALL.length := by rw [hAl.out]; exact hlt
                  have hT : Hid (ALL.take (k + 1) = ALL.take k ++ [16 * x1 + x2]) := by
                    show _ = _
                    rw [← hxe, List.take_succ_eq_append_getElem hkA, List.getD_eq_getElem?_getD, List.getElem?_eq_getElem hkA]; rfl
                  have hx8 : 16 * x1 + x2 < 256 := by omega
                  have hq0 : (16 * (x1 : Int) + (x2 : Int)) = ((16 * x1 + x2 : Nat) : Int) := by omega
                  generalize 16 * x1 + x2 = x at *
                  have hS' : Hid (S + x = (ALL.take (k + 1)).sum) := by show _ = _; rw [hT.out, List.sum_append, ← hSe.out]; simp
                  have hq1 : Hid (k + 1 ≤ maxLen) := by show _ ≤ _; unfold maxLen; omega
                  have hws := hBe.out.size
                  clear hpe hxe hkA hSe hXk
                  go_upto_region 15 with fail
                  go_quiet ((go_at_call 38; first | with_reducible exact Calls.quiet_of_same (hD1 _) | with_reducible exact Calls.quiet_of_same (hD2 _)))
                  go_upto_region 17 with fail
                  have hOn : ∀ n, (wr.drewN n).ownsRow w.heap.size 5 1 u6 k (v8 (ALL.take k)) := fun n => own_only hOw.out (Only.of_below (S := fun _ => False) (bel_drewN (Below.refl _ _))) (fun _ _ h => h)
                  have hBn : ∀ n, Below w.heap.size w (wr.drewN n) := fun n => bel_drewN hBe.out
                  generalize hWn : wr.drewN _ = W1
                  have hO1 : W1.ownsRow w.heap.size 5 1 u6 k (v8 (ALL.take k)) := by rw [← hWn]; exact hOn _
                  have hB1 : Below w.heap.size w W1 := by rw [← hWn]; exact hBn _
                  clear hOn hBn hWn hOw hBe hD1 hD2 f1 f2
                  have hws1 := hB1.size
                  go_wp2_with ((at_builtin; refine wpList_append_lies _ rfl _ _ 22 rfl w.heap.size 5 i5 _ 1 1 Try.underlying22 hi hz0 hz1 hz2 rfl (by decide) u6 k (v8 (ALL.take k)) rfl (hO1.alloc _) ⟨W1.heap.size, 0, none⟩ 1 1 [.int .u8 (x : Int)] rfl rfl (fun j u hj => by rw [Go.WideShapes.add_plain, Nat.zero_add, (Has.new W1 #[.int .u8 (x : Int)] 5 rfl).2.1 j]; simpa using hj) (fun u hu => by simp at hu; rw [hu]; rfl) (by decide) hq1.out (by omega) (by simp; omega) (W1.heap.size + 1) (by simp) ?_; intro g6 C6 w6 own6 hg6 hat6 hlt6))
                  go_roundg (5 + cnt - (k + 1))
                  case measure => go_light; omega
                  case rel => exact ⟨k + 1, S + x, p + 2, by omega, by go_num, by show _ = _; have := hp.out; omega, by go_num, by omega, hS'.out, by rw [hT.out, v8_app]; exact own6, (hB1.alloc hws1 (.cells #[.int .u8 (x : Int)] 5)).grown hg6 (by simp; omega) (fun q hq => (hO1.lt q hq).1)⟩
                · have hp1 : ¬ (p : Int) < (s.size : Int) := by omega
                  have hkk : k = 5 + cnt := by omega
                  have htk : ALL.take k = ALL := List.take_of_length_le (by rw [hAl.out]; omega)
                  rw [htk] at hOw hSe
                  have hOk : Hid (wr.ownsRow w.heap.size 5 1 u6 ALL.length (v8 ALL)) := by show wr.ownsRow _ _ _ _ _ _; rw [hAl.out, ← hkk]; exact hOw.out
                  have hSe2 : Hid (S % 256 = ALL.sum % 256) := by show _ = _; rw [hSe.out]
                  clear htk hOw hSe hXk hpe
                  by_cases hS0 : S % 256 = 0
                  · have hS0' : ((S : Int) % 256 != 0) = false := by simp; omega
                    have hB2 : Hid (PF = .ok ALL) := by show _ = _; rw [hPg'.out, if_neg (by rw [← hSe2.out]; simpa using hS0)]
                    clear hPg' hS0
                    go_wp2
                    try simp only [Exit.inBlock, Exit.then]
                    go_ret3
                    exact ⟨by rw [hB2.out]; exact ⟨_, rfl, hOk.out⟩, hBe.out⟩
                  · have hS0' : ((S : Int) % 256 != 0) = true := by simp; omega
                    have hB2 : Hid (PF = .error (105, s.size - 1)) := by show _ = _; rw [hPg'.out, if_pos (by rw [← hSe2.out]; simpa using hS0)]
                    have hsz : ((s.size - 1 : Nat) : Int) = (s.size : Int) - 1 := by omega
                    clear hPg' hS0
                    go_wp2
                    try simp only [Exit.inBlock, Exit.then]
                    go_ret3
                    exact ⟨by rw [hB2.out]; show _ = _; rw [hsz]; rfl, hBe.out⟩
            · rw [if_pos (by simpa using hne)] at hPg
              have hne' : ((s.size : Int) != 11 + 2 * (16 * (x1 : Int) + (x2 : Int))) = true := by simp; omega
              have hB2 : Hid (PF = .error (107, s.size + 1)) := hPg
              clear hPg hb hne hA0 hXk hn
              go_upto_region 8 with fail
              go_quiet ((go_at_call 38; first | with_reducible exact Calls.quiet_of_same (hD1 _) | with_reducible exact Calls.quiet_of_same (hD2 _)))
              go_wp2
              try simp only [Exit.inBlock, Exit.then]
              go_ret3
              exact ⟨by rw [hB2.out]; rfl, bel_drewN (Below.refl _ _)⟩
    · have y0 : ((s[0].toNat : Int) != 58) = true := by simp; omega
      have hp : Hid (PF = .error (107, 1)) := by
        show _ = _
        rw [← hPF'.out]
        exact parF_bad (i := 0) (by unfold badF; rw [if_pos (by rw [hh]; simpa using h58)])
      generalize s[0].toNat = c0 at *
      clear h58 hh hPF'
      go_enter Try.func23, Try.ntmps23
      go_wp2
      go_ret3
      exact ⟨by rw [hp.out]; rfl, Below.refl _ _⟩
end Go.Proofs.Ytbgfeogigjjmdaa
