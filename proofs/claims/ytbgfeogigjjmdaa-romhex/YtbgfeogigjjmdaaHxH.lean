import Derived.Test.YtbgfeogigjjmdaaHxG
import Derived.OwnWalk
namespace Go.Proofs.Ytbgfeogigjjmdaa
open Go.RowKit
set_option linter.unusedVariables false

theorem grown_none {w w' : World} (h : w.grownBy w' none) : Below w.heap.size w w' := ⟨h.os, h.tape, h.output, h.size, fun k hk => h.block k hk (by simp)⟩
theorem parF_bad {l : List Nat} {i : Nat} (h : badF l = some i) : parF l = .error (107, i + 1) := by
  unfold badF at h
  unfold parF
  by_cases h1 : l.head? = some 58
  · rw [if_neg (by simpa using h1)] at h
    rw [if_neg (by simpa using h1), h]
  · rw [if_pos h1] at h
    rw [if_pos h1]
    cases h; rfl
theorem parF_good {l : List Nat} (h : badF l = none) : parF l = (if l.length < 11 then .error (107, l.length + 1)
      else if l.length ≠ 11 + 2 * (16 * dg (l.getD 1 0) + dg (l.getD 2 0)) then .error (107, l.length + 1)
      else if (prs (l.drop 1)).sum % 256 ≠ 0 then .error (105, l.length - 1)
      else .ok (prs (l.drop 1))) := by
  unfold badF at h
  unfold parF
  by_cases h1 : l.head? = some 58
  · rw [if_neg (by simpa using h1)] at h
    rw [if_neg (by simpa using h1), h]
  · rw [if_pos h1] at h; cases h
theorem good_dg {l : List Nat} (h : badF l = none) : ∀ c ∈ l.drop 1, dg c ≤ 15 := by
  unfold badF at h
  split at h
  · cases h
  · exact (badL_none _ _).1 h
theorem dg_at (s : ByteArray) (h : badF (nl s) = none) (k : Nat) (h1 : 1 ≤ k) (h2 : k < s.size) : dg s[k].toNat ≤ 15 := by
  refine good_dg h _ ?_
  have hk : k < (nl s).length := by rw [nl_len]; exact h2
  have e : (nl s)[k] = s[k].toNat := by
    have := nl_get s k h2
    rw [List.getD_eq_getElem?_getD, List.getElem?_eq_getElem hk] at this
    exact this
  rw [← e]
  rw [List.mem_drop_iff_getElem]
  exact ⟨k - 1, by omega, by congr 1; omega⟩
theorem prs_get : ∀ (l : List Nat) (k : Nat), 2 * k + 1 < l.length → (prs l).getD k 0 = 16 * dg (l.getD (2 * k) 0) + dg (l.getD (2 * k + 1) 0)
  | a :: b :: r, 0, h => by simp [prs]
  | a :: b :: r, k + 1, h => by
    have := prs_get r k (by simp at h; omega)
    simp only [prs, List.getD_cons_succ, this, show 2 * (k + 1) = 2 * k + 1 + 1 by omega]
  | [], k, h => by simp at h
  | [a], k, h => by simp at h
theorem sl_lh (g o k C l h : Nat) (hl : l ≤ h) (hh : h ≤ C) (hC : ¬ C = l) (L H : Int) (eL : L = (l : Int)) (eH : H = (h : Int)) (w : World) :
    Sem.run Try.prog (Instr.slice 22 (.slice (some ⟨g, o, none⟩) k C) (some (.int .i64 L)) (some (.int .i64 H)) none) w = .ok (.slice (some ⟨g, o + l, none⟩) (h - l) (C - l)) w := by
  subst eL eH
  have h1 : (0 : Int) ≤ (l : Int) := by omega
  have h2 : (l : Int) ≤ (h : Int) := by omega
  have h3 : (h : Int) ≤ (C : Int) := by omega
  simp [go_sem, h1, h2, h3, hC]
theorem drewN_cell (W : World) (n : Nat) (a : Addr) : (W.drewN n).cell? a = W.cell? a := by
  induction n with
  | zero => rfl
  | succ n ih => exact ih
theorem keep3 {W : World} {g r : Nat} {u1 u2 u3 v0 v1 v2 : Value} (hg : g ≠ r) (h : W.cell? ⟨g, 3, none⟩ = some u3 ∧ W.cell? ⟨g, 1, none⟩ = some u1 ∧ W.cell? ⟨g, 2, none⟩ = some u2) :
    (((W.setCell ⟨r, 0, none⟩ v0).setCell ⟨r, 1, none⟩ v1).setCell ⟨r, 2, none⟩ v2).cell? ⟨g, 3, none⟩ = some u3 ∧ (((W.setCell ⟨r, 0, none⟩ v0).setCell ⟨r, 1, none⟩ v1).setCell ⟨r, 2, none⟩ v2).cell? ⟨g, 1, none⟩ = some u1 ∧ (((W.setCell ⟨r, 0, none⟩ v0).setCell ⟨r, 1, none⟩ v1).setCell ⟨r, 2, none⟩ v2).cell? ⟨g, 2, none⟩ = some u2 := by
  have key : ∀ (V : World) (i j : Nat) (v : Value), (V.setCell ⟨r, i, none⟩ v).cell? ⟨g, j, none⟩ = V.cell? ⟨g, j, none⟩ := fun V i j v =>
    World.cell?_setCell_other V ⟨r, i, none⟩ ⟨g, j, none⟩ v (by intro e; exact hg (congrArg Addr.block e).symm)
  simp only [key]
  exact h
theorem Bs.only {S : Nat → Prop} {w w' : World} {g o : Nat} {L : List Nat} (h : Bs w (some ⟨g, o, none⟩) L) (ho : Only S w w') (hg : ¬ S g) : Bs w' (some ⟨g, o, none⟩) L := by
  refine ⟨h.1, h.2.imp id ?_⟩
  rintro ⟨b', o', e, h1, h2⟩
  cases e
  exact ⟨g, o, rfl, Nat.lt_of_lt_of_le h1 ho.size, fun i hi => (World.cell?_of_block (w := w) (ho.block g h1 hg)).trans (h2 i hi)⟩
/-- What a record's reader answers. -/
def RecP (o : Except Flt (List Nat)) (ln : Int) (e : Ending) (w' : World) (B : Nat) : Prop := match o with
  | .error (c, col) => e = pan (c : Nat) ln (col : Nat)
  | .ok all => ∃ g cap, e = .returned (.agg #[.int .u8 ((kindF all : Nat) : Int), .int .i64 ((addrF all : Nat) : Int), .slice (some ⟨g, 4, none⟩) (dataF all).length cap]) ∧ Bs w' (some ⟨g, 4, none⟩) (dataF all) ∧ B ≤ g ∧ (dataF all).length ≤ cap

set_option maxRecDepth 100000 in
set_option maxHeartbeats 4000000 in
theorem rrec_any (rb : Nat) (ln : Int) (s : ByteArray) (w : World) (hs : s.size < 4611686018427387904) (hr : rb < w.heap.size) (h0 : w.cell? ⟨rb, 0, none⟩ = some (.int .i64 ln)) :
    Calls Try.prog 30 #[.pointer (some ⟨rb, 0, none⟩), .string s] w fun e w' => RecP (parF (nl s)) ln e w' w.heap.size ∧ Below w.heap.size w w' := by
  have hE0 : Below w.heap.size w (w.alloc (.cells #[.int .u8 0, .int .i64 0, .slice none 0 0] 75)) := (Below.refl _ _).alloc (Nat.le_refl _) _
  have h1 : (w.alloc (.cells #[.int .u8 0, .int .i64 0, .slice none 0 0] 75)).cell? ⟨rb, 0, none⟩ = some (.int .i64 ln) := (hE0.cell (p := ⟨rb, 0, none⟩) hr).trans h0
  have hW := wantDigits_any rb ln s _ hs h1
  have hGW : ∀ (W : World), Below w.heap.size w W → ∀ c col, Calls Try.prog 29 #[.pointer (some ⟨rb, 0, none⟩), .int .i64 c, .int .i64 col] W fun e w' => e = pan c ln col ∧ W = w' := fun W hb c col => giveUp_any rb c col ln W ((hb.cell (p := ⟨rb, 0, none⟩) hr).trans h0)
  have hG := hGW _ hE0
  cases hb : badF (nl s) with
  | some i =>
    rw [hb] at hW
    rw [parF_bad hb]
    go_enter Try.func30, Try.ntmps30
    go_wp2_with (go_at_call 41; (with_reducible refine Calls.mono hW ?_); rintro e w2 ⟨he, rfl⟩; have he' : e = pan 107 ln ((i : Nat) + 1) := he; subst he')
    try simp only [Exit.inBlock, Exit.then]
    exact ⟨rfl, rfl, hE0⟩
  | none =>
    rw [hb] at hW
    rw [parF_good hb, nl_len]
    by_cases hn : s.size < 11
    · rw [if_pos hn]
      have hn' : (s.size : Int) < 11 := by omega
      have hGn := hG 107 ((s.size : Int) + 1)
      go_enter Try.func30, Try.ntmps30
      go_wp2_with (first | (go_at_call 41; (with_reducible refine Calls.mono hW ?_); rintro e w2 ⟨he, rfl⟩; have he' : e = .returned (.tuple #[]) := he; subst he') | (go_at_call 29; (with_reducible refine Calls.mono hGn ?_); rintro e w2 ⟨rfl, rfl⟩))
      try simp only [Exit.inBlock, Exit.then]
      exact ⟨rfl, rfl, hE0⟩
    · rw [if_neg hn]
      have hn' : ¬ (s.size : Int) < 11 := by omega
      have hP := fun w => pair_any s 1 w hs (by omega) (dg_at s hb 1 (by omega) (by omega)) (dg_at s hb 2 (by omega) (by omega))
      have g1 := nl_get s 1 (by omega)
      have g2 := nl_get s 2 (by omega)
      rw [g1, g2]
      have hd1 := dg_at s hb 1 (by omega) (by omega)
      have hd2 := dg_at s hb 2 (by omega) (by omega)
      generalize hcnt : 16 * dg s[1].toNat + dg s[1 + 1].toNat = cnt at hP
      have hcnt' : 16 * dg s[1].toNat + dg s[2].toNat = cnt := hcnt
      have hc255 : cnt ≤ 255 := by omega
      clear hcnt hd1 hd2
      have hP1 := hP (w.alloc (.cells #[.int .u8 0, .int .i64 0, .slice none 0 0] 75))
      rw [show ((1 : Nat) : Int) + 1 = 2 from rfl] at hP1
      clear hP
      by_cases hne : s.size = 11 + 2 * cnt
      · rw [if_neg (by simpa using hne)]
        have hne' : (((s.size : Int)) != 11 + 2 * (cnt : Int)) = false := by simp; omega
        have hH0 : Has (w.alloc (.cells #[.int .u8 0, .int .i64 0, .slice none 0 0] 75)) w.heap.size #[.int .u8 0, .int .i64 0, .slice none 0 0] := Has.new _ _ _ rfl
        obtain ⟨i5, hi, hz0, hz1, hz2⟩ := info_parts info5
        have hAl : (prs ((nl s).drop 1)).length = 5 + cnt := by rw [prs_len, List.length_drop, nl_len]; omega
        have hA256 : ∀ x ∈ prs ((nl s).drop 1), x < 256 := prs_lt _ (good_dg hb)
        have hPk : ∀ k, k < 5 + cnt → ∀ W, Calls Try.prog 42 #[.string s, .int .i64 (2 + 2 * (k : Int))] W fun e w' => e = .returned (.int .u8 (((prs ((nl s).drop 1)).getD k 0 : Nat) : Int)) ∧ Below W.heap.size W w' := by
          intro k hk W
          have := pair_any s (1 + 2 * k) W hs (by omega) (dg_at s hb _ (by omega) (by omega)) (dg_at s hb _ (by omega) (by omega))
          rw [show ((1 + 2 * k : Nat) : Int) + 1 = 2 + 2 * (k : Int) by omega] at this
          have e : (prs ((nl s).drop 1)).getD k 0 = 16 * dg s[1 + 2 * k].toNat + dg s[1 + 2 * k + 1].toNat := by
            rw [prs_get _ k (by rw [List.length_drop, nl_len]; omega)]
            have e1 : ((nl s).drop 1).getD (2 * k) 0 = (nl s).getD (1 + 2 * k) 0 := by rw [List.getD_eq_getElem?_getD, List.getD_eq_getElem?_getD, List.getElem?_drop]
            have e2 : ((nl s).drop 1).getD (2 * k + 1) 0 = (nl s).getD (1 + 2 * k + 1) 0 := by rw [List.getD_eq_getElem?_getD, List.getD_eq_getElem?_getD, List.getElem?_drop, ← Nat.add_assoc]
            rw [e1, e2, nl_get s _ (by omega), nl_get s _ (by omega)]
          rw [e]; exact this
        have hA0 : Hid ((prs ((nl s).drop 1)).getD 0 0 = cnt) := by
          show _ = _
          rw [prs_get _ 0 (by rw [List.length_drop, nl_len]; omega), ← hcnt']
          have e1 : ((nl s).drop 1).getD (2 * 0) 0 = (nl s).getD 1 0 := by rw [List.getD_eq_getElem?_getD, List.getD_eq_getElem?_getD, List.getElem?_drop]
          have e2 : ((nl s).drop 1).getD (2 * 0 + 1) 0 = (nl s).getD 2 0 := by rw [List.getD_eq_getElem?_getD, List.getD_eq_getElem?_getD, List.getElem?_drop]
          rw [e1, e2, g1, g2]
        clear hcnt' g1 g2
        generalize prs ((nl s).drop 1) = ALL at *
        have hne1 : s.size ≤ 11 + 2 * cnt := by omega
        have hne2 : 11 + 2 * cnt ≤ s.size := by omega
        have hAl' : Hid (ALL.length = 5 + cnt) := hAl
        clear hb hne hAl
        have hPF0 : ∃ PF : Except Flt (List Nat), (if ALL.sum % 256 ≠ 0 then (Except.error (105, s.size - 1) : Except Flt (List Nat)) else Except.ok ALL) = PF := ⟨_, rfl⟩
        obtain ⟨PF, hPF⟩ := hPF0
        rw [hPF]
        have hPF' : Hid ((if ALL.sum % 256 ≠ 0 then (Except.error (105, s.size - 1) : Except Flt (List Nat)) else Except.ok ALL) = PF) := hPF
        clear hPF
        go_enter Try.func30, Try.ntmps30
        go_upto_region 8 with (first | (go_at_call 41; (with_reducible refine Calls.mono hW ?_); rintro e w2 ⟨he, rfl⟩; have he' : e = .returned (.tuple #[]) := he; subst he') | (go_at_call 42; (with_reducible refine Calls.mono hP1 ?_); rintro e w3 ⟨rfl, hE3⟩; have hE4 : Below w.heap.size w w3 := hE0.trans (hE3.mono hE0.size)))
        have hH3 := hH0.below hE3
        have hsz3 := hE3.size
        rw [World.size_alloc] at hsz3
        clear hW hG hP1 h1 hE0 hE3 hH0
        go_wp2_with ((refine wpList_make_own _ rfl _ _ 22 rfl (w.heap.size + 1) 5 i5 _ 1 Try.underlying22 hi hz0 hz1 .i64 .i64 (5 + (cnt : Int)) (5 + cnt) rfl rfl (by omega) (by rw [hz2]; omega) (by unfold maxLen; omega) (by omega) ?_); intro w4 own4 hg4; have hE5 : Below w.heap.size w w4 := hE4.trans ((grown_none hg4).mono hE4.size); have hH4 := hH3.below (grown_none hg4); clear hg4)
        clear hH3 hE4
        generalize w3.heap.size = g4 at own4
        go_loopg [7, 8, 9] (5 + cnt) (fun gk v sm c wr => ∃ (k S g C : Nat), k + gk = 5 + cnt ∧ v = .slice (some ⟨g, 0, none⟩) k C ∧ sm = .int .u8 (S : Int) ∧ c = .int .i64 (2 + 2 * (k : Int)) ∧ S < 256 ∧ Hid (S = (ALL.take k).sum % 256) ∧ Hid (wr.ownsRow (w.heap.size + 1) 5 1 (.slice (some ⟨g, 0, none⟩) k C) k (v8 (ALL.take k))) ∧ Hid (Below w.heap.size w wr) ∧ Hid (Has wr w.heap.size #[.int .u8 0, .int .i64 0, .slice none 0 0]))
        case atStart => exact ⟨0, 0, g4, 5 + cnt, by omega, rfl, rfl, rfl, by omega, rfl, own4, hE5, hH4⟩
        case round =>
          clear own4 hE5 hH4 hsz3
          obtain ⟨k, S, g, C, hk, rfl, rfl, rfl, hS, hSe, hOw, hBe, hHa⟩ := hrel
          by_cases hlt : k < 5 + cnt
          · have hcol : (2 : Int) + 2 * (k : Int) < (s.size : Int) + 1 := by omega
            have hPw := hPk k hlt wr
            have hx := getD_lt hA256 k
            have hT : Hid (ALL.take (k + 1) = ALL.take k ++ [ALL.getD k 0]) := by
              show _ = _
              have hkA : k < ALL.length := by rw [hAl'.out]; exact hlt
              rw [List.take_succ_eq_append_getElem hkA, List.getD_eq_getElem?_getD, List.getElem?_eq_getElem hkA]; rfl
            generalize ALL.getD k 0 = x at hPw hx hT
            have hq1 : Hid (k + 1 ≤ maxLen) := by show _ ≤ _; unfold maxLen; omega
            go_wp2_with (first
              | (go_at_call 42; (with_reducible refine Calls.mono hPw ?_); rintro e w5 ⟨rfl, hE6⟩; have hsz5 := hE6.size; have hBw := hBe.out.size; have hOw5 := own_only hOw.out (Only.of_below (S := fun _ => False) hE6) (fun _ _ h => h))
              | (at_builtin; refine wpList_append_lies _ rfl _ _ 22 rfl (w.heap.size + 1) 5 i5 _ 1 1 Try.underlying22 hi hz0 hz1 hz2 rfl (by decide) (.slice (some ⟨g, 0, none⟩) k C) k (v8 (ALL.take k)) rfl (hOw5.alloc _) ⟨w5.heap.size, 0, none⟩ 1 1 [.int .u8 (x : Int)] rfl rfl (fun j u hj => by rw [Go.WideShapes.add_plain, Nat.zero_add, (Has.new w5 #[.int .u8 (x : Int)] 5 rfl).2.1 j]; simpa using hj) (fun u hu => by simp at hu; rw [hu]; rfl) (by decide) hq1.out (by omega) (by simp; omega) (w5.heap.size + 1) (by simp) ?_; intro g6 C6 w6 own6 hg6 hat6 hlt6; have hcl6 : w6.cell? ⟨g6, k, none⟩ = some (.int .u8 (x : Int)) := (by rw [own6.cellAt k (by omega), List.getElem?_append_right (by rw [v8_len, List.length_take]; omega)]; rw [v8_len, List.length_take, hAl'.out, Nat.min_eq_left (by omega), Nat.sub_self]; rfl)))
            have hg6' : w.heap.size + 1 ≤ g := (own_lt hOw5 g rfl).1
            have hE7 : Below w.heap.size w (w5.alloc (.cells #[.int .u8 (x : Int)] 5)) := (hBe.out.trans (hE6.mono hBw)).alloc (by omega) _
            have hO7 : Only (fun q => q = g) (w5.alloc (.cells #[.int .u8 (x : Int)] 5)) w6 := ⟨hg6.os, hg6.tape, hg6.output, hg6.size, fun q hq hn => hg6.block q hq (by intro e; exact hn (Option.some.inj e))⟩
            have hE8 : Below w.heap.size w w6 := ⟨hO7.os.trans hE7.os, hO7.tape.trans hE7.tape, hO7.output.trans hE7.output, Nat.le_trans hE7.size hO7.size, fun q hq => (hO7.block q (Nat.lt_of_lt_of_le hq hE7.size) (by omega)).trans (hE7.block q hq)⟩
            have hH8 : Has w6 w.heap.size #[.int .u8 0, .int .i64 0, .slice none 0 0] := ((hHa.out.below hE6).alloc _).only hO7 (by omega)
            go_roundg (5 + cnt - (k + 1))
            case measure => go_light; omega
            case rel => exact ⟨k + 1, (S + x) % 256, g6, C6, by omega, rfl, by go_num, by go_num, by omega, by show _ = _; rw [hT.out, List.sum_append, hSe.out]; simp, by rw [hT.out, v8_app]; exact own6, hE8, hH8⟩
          · have hcol : ¬ (2 : Int) + 2 * (k : Int) < (s.size : Int) + 1 := by omega
            have hkk : Hid (k = 5 + cnt) := by show _ = _; omega
            have htk : ALL.take k = ALL := List.take_of_length_le (by rw [hAl'.out]; omega)
            rw [htk] at hOw hSe
            clear htk
            by_cases hS0 : S = 0
            · have hS0' : ((S : Int) != 0) = false := by simp; omega
              have hsum : Hid (PF = .ok ALL) := by
                show _ = _
                rw [← hPF'.out, if_neg (by rw [← hSe.out]; simpa using hS0)]
              have hd4 : ∀ i, i < 5 + cnt → wr.cell? ⟨g, i, none⟩ = some (.int .u8 ((ALL.getD i 0 : Nat) : Int)) := by
                intro i hi
                rw [hOw.out.cellAt i (by omega), v8_get ALL i (by rw [hAl'.out]; exact hi)]
              have c1 := hd4 1 (by omega)
              have c2 := hd4 2 (by omega)
              have c3 := hd4 3 (by omega)
              have hgl := own_lt hOw.out g rfl
              have hC : k ≤ C := by
                rcases hOw.out.2 with ⟨e, _⟩ | ⟨g', c', cur, e, _, _, h, _⟩
                · cases e
                · simp only [Value.slice.injEq, Option.some.injEq, Addr.mk.injEq, true_and, and_true] at e
                  omega
              have hK3 : Hid (kindF ALL = ALL.getD 3 0) := rfl
              have hA1 : Hid (addrF ALL = 256 * ALL.getD 1 0 + ALL.getD 2 0) := rfl
              have hNW : ∀ W : World, W.cell? ⟨g, 1, none⟩ = some (.int .u8 ((ALL.getD 1 0 : Nat) : Int)) → W.cell? ⟨g, 2, none⟩ = some (.int .u8 ((ALL.getD 2 0 : Nat) : Int)) → Calls Try.prog 33 #[.slice (some ⟨g, 1, none⟩) 2 (C - 1)] W fun e w' => e = .returned (.int .i64 ((256 * ALL.getD 1 0 + ALL.getD 2 0 : Nat) : Int)) ∧ ∃ n, w' = W.drewN n := fun W q1 q2 => number_any g 1 (C - 1) _ _ W (getD_lt hA256 1) (getD_lt hA256 2) q1 q2
              have hD : Hid (dataF ALL = (ALL.drop 4).take cnt) := by show _ = _; unfold dataF; rw [hA0.out]
              have hDl : Hid ((dataF ALL).length = cnt) := by show _ = _; rw [hD.out, List.length_take, List.length_drop, hAl'.out]; omega
              have hDb : Hid (Bs wr (some ⟨g, 4, none⟩) (dataF ALL)) := by
                refine ⟨fun x hx => ?_, .inr ⟨g, 4, rfl, hgl.2, fun i hi => ?_⟩⟩
                · rw [hD.out] at hx; exact hA256 x (List.mem_of_mem_drop (List.mem_of_mem_take hx))
                · rw [hDl.out] at hi
                  rw [hd4 (4 + i) (by omega), hD.out]
                  simp [List.getD_eq_getElem?_getD, hi]
              generalize ALL.getD 3 0 = x3 at c3 hK3
              generalize 256 * ALL.getD 1 0 + ALL.getD 2 0 = x12 at hNW hA1
              generalize ALL.getD 1 0 = x1 at c1 hNW
              generalize ALL.getD 2 0 = x2 at c2 hNW
              have hq3 : (3 : Int) < (k : Int) := by omega
              have hH := hHa.out
              have hBe' := hBe.out
              have s1 := sl_lh g 0 k C 1 3 (by omega) (by omega) (by omega) 1 3 rfl rfl
              have s2 := sl_lh g 0 k C 4 (4 + cnt) (by omega) (by omega) (by omega) 4 (4 + (cnt : Int)) rfl (by omega)
              rw [Nat.zero_add] at s1 s2
              rw [Nat.add_sub_cancel_left] at s2
              have hC1 : (3 : Int) ≤ (C : Int) := by omega
              have hC2 : ¬ C = 1 := by omega
              have hC3 : ¬ C = 4 := by omega
              have hC4 : (4 : Int) + (cnt : Int) ≤ (C : Int) := by omega
              have hC5 : IntKind.i64.wrap (4 + (cnt : Int)) = 4 + (cnt : Int) := by rw [IntKind.wrap_i64]; omega
              clear hd4 hPk hGW
              go_upto_region 17 with fail
              refine wp_region_noPanic ?_
              refine wp_region_held_drew (S := fun w' => w'.cell? ⟨g, 3, none⟩ = some (.int .u8 (x3 : Int)) ∧ w'.cell? ⟨g, 1, none⟩ = some (.int .u8 (x1 : Int)) ∧ w'.cell? ⟨g, 2, none⟩ = some (.int .u8 (x2 : Int))) (by kernel_rfl) ?_ (fun hHeld => ?_)
              · (try dsimp only)
                exact ⟨c3, c1, c2⟩
              refine wpAnyH_take (i := 0) (oi := { dst := some 62, op := Op.move (Operand.tmp 7), type := 22, pos := "hexreader.go:121", after := #[], guard := none }) (v := ?_) rfl (by kernel_rfl) (by kernel_rfl) (by kernel_rfl) (fun _ _ _ h => h) (Or.inl ⟨by rfl, ?_⟩) (by assumption) ?_
              rotate_left
              · intro wz hSz; (try dsimp only at hSz); go_simp; all_goals (with_reducible rfl)
              (try simp only [Act.put, List.setIfInBounds_toArray, List.set_cons_zero, List.set_cons_succ])
              refine wpAnyH_take (i := 1) (oi := { dst := some 63, op := Op.indexAddr 22 (Operand.tmp 62) (Operand.const (Value.int IntKind.i64 3)), type := 0, pos := "hexreader.go:121", after := #[{ on := 0, ground := Ground.data }], guard := none }) (v := ?_) rfl (by kernel_rfl) (by kernel_rfl) (by kernel_rfl) (fun _ _ _ h => h) (Or.inl ⟨by rfl, ?_⟩) (by assumption) ?_
              rotate_left
              · intro wz hSz; (try dsimp only at hSz); go_simp; all_goals (with_reducible rfl)
              (try simp only [Act.put, List.setIfInBounds_toArray, List.set_cons_zero, List.set_cons_succ])
              refine wpAnyH_take (i := 2) (oi := { dst := some 64, op := Op.load 5 (Operand.tmp 63), type := 5, pos := "hexreader.go:121", after := #[{ on := 1, ground := Ground.data }], guard := none }) (v := ?_) rfl (by kernel_rfl) (by kernel_rfl) (by kernel_rfl) (fun _ _ _ h => h) (Or.inl ⟨by rfl, ?_⟩) (by assumption) ?_
              rotate_left
              · intro wz hSz; (try dsimp only at hSz); go_simp; all_goals (with_reducible rfl)
              (try simp only [Act.put, List.setIfInBounds_toArray, List.set_cons_zero, List.set_cons_succ])
              refine wpAnyH_take (i := 3) (oi := { dst := some 65, op := Op.move (Operand.tmp 7), type := 22, pos := "hexreader.go:121", after := #[], guard := none }) (v := ?_) rfl (by kernel_rfl) (by kernel_rfl) (by kernel_rfl) (fun _ _ _ h => h) (Or.inl ⟨by rfl, ?_⟩) (by assumption) ?_
              rotate_left
              · intro wz hSz; (try dsimp only at hSz); go_simp; all_goals (with_reducible rfl)
              (try simp only [Act.put, List.setIfInBounds_toArray, List.set_cons_zero, List.set_cons_succ])
              refine wpAnyH_take (i := 4) (oi := { dst := some 66, op := Op.slice 22 (Operand.tmp 65) (some (Operand.const (Value.int IntKind.i64 1))) (some (Operand.const (Value.int IntKind.i64 3))) none, type := 22, pos := "hexreader.go:121", after := #[{ on := 3, ground := Ground.data }], guard := none }) (v := ?_) rfl (by kernel_rfl) (by kernel_rfl) (by kernel_rfl) (fun _ _ _ h => h) (Or.inl ⟨by rfl, ?_⟩) (by assumption) ?_
              rotate_left
              · intro wz hSz; (try dsimp only at hSz); go_simp; all_goals (with_reducible rfl)
              (try simp only [Act.put, List.setIfInBounds_toArray, List.set_cons_zero, List.set_cons_succ])
              refine wpAnyH_take (i := 6) (oi := { dst := some 68, op := Op.move (Operand.tmp 7), type := 22, pos := "hexreader.go:121", after := #[], guard := none }) (v := ?_) rfl (by kernel_rfl) (by kernel_rfl) (by kernel_rfl) (fun _ _ _ h => h) (Or.inl ⟨by rfl, ?_⟩) (by assumption) ?_
              rotate_left
              · intro wz hSz; (try dsimp only at hSz); go_simp; all_goals (with_reducible rfl)
              (try simp only [Act.put, List.setIfInBounds_toArray, List.set_cons_zero, List.set_cons_succ])
              refine wpAnyH_take (i := 7) (oi := { dst := some 69, op := Op.move (Operand.tmp 6), type := 3, pos := "hexreader.go:121", after := #[], guard := none }) (v := ?_) rfl (by kernel_rfl) (by kernel_rfl) (by kernel_rfl) (fun _ _ _ h => h) (Or.inl ⟨by rfl, ?_⟩) (by assumption) ?_
              rotate_left
              · intro wz hSz; (try dsimp only at hSz); go_simp; all_goals (with_reducible rfl)
              (try simp only [Act.put, List.setIfInBounds_toArray, List.set_cons_zero, List.set_cons_succ])
              refine wpAnyH_take (i := 8) (oi := { dst := some 70, op := Op.binOp BinOp.add 3 (Operand.const (Value.int IntKind.i64 4)) (Operand.tmp 69) 3, type := 3, pos := "hexreader.go:121", after := #[{ on := 7, ground := Ground.data }], guard := none }) (v := ?_) rfl (by kernel_rfl) (by kernel_rfl) (by kernel_rfl) (fun _ _ _ h => h) (Or.inl ⟨by rfl, ?_⟩) (by assumption) ?_
              rotate_left
              · intro wz hSz; (try dsimp only at hSz); go_simp; all_goals (with_reducible rfl)
              (try simp only [Act.put, List.setIfInBounds_toArray, List.set_cons_zero, List.set_cons_succ])
              refine wpAnyH_take (i := 9) (oi := { dst := some 71, op := Op.slice 22 (Operand.tmp 68) (some (Operand.const (Value.int IntKind.i64 4))) (some (Operand.tmp 70)) none, type := 22, pos := "hexreader.go:121", after := #[{ on := 6, ground := Ground.data }, { on := 8, ground := Ground.data }], guard := none }) (v := ?_) rfl (by kernel_rfl) (by kernel_rfl) (by kernel_rfl) (fun _ _ _ h => h) (Or.inl ⟨by rfl, ?_⟩) (by assumption) ?_
              rotate_left
              · intro wz hSz; (try dsimp only at hSz); go_simp; all_goals (with_reducible rfl)
              (try simp only [Act.put, List.setIfInBounds_toArray, List.set_cons_zero, List.set_cons_succ])
              refine wpAnyH_ready (rs := [5]) (by kernel_rfl) (by simp) ?_
              refine AllReadyH.cons (o := { dst := some 67, op := Op.call { callee := Callee.value (Operand.func 33), args := #[Operand.tmp 66], argTypes := #[22] }, type := 3, pos := "hexreader.go:121", after := #[{ on := 4, ground := Ground.data }], guard := none }) rfl (fun K hK => ?_) AllReadyH.nil
              go_simp
              (go_at_call 33; (with_reducible refine Calls.mono (hNW _ hHeld.2.1 hHeld.2.2) ?_); rintro e w9 ⟨rfl, n9, rfl⟩)
              go_wp2_with fail
              refine hK.out _ _ ?_ (fun hHeld => ?_)
              · (try dsimp only)
                exact ⟨(drewN_cell _ _ _).trans hHeld.1, (drewN_cell _ _ _).trans hHeld.2.1, (drewN_cell _ _ _).trans hHeld.2.2⟩
              clear hK K
              (try simp only [Act.put, List.setIfInBounds_toArray, List.set_cons_zero, List.set_cons_succ])
              refine wpAnyH_take (i := 10) (oi := { dst := some 72, op := Op.build 75 #[(0, Operand.tmp 64), (1, Operand.tmp 67), (2, Operand.tmp 71)], type := 75, pos := "hexreader.go:121", after := #[{ on := 2, ground := Ground.data }, { on := 5, ground := Ground.data }, { on := 9, ground := Ground.data }], guard := none }) (v := ?_) rfl (by kernel_rfl) (by kernel_rfl) (by kernel_rfl) (fun _ _ _ h => h) (Or.inl ⟨by rfl, ?_⟩) (by assumption) ?_
              rotate_left
              · intro wz hSz; (try dsimp only at hSz); go_simp; all_goals (with_reducible rfl)
              (try simp only [Act.put, List.setIfInBounds_toArray, List.set_cons_zero, List.set_cons_succ])
              have t0 : wr.cell? ⟨w.heap.size, 0, none⟩ = some (.int .u8 0) := hH.2.1 0
              have t1 : wr.cell? ⟨w.heap.size, 1, none⟩ = some (.int .i64 0) := hH.2.1 1
              have t2 : wr.cell? ⟨w.heap.size, 2, none⟩ = some (.slice none 0 0) := hH.2.1 2
              have f0 := hH.2.2 0
              have f1 := hH.2.2 1
              have f2 := hH.2.2 2
              refine wpAnyH_ready (rs := [11]) (by kernel_rfl) (by simp) ?_
              refine AllReadyH.cons (o := { dst := none, op := Op.store 75 (Operand.tmp 4) (Operand.tmp 72), type := 0, pos := "hexreader.go:121", after := #[{ on := 10, ground := Ground.data }, { on := 5, ground := Ground.chain }, { on := 0, ground := Ground.phase }, { on := 1, ground := Ground.phase }, { on := 2, ground := Ground.phase }, { on := 3, ground := Ground.phase }, { on := 4, ground := Ground.phase }, { on := 5, ground := Ground.phase }, { on := 6, ground := Ground.phase }, { on := 7, ground := Ground.phase }, { on := 8, ground := Ground.phase }, { on := 9, ground := Ground.phase }, { on := 10, ground := Ground.phase }], guard := none }) rfl (fun K hK => ?_) AllReadyH.nil
              go_simp
              refine hK.out _ _ ?_ (fun hHeld => ?_)
              · (try dsimp only)
                exact keep3 (by omega) hHeld
              clear hK K
              (try simp only [Act.put, List.setIfInBounds_toArray, List.set_cons_zero, List.set_cons_succ])
              refine wpAnyH_done (by kernel_rfl) ?_ _
              refine NoPanic.normal ?_
              clear hHeld
              have hF := (((hH.drewN (1 + n9)).set 0 (by simp) (.int .u8 (x3 : Int))).set 1 (by simp) (.int .i64 (x12 : Int))).set 2 (by simp) (.slice (some ⟨g, 4, none⟩) cnt (C - 4))
              have p0 := hF.2.1 0
              have p1 := hF.2.1 1
              have p2 := hF.2.1 2
              simp at p0 p1 p2
              have hE9 : Below w.heap.size w ((((wr.drewN (1 + n9)).setCell ⟨w.heap.size, 0, none⟩ (.int .u8 (x3 : Int))).setCell ⟨w.heap.size, 1, none⟩ (.int .i64 (x12 : Int))).setCell ⟨w.heap.size, 2, none⟩ (.slice (some ⟨g, 4, none⟩) cnt (C - 4))) := (((bel_drewN hBe').setCell (Nat.le_refl _) _).setCell (Nat.le_refl _) _).setCell (Nat.le_refl _) _
              have hO9 : Only (fun q => q = w.heap.size) wr ((((wr.drewN (1 + n9)).setCell ⟨w.heap.size, 0, none⟩ (.int .u8 (x3 : Int))).setCell ⟨w.heap.size, 1, none⟩ (.int .i64 (x12 : Int))).setCell ⟨w.heap.size, 2, none⟩ (.slice (some ⟨g, 4, none⟩) cnt (C - 4))) := (((Only.of_below (S := fun q => q = w.heap.size) (bel_drewN (Below.refl _ _))).set rfl _).set rfl _).set rfl _
              have hDb9 := hDb.out.only hO9 (by omega)
              generalize ((((wr.drewN (1 + n9)).setCell ⟨w.heap.size, 0, none⟩ (.int .u8 (x3 : Int))).setCell ⟨w.heap.size, 1, none⟩ (.int .i64 (x12 : Int))).setCell ⟨w.heap.size, 2, none⟩ (.slice (some ⟨g, 4, none⟩) cnt (C - 4))) = WF at *
              go_wp2_with fail
              refine bodyPost_ret (v := .agg #[.int .u8 (x3 : Int), .int .i64 (x12 : Int), .slice (some ⟨g, 4, none⟩) cnt (C - 4)]) (by simp [results, Try.results30, go_sem, p0, p1, p2]) rfl ⟨?_, hE9⟩
              rw [hsum.out]
              exact ⟨g, C - 4, by rw [hK3.out, hA1.out, hDl.out], hDb9, by omega, by rw [hDl.out]; omega⟩
            · have hS0' : ((S : Int) != 0) = true := by simp; omega
              have hsum : Hid (PF = .error (105, s.size - 1)) := by
                show _ = _
                rw [← hPF'.out, if_pos (by rw [← hSe.out]; exact hS0)]
              have hGn := hGW wr hBe.out 105 ((s.size : Int) + 1 - 2)
              clear hOw
              go_wp2_with (go_at_call 29; (with_reducible refine Calls.mono hGn ?_); rintro e w4 ⟨rfl, rfl⟩)
              try simp only [Exit.inBlock, Exit.then]
              exact ⟨rfl, by rw [hsum.out]; show _ = pan _ _ _; rw [show ((s.size - 1 : Nat) : Int) = (s.size : Int) + 1 - 2 by omega]; rfl, hBe⟩
      · rw [if_pos (by simpa using hne)]
        have hne' : (((s.size : Int)) != 11 + 2 * (cnt : Int)) = true := by simp; omega
        go_enter Try.func30, Try.ntmps30
        go_wp2_with (first | (go_at_call 41; (with_reducible refine Calls.mono hW ?_); rintro e w2 ⟨he, rfl⟩; have he' : e = .returned (.tuple #[]) := he; subst he') | (go_at_call 42; (with_reducible refine Calls.mono hP1 ?_); rintro e w3 ⟨rfl, hE3⟩; have hE4 : Below w.heap.size w w3 := hE0.trans (hE3.mono hE0.size); have hGn := hGW w3 hE4 107 ((s.size : Int) + 1)) | (go_at_call 29; (with_reducible refine Calls.mono hGn ?_); rintro e w4 ⟨rfl, rfl⟩))
        try simp only [Exit.inBlock, Exit.then]
        exact ⟨rfl, rfl, hE4⟩
end Go.Proofs.Ytbgfeogigjjmdaa
