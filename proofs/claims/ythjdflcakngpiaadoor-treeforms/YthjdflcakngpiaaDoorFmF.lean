import Derived.Test.YthjdflcakngpiaaDoorFmE
namespace Go.Proofs.YthjdflcakngpiaaDoor
open Go.RowKit
set_option linter.unusedVariables false

theorem info4 : (Tryd.prog.info? 4).map (fun i => (i.zero, i.size, i.bytes)) = some (some (.bool false), 1, 1) := by kernel_rfl
def vB (bs : List Bool) : List Value := bs.map Value.bool
theorem vB_len (bs : List Bool) : (vB bs).length = bs.length := by simp [vB]
theorem vB_get {bs : List Bool} {j : Nat} (h : j < bs.length) : (vB bs)[j]? = some (.bool bs[j]) := by simp [vB, h]
set_option maxRecDepth 100000 in
set_option maxHeartbeats 4000000 in
theorem refList_any (L : List St) (v : Value) (S : Nat → Prop) (w : World) (h : Sts S w v L) (hs : SmS L) (t : Tb w) :
    Calls Tryd.prog 48 #[v] w fun e w' => e = .returned (.bool (brF [] L)) ∧ Below w.heap.size w w' := by
  have kS := fun (k : Nat) (hk : k < L.length) (v' : Value) (hv : Exs S w v' L[k].expr) (X : World) (hX : Below w.heap.size w X) => refStmt_any L[k] v' X (hv.nds.1.below hX) (by obtain ⟨_, _, _, q, _⟩ := Rows.any hv; exact q) (hs _ (List.getElem_mem hk)).1 (hs _ (List.getElem_mem hk)).2 (t.below hX)
  obtain ⟨a, cap, rfl, hlen, hc⟩ := Rows.any h
  obtain ⟨ti, hi, hi0, hi1, hi2⟩ := info_parts info4
  clear h hs
  generalize hA : brF [] L = A
  have hA0 : brF [] (L.drop 0) = A := hA
  clear hA
  go_enter Tryd.func48, Tryd.ntmps48
  go_wp2_with fail
  go_loopw [3, 4] (fun u i wr => ∃ (k n : Nat) (bs : List Bool) (sa : Option Addr) (sc : Nat), k ≤ L.length ∧ n ≤ 16 ∧ u = .slice sa n sc ∧ i = .int .i64 (k : Int) ∧ Hid (bs.length = n) ∧ Hid (brF bs (L.drop k) = A) ∧ Hid (wr.ownsRow w.heap.size 4 1 (.slice sa n sc) n (vB bs)) ∧ Hid (Below w.heap.size w wr)) (fun _ i _ => L.length - (intOf i).toNat)
  case atStart => exact ⟨0, 0, [], none, 0, by omega, by omega, rfl, rfl, rfl, hA0, World.ownsRow_nil _ _ _ _, Below.refl _ _⟩
  case round =>
    clear hA0
    obtain ⟨k, n, bs, sa, sc, hkl, hn, rfl, rfl, hbs', hq', ow', hb'⟩ := hrel
    have hbs := hbs'.out
    have hq := hq'.out
    have ow := ow'.out
    have hb := hb'.out
    clear hbs' hq' ow' hb'
    by_cases hlt : k < L.length
    case neg =>
      have s1 : ¬ (k : Int) < (L.length : Int) := by omega
      rw [br_end bs L k (by omega)] at hq
      by_cases n0 : n = 0
      · subst n0
        obtain rfl : A = true := by rw [← hq, hbs]; rfl
        clear hq hbs ow
        go_wp2_with fail
        go_ret
        exact ⟨rfl, hb⟩
      · have D0 : ((n : Int) == 0) = false := by simp; omega
        obtain rfl : A = false := by rw [← hq, hbs]; simp [n0]
        clear hq hbs ow
        go_wp2_with fail
        go_ret
        exact ⟨rfl, hb⟩
    case pos =>
      obtain ⟨g, o, rfl, _, hg, hx⟩ := hc.resolve_left (by intro e; rw [e] at hlt; simp at hlt)
      obtain ⟨cs, _, ⟨v', rfl, hv⟩, h3⟩ := hx k hlt
      have cS := kS k hlt v' hv
      obtain ⟨ea, ec, rfl, -⟩ := Rows.any hv
      have p0 := (hb.cell (p := ⟨g, _, none⟩) hg).trans (h3 0 _ rfl)
      have p1 := (hb.cell (p := ⟨g, _, none⟩) hg).trans (h3 1 _ rfl)
      have p2 := (hb.cell (p := ⟨g, _, none⟩) hg).trans (h3 2 _ rfl)
      have p3 := (hb.cell (p := ⟨g, _, none⟩) hg).trans (h3 3 _ rfl)
      have p4 := (hb.cell (p := ⟨g, _, none⟩) hg).trans (h3 4 _ rfl)
      have p5 := (hb.cell (p := ⟨g, _, none⟩) hg).trans (h3 5 _ rfl)
      simp only [Nat.add_zero] at p0
      have hBad := br_bad bs L k hlt
      have hIf := br_if bs L k hlt
      have hElse := br_else bs L k hlt
      have hFi := br_fi bs L k hlt
      have hOn := br_on bs L k hlt
      have s1 : (k : Int) < (L.length : Int) := by omega
      have s0 : (0 : Int) ≤ (k : Int) := by omega
      have tk : k + 1 ≤ L.length := hlt
      clear h3 hv hx hc kS
      generalize L[k] = x at *
      obtain ⟨kd, nm, ix, xe, ln, cl⟩ := x
      simp only at *
      cases hf : fSt ⟨kd, nm, ix, xe, ln, cl⟩ with
      | false =>
        rw [hf] at cS
        rw [hBad hf] at hq
        clear hBad hIf hElse hFi hOn
        subst hq
        go_wp2_with (go_at_call 60; (with_reducible refine Calls.mono (cS _ (by exact hb)) ?_); rintro e w2 ⟨rfl, hb2⟩; have hbM := bel_after hb hb.size hb2; have q0 := (hb2.cell (p := ⟨g, _, none⟩) (Nat.lt_of_lt_of_le hg hb.size)).trans p0; have o2 := own_bel ow hb2)
        go_ret
        exact ⟨rfl, hbM⟩
      | true =>
        rw [hf] at cS
        by_cases k7 : kd = 7
        · rw [hIf hf k7, hbs] at hq
          clear hBad hIf hElse hFi hOn
          subst k7
          by_cases n16 : n < 16
          · have D1 : ¬ ((n + 1 : Nat) : Int) > 16 := by omega
            have D2 : ¬ (n : Int) + 1 > 16 := by omega
            rw [decide_eq_true n16, Bool.true_and] at hq
            go_wp2_with (first | (go_at_call 60; (with_reducible refine Calls.mono (cS _ (by exact hb)) ?_); rintro e w2 ⟨rfl, hb2⟩; have hbM := bel_after hb hb.size hb2; have q0 := (hb2.cell (p := ⟨g, _, none⟩) (Nat.lt_of_lt_of_le hg hb.size)).trans p0; have o2 := own_bel ow hb2) | (at_builtin; (refine wpList_append_mine _ rfl _ _ 103 rfl w.heap.size 4 ti _ 1 1 Tryd.underlying103 hi hi0 hi1 hi2 rfl (by decide) (.slice sa n sc) n (vB bs) rfl (own_bel o2 (bel1 _)) ⟨w2.heap.size, 0, none⟩ 1 1 [.bool false] rfl rfl (cells_at (W := w2) rfl _ _) (all_one rfl) (by decide) (by unfold maxLen; omega) (by omega) (by have := hbM.size; simp; omega) ?_); intro g' c' y o3 gr _ _ _; have b3 := grown_bel (hbM.alloc hbM.size _) gr (Nat.le_refl _) (fun q hq => (own_lt o2 q hq).1)))
            go_roundw
            case rel => exact ⟨k + 1, n + 1, bs ++ [false], _, _, by omega, by omega, rfl, by go_num, (by show _ = _; simp [hbs]), hq, (by show World.ownsRow _ _ _ _ _ _ _; rw [show vB (bs ++ [false]) = vB bs ++ [.bool false] by simp [vB]]; exact o3), b3⟩
            case measure => simp [intOf]; omega
          · have e16 : n = 16 := by omega
            subst e16
            rw [decide_eq_false n16, Bool.false_and] at hq
            subst hq
            go_wp2_with (first | (go_at_call 60; (with_reducible refine Calls.mono (cS _ (by exact hb)) ?_); rintro e w2 ⟨rfl, hb2⟩; have hbM := bel_after hb hb.size hb2; have q0 := (hb2.cell (p := ⟨g, _, none⟩) (Nat.lt_of_lt_of_le hg hb.size)).trans p0; have o2 := own_bel ow hb2) | (at_builtin; (refine wpList_append_mine _ rfl _ _ 103 rfl w.heap.size 4 ti _ 1 1 Tryd.underlying103 hi hi0 hi1 hi2 rfl (by decide) (.slice sa 16 sc) 16 (vB bs) rfl (own_bel o2 (bel1 _)) ⟨w2.heap.size, 0, none⟩ 1 1 [.bool false] rfl rfl (cells_at (W := w2) rfl _ _) (all_one rfl) (by decide) (by unfold maxLen; omega) (by omega) (by have := hbM.size; simp; omega) ?_); intro g' c' y o3 gr _ _ _; have b3 := grown_bel (hbM.alloc hbM.size _) gr (Nat.le_refl _) (fun q hq => (own_lt o2 q hq).1)))
            go_ret
            exact ⟨rfl, b3⟩
        · have E7 : (kd == 7) = false := by simpa using k7
          by_cases k8 : kd = 8
          · rw [hElse hf k8, hbs] at hq
            clear hBad hIf hElse hFi hOn
            subst k8
            cases n with
            | zero =>
              simp only [Nat.lt_irrefl, decide_false, Bool.false_and] at hq
              subst hq
              go_wp2_with (go_at_call 60; (with_reducible refine Calls.mono (cS _ (by exact hb)) ?_); rintro e w2 ⟨rfl, hb2⟩; have hbM := bel_after hb hb.size hb2; have q0 := (hb2.cell (p := ⟨g, _, none⟩) (Nat.lt_of_lt_of_le hg hb.size)).trans p0; have o2 := own_bel ow hb2)
              go_ret
              exact ⟨rfl, hbM⟩
            | succ m =>
              have i0 : (0 : Int) ≤ (m : Int) := by omega
              have i1 : (m : Int) < ((m + 1 : Nat) : Int) := by omega
              have i2 : (m : Int) < (m : Int) + 1 := by omega
              have lm : m < bs.length := by omega
              have D0 : (((m + 1 : Nat) : Int) == 0) = false := by simp; omega
              have D9 : ((m : Int) + 1 == 0) = false := by simp; omega
              simp only [Nat.zero_lt_succ, decide_true, Bool.true_and, Nat.add_sub_cancel] at hq
              rw [show bs.getD m true = bs[m] by simp [List.getD_eq_getElem?_getD, lm]] at hq
              obtain ⟨gs, cs', hsv, -, hgs, -⟩ := own_block ow (by omega)
              injection hsv with hsv1 _ hsv2
              subst hsv1
              subst hsv2
              have Bc := fun (X : World) (hX : X.ownsRow w.heap.size 4 1 (.slice (some ⟨gs, 0, none⟩) (m + 1) sc) (m + 1) (vB bs)) => (hX.cellAt m (by omega)).trans (vB_get lm)
              cases hbm : bs[m] with
              | true =>
                rw [hbm] at hq Bc
                simp only [Bool.not_true, Bool.false_and] at hq
                subst hq
                go_upto_region 15 with (go_at_call 60; (with_reducible refine Calls.mono (cS _ (by exact hb)) ?_); rintro e w2 ⟨rfl, hb2⟩; have hbM := bel_after hb hb.size hb2; have q0 := (hb2.cell (p := ⟨g, _, none⟩) (Nat.lt_of_lt_of_le hg hb.size)).trans p0; have o2 := own_bel ow hb2)
                have zc := Bc _ o2
                go_wp2_with fail
                go_ret
                exact ⟨rfl, hbM⟩
              | false =>
                rw [hbm] at hq Bc
                simp only [Bool.not_false, Bool.true_and] at hq
                go_upto_region 15 with (go_at_call 60; (with_reducible refine Calls.mono (cS _ (by exact hb)) ?_); rintro e w2 ⟨rfl, hb2⟩; have hbM := bel_after hb hb.size hb2; have q0 := (hb2.cell (p := ⟨g, _, none⟩) (Nat.lt_of_lt_of_le hg hb.size)).trans p0; have o2 := own_bel ow hb2)
                have zc := Bc _ o2
                have zf := o2.frozenAt m
                go_wp2_with fail
                have o3 := (o2.stored m (.bool true)).1
                have b3 : Below w.heap.size w (w2.setCell ⟨gs, m, none⟩ (.bool true)) := hbM.setCell hgs _
                go_roundw
                case rel => exact ⟨k + 1, m + 1, bs.set m true, _, _, by omega, by omega, rfl, by go_num, (by show _ = _; simp [hbs]), hq, (by show World.ownsRow _ _ _ _ _ _ _; rw [show vB (bs.set m true) = (vB bs).set m (.bool true) by simp [vB, List.map_set]]; exact o3), b3⟩
                case measure => simp [intOf]; omega
          · have E8 : (kd == 8) = false := by simpa using k8
            by_cases k9 : kd = 9
            · rw [hFi hf k9, hbs] at hq
              clear hBad hIf hElse hFi hOn
              subst k9
              cases n with
              | zero =>
                simp only [Nat.lt_irrefl, decide_false, Bool.false_and] at hq
                subst hq
                go_wp2_with (go_at_call 60; (with_reducible refine Calls.mono (cS _ (by exact hb)) ?_); rintro e w2 ⟨rfl, hb2⟩; have hbM := bel_after hb hb.size hb2; have q0 := (hb2.cell (p := ⟨g, _, none⟩) (Nat.lt_of_lt_of_le hg hb.size)).trans p0; have o2 := own_bel ow hb2)
                go_ret
                exact ⟨rfl, hbM⟩
              | succ m =>
                have D0 : (((m + 1 : Nat) : Int) == 0) = false := by simp; omega
                have D9 : ((m : Int) + 1 == 0) = false := by simp; omega
                simp only [Nat.zero_lt_succ, decide_true, Bool.true_and, Nat.add_sub_cancel] at hq
                obtain ⟨gs, cs', hsv, hcp, hgs, -⟩ := own_block ow (by omega)
                injection hsv with hsv1 _ hsv2
                subst hsv1
                subst hsv2
                have i0 : (0 : Int) ≤ (m : Int) := by omega
                have i1 : (m : Int) ≤ (sc : Int) := by omega
                have i2 : m ≤ sc := by omega
                go_wp2_with (go_at_call 60; (with_reducible refine Calls.mono (cS _ (by exact hb)) ?_); rintro e w2 ⟨rfl, hb2⟩; have hbM := bel_after hb hb.size hb2; have q0 := (hb2.cell (p := ⟨g, _, none⟩) (Nat.lt_of_lt_of_le hg hb.size)).trans p0; have o2 := own_bel ow hb2)
                have o3 := ownsRow_cut (m := m) (by omega) o2
                go_roundw
                case rel => exact ⟨k + 1, m, bs.take m, _, _, by omega, by omega, rfl, by go_num, (by show _ = _; simp; omega), hq, (by show World.ownsRow _ _ _ _ _ _ _; rw [show vB (bs.take m) = (vB bs).take (m * 1) by simp [vB, List.map_take]]; exact o3), hbM⟩
                case measure => simp [intOf]; omega
            · have E9 : (kd == 9) = false := by simpa using k9
              rw [hOn hf k7 k8 k9] at hq
              clear hBad hIf hElse hFi hOn
              go_wp2_with (go_at_call 60; (with_reducible refine Calls.mono (cS _ (by exact hb)) ?_); rintro e w2 ⟨rfl, hb2⟩; have hbM := bel_after hb hb.size hb2; have q0 := (hb2.cell (p := ⟨g, _, none⟩) (Nat.lt_of_lt_of_le hg hb.size)).trans p0; have o2 := own_bel ow hb2)
              go_roundw
              case rel => exact ⟨k + 1, n, bs, _, _, by omega, by omega, rfl, by go_num, hbs, hq, o2, hbM⟩
              case measure => simp [intOf]; omega
end Go.Proofs.YthjdflcakngpiaaDoor
