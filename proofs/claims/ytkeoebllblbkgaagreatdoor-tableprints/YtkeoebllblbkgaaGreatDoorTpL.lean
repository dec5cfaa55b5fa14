import Derived.Test.YtkeoebllblbkgaaGreatDoorTpK
namespace Go.Proofs.YtkeoebllblbkgaaGreatDoor
open Go.RowKit
set_option linter.unusedVariables false
set_option linter.unusedSimpArgs false

set_option maxRecDepth 100000 in
set_option maxHeartbeats 20000000 in
theorem refPrint_ok (t : Tt) (aD aS aX aH : Option Addr) (cD cS cX cH : Nat) (w : World) (hR : TR w t (.slice aD t.D.length cD) (.slice aS t.S.length cS) (.slice aX t.X.length cX) (.slice aH t.H.length cH)) (he : t.err = 0) : Calls Tryz.prog 6 #[.agg #[.string t.nm, .slice aD t.D.length cD, .int .i64 t.w0, .int .i64 t.w1, .int .i64 t.w2, .int .i64 t.w3, .int .i64 t.w4, .int .i64 t.w5, .int .i64 t.w6, .slice aS t.S.length cS, .slice aX t.X.length cX, .slice aH t.H.length cH]] w fun e w' => e = .returned (.tuple #[.string (bs (prF t)), .int .i64 0]) ∧ Below w.heap.size w w' := by
  have hs := refSound_any t aD aS aX aH cD cS cX cH _ (hR.below (bel1 (o := .cells #[.string t.nm, .slice aD t.D.length cD, .int .i64 t.w0, .int .i64 t.w1, .int .i64 t.w2, .int .i64 t.w3, .int .i64 t.w4, .int .i64 t.w5, .int .i64 t.w6, .slice aS t.S.length cS, .slice aX t.X.length cX, .slice aH t.H.length cH] 28)))
  rw [he] at hs
  obtain ⟨e1, e2, e3, e4, e5, e6, e7, e8⟩ := err_zero he
  have hnm : t.nm.size ≤ 32 := by unfold Tt.nmsB nmB at e1; simp only [Bool.and_eq_true, decide_eq_true_eq] at e1; exact e1.1.2.1
  have hlim : t.D.length ≤ 16 ∧ t.S.length ≤ 16 ∧ t.X.length ≤ 64 ∧ t.H.length ≤ 16 ∧ ∀ x ∈ t.D, x.rows.length ≤ 48 := by
    unfold Tt.limB at e2; simp only [Bool.and_eq_true, decide_eq_true_eq, List.all_eq_true] at e2; exact ⟨e2.1.1, e2.1.2.1, e2.1.2.2.1, e2.1.2.2.2, e2.2⟩
  have hnd : ∀ x ∈ t.D, x.name.size ≤ 32 := by
    unfold Tt.nmsB nmB at e1; simp only [Bool.and_eq_true, decide_eq_true_eq, List.all_eq_true] at e1; exact fun x hx => (e1.2 x hx).2.1
  have hclk : (∀ x ∈ t.D, ∀ r ∈ x.rows, 0 ≤ r.m ∧ r.m ≤ 1439 ∧ -1 ≤ r.s ∧ r.s ≤ 7) ∧ ∀ h ∈ t.H, -720 ≤ h.plus ∧ h.plus ≤ 840 := by
    unfold Tt.clkB rwB inB at e5; simp only [Bool.and_eq_true, decide_eq_true_eq, List.all_eq_true] at e5; exact ⟨fun x hx r hr => by have := e5.1 x hx r hr; omega, e5.2⟩
  have hdat : (∀ s ∈ t.S, 0 ≤ s.fr ∧ s.fr ≤ 146096 ∧ 0 ≤ s.till ∧ s.till ≤ 146096) ∧ (∀ x ∈ t.X, 0 ≤ x.day ∧ x.day ≤ 146096) ∧ ∀ h ∈ t.H, 0 ≤ h.m ∧ h.m ≤ 210379679 := by
    unfold Tt.datB snB dayB inB at e6; simp only [Bool.and_eq_true, decide_eq_true_eq, List.all_eq_true] at e6; exact ⟨fun s hs => by have := e6.1 s hs; omega, e6.2.1, e6.2.2⟩
  have hnA : ∀ x : Int, 0 ≤ x → x < (t.D.length : Int) → (nmA t.D x).size ≤ 32 := by
    intro x h0 h1
    unfold nmA
    rw [List.getElem?_eq_getElem (show x.toNat < t.D.length by omega)]
    exact hnd _ (List.getElem_mem _)
  have hkin : (∀ x ∈ t.wk, 0 ≤ x ∧ x < (t.D.length : Int) ∧ (nmA t.D x).size ≤ 32) ∧ (∀ s ∈ t.S, ∀ x ∈ s.wk, 0 ≤ x ∧ x < (t.D.length : Int) ∧ (nmA t.D x).size ≤ 32) ∧ ∀ x ∈ t.X, 0 ≤ x.kind ∧ x.kind < (t.D.length : Int) := by
    unfold Tt.kinB kdB at e7; simp only [Bool.and_eq_true, decide_eq_true_eq, List.all_eq_true] at e7
    exact ⟨fun x hx => ⟨(e7.1 x hx).1, (e7.1 x hx).2, hnA x (e7.1 x hx).1 (e7.1 x hx).2⟩, fun s hs x hx => ⟨(e7.2.1 s hs x hx).1, (e7.2.1 s hs x hx).2, hnA x (e7.2.1 s hs x hx).1 (e7.2.1 s hs x hx).2⟩, e7.2.2⟩
  have l1 : Hid (t.D.length ≤ 16) := hlim.1
  have hq : Hid ((∀ x ∈ t.D, x.rows.length ≤ 48 ∧ x.name.size ≤ 32 ∧ ∀ r ∈ x.rows, 0 ≤ r.m ∧ r.m ≤ 1439 ∧ -1 ≤ r.s ∧ r.s ≤ 7)) := fun x hx => ⟨hlim.2.2.2.2 x hx, hnd x hx, hclk.1 x hx⟩
  have hR' : Hid (TR w t (.slice aD t.D.length cD) (.slice aS t.S.length cS) (.slice aX t.X.length cX) (.slice aH t.H.length cH)) := hR
  have hall : Hid (t.S.length ≤ 16 ∧ t.X.length ≤ 64 ∧ t.H.length ≤ 16 ∧ ((∀ x ∈ t.wk, 0 ≤ x ∧ x < (t.D.length : Int) ∧ (nmA t.D x).size ≤ 32) ∧ (∀ s ∈ t.S, ∀ x ∈ s.wk, 0 ≤ x ∧ x < (t.D.length : Int) ∧ (nmA t.D x).size ≤ 32) ∧ ∀ x ∈ t.X, 0 ≤ x.kind ∧ x.kind < (t.D.length : Int)) ∧ ((∀ s ∈ t.S, 0 ≤ s.fr ∧ s.fr ≤ 146096 ∧ 0 ≤ s.till ∧ s.till ≤ 146096) ∧ (∀ x ∈ t.X, 0 ≤ x.day ∧ x.day ≤ 146096) ∧ ∀ h ∈ t.H, 0 ≤ h.m ∧ h.m ≤ 210379679) ∧ ∀ h ∈ t.H, -720 ≤ h.plus ∧ h.plus ≤ 840) := ⟨hlim.2.1, hlim.2.2.1, hlim.2.2.2.1, hkin, hdat, hclk.2⟩
  have hnA' : Hid (∀ x : Int, 0 ≤ x → x < (t.D.length : Int) → (nmA t.D x).size ≤ 32) := hnA
  clear e1 e2 e3 e4 e5 e6 e7 e8 hlim hnd hclk hdat hnA hkin hR he
  go_enter Tryz.func6, Tryz.ntmps6
  go_wp2_with (go_at_call 8; (with_reducible refine hs.mono ?_); rintro e w1 ⟨rfl, hb1⟩; have hbw : Below w.heap.size w w1 := belT bel1 hb1; have hbx : Has w1 w.heap.size #[.string t.nm, .slice aD t.D.length cD, .int .i64 t.w0, .int .i64 t.w1, .int .i64 t.w2, .int .i64 t.w3, .int .i64 t.w4, .int .i64 t.w5, .int .i64 t.w6, .slice aS t.S.length cS, .slice aX t.X.length cX, .slice aH t.H.length cH] := (Has.new w #[.string t.nm, .slice aD t.D.length cD, .int .i64 t.w0, .int .i64 t.w1, .int .i64 t.w2, .int .i64 t.w3, .int .i64 t.w4, .int .i64 t.w5, .int .i64 t.w6, .slice aS t.S.length cS, .slice aX t.X.length cX, .slice aH t.H.length cH] 28 rfl).below hb1; have hTR := hR'.out.below hbw; obtain ⟨_, x1, _⟩ := id hbx)
  have hz2 : (hdF t).length ≤ 7000 := by have := lnF_len [[116, 105, 109, 101, 116, 97, 98, 108, 101], t.nm.data.toList] (fun x hx => by simp only [List.mem_cons, List.not_mem_nil, or_false] at hx; rcases hx with rfl | rfl; (show 9 ≤ 1000; omega); (rw [Array.length_toList]; have : t.nm.data.size = t.nm.size := rfl; omega)) (by show 2 ≤ 4; omega); unfold hdF; omega
  clear hs
  go_loopg [5, 6] t.D.length (fun gk s5 s6 wr => ∃ k : Nat, k + gk = t.D.length ∧ s6 = .int .i64 (k : Int) ∧ s5 = .string (bs (hdF t ++ ((t.D.take k).map dayF).flatten)) ∧ (hdF t ++ ((t.D.take k).map dayF).flatten).length ≤ 7000 + 400000 * k ∧ Hid (Below w1.heap.size w1 wr))
  case atStart => exact ⟨0, by omega, rfl, (by rw [hd_bs]; show Value.string (bs (hdF t)) = _; simp), (by simpa using hz2), Below.refl _ _⟩
  case round =>
    clear x1
    obtain ⟨wro, rfl⟩ : ∃ X, X = wr := ⟨_, rfl⟩
    obtain ⟨gko, rfl⟩ : ∃ X, X = gk := ⟨_, rfl⟩
    obtain ⟨k, hk, rfl, rfl, hz, hb⟩ := hrel
    obtain ⟨_, x3, _⟩ := id (hbx.below hb.out)
    have l1' := l1.out
    by_cases hlt : k < t.D.length
    · obtain ⟨g, o, hae, hg, P⟩ := (hTR.d.ln).resolve_left (by intro e; rw [e] at hlt; simp at hlt)
      subst hae
      have p0' := P k hlt 0 _ rfl
      have p1' := P k hlt 1 _ rfl
      have p0 := (hb.out.cell (p := ⟨g, _, none⟩) hg).trans p0'
      simp only [Nat.add_zero] at p0
      have t1 : (k : Int) < (t.D.length : Int) := by omega
      have t0 : (0 : Int) ≤ (k : Int) := by omega
      obtain ⟨lr, ln, hrr⟩ := hq.out _ (List.getElem_mem hlt)
      have hfl := hTR.r _ (List.getElem_mem hlt)
      have hstep : Hid (hdF t ++ ((t.D.take (k + 1)).map dayF).flatten = ((hdF t ++ ((t.D.take k).map dayF).flatten) ++ lnF [[100, 97, 121], t.D[k].name.data.toList]) ++ (t.D[k].rows.map rowF).flatten) := by
        show _ = _
        rw [flat_step dayF t.D k hlt]
        unfold dayF
        simp only [List.append_assoc]
      clear P
      generalize t.D[k] = x at *
      obtain ⟨xn, xv, xr⟩ := x
      dsimp only at *
      obtain ⟨ra, rc, rfl, rP⟩ := hfl.any
      obtain ⟨T, hTe⟩ : ∃ T, T = hdF t ++ ((t.D.take k).map dayF).flatten := ⟨_, rfl⟩
      rw [← hTe] at hz hstep ⊢
      obtain ⟨T1, hT1⟩ : ∃ T1, T1 = T ++ lnF [[100, 97, 121], xn.data.toList] := ⟨_, rfl⟩
      have hz1 : T1.length ≤ 7000 + 400000 * k + 6001 := by
        have := lnF_len [[100, 97, 121], xn.data.toList] (fun x hx => by simp only [List.mem_cons, List.not_mem_nil, or_false] at hx; rcases hx with rfl | rfl; (show 3 ≤ 1000; omega); (rw [Array.length_toList]; have : xn.data.size = xn.size := rfl; omega)) (by show 2 ≤ 4; omega)
        rw [hT1, List.length_append]; omega
      have hday : Hid (bs T ++ (⟨#[100, 97, 121, 32]⟩ : ByteArray) ++ xn ++ (⟨#[10]⟩ : ByteArray) = bs T1) := by show _ = _; rw [hT1]; exact day_bs T xn
      have hsz : (bs T).size ≤ 8000000 := by rw [bs_size]; omega
      rw [← hT1] at hstep
      have hrr' : Hid (∀ r ∈ xr, 0 ≤ r.m ∧ r.m ≤ 1439 ∧ -1 ≤ r.s ∧ r.s ≤ 7) := hrr
      have rP' : Hid (xr = [] ∨ ∃ g o, ra = some ⟨g, o, none⟩ ∧ g < w1.heap.size ∧ ∀ (i : Nat) (h : i < xr.length) (j : Nat) (u : Value), (Rw.cs xr[i])[j]? = some u → w1.cell? ⟨g, o + i * 2 + j, none⟩ = some u) := rP
      have p1'' : Hid (w1.cell? ⟨g, o + k * 2 + 1, none⟩ = some (.slice ra xr.length rc)) := p1'
      clear hfl hrr rP hT1 hTe hz p0' p1'
      generalize bs T = yT at *
      go_wp2_with fail
      have hb0 : Hid (Below w1.heap.size w1 wro) := hb
      clear p0 x3 hb
      go_loopg [5, 7] xr.length (fun gk s5 s7 wr => ∃ j : Nat, j + gk = xr.length ∧ s7 = .int .i64 (j : Int) ∧ s5 = .string (bs (T1 ++ ((xr.take j).map rowF).flatten)) ∧ (T1 ++ ((xr.take j).map rowF).flatten).length ≤ T1.length + 6001 * j ∧ Hid (Below w1.heap.size w1 wr))
      case atStart => exact ⟨0, by omega, rfl, (by rw [hday.out]; simp), (by simp), hb0⟩
      case round =>
        clear hb0
        obtain ⟨j, hj, rfl, rfl, hzj, hb⟩ := hrel
        obtain ⟨_, x3, _⟩ := id (hbx.below hb.out)
        have p1 := (hb.out.cell (p := ⟨g, _, none⟩) hg).trans p1''.out
        by_cases hltj : j < xr.length
        · have s1 : (j : Int) < (xr.length : Int) := by omega
          have s0 : (0 : Int) ≤ (j : Int) := by omega
          obtain ⟨gr, or', hra, hgr, P⟩ := rP'.out.resolve_left (by intro e; rw [e] at hltj; simp at hltj)
          subst hra
          have r0 := (hb.out.cell (p := ⟨gr, _, none⟩) hgr).trans (P j hltj 0 _ rfl)
          have r1 := (hb.out.cell (p := ⟨gr, _, none⟩) hgr).trans (P j hltj 1 _ rfl)
          simp only [Nat.add_zero] at r0
          have hrj := hrr'.out _ (List.getElem_mem hltj)
          have hstj : Hid (T1 ++ ((xr.take (j + 1)).map rowF).flatten = (T1 ++ ((xr.take j).map rowF).flatten) ++ rowF xr[j]) := by show _ = _; rw [flat_step rowF xr j hltj, List.append_assoc]
          clear P
          generalize xr[j] = y at *
          obtain ⟨ym, ys⟩ := y
          dsimp only at r0 r1 hrj
          obtain ⟨M, rfl⟩ : ∃ M : Nat, ym = (M : Int) := ⟨ym.toNat, by omega⟩
          obtain ⟨T2, hT2⟩ : ∃ T2, T2 = T1 ++ ((xr.take j).map rowF).flatten := ⟨_, rfl⟩
          rw [← hT2] at hzj hstj ⊢
          have hck : (bs (ckF M)).size = 5 := by rw [bs_size, ck_len]
          have hsz2 : (bs T2).size ≤ 9000000 := by rw [bs_size]; omega
          have hz8 : (T1 ++ ((xr.take (j + 1)).map rowF).flatten).length ≤ T1.length + 6001 * (j + 1) := by
            have := lnF_len [[32, 32, 97, 116], ckF M, slF ys] (fun x hx => by simp only [List.mem_cons, List.not_mem_nil, or_false] at hx; rcases hx with rfl | rfl | rfl; (show 4 ≤ 1000; omega); (rw [ck_len]; omega); (have := sl_len ys (by omega) (by omega); omega)) (by show 3 ≤ 4; omega)
            rw [hstj.out, List.length_append]
            have e : (rowF ⟨(M : Int), ys⟩).length ≤ 6001 := this
            omega
          have hcl := fun W => clocked_any M W (by omega)
          by_cases hys : ys = -1
          · subst hys
            have hrow : Hid (bs T2 ++ (⟨#[32, 32, 97, 116, 32]⟩ : ByteArray) ++ bs (ckF M) ++ (⟨#[32, 102, 108, 97, 115, 104, 10]⟩ : ByteArray) = bs (T1 ++ ((xr.take (j + 1)).map rowF).flatten)) := by show _ = _; rw [row_bs1, hstj.out]; rfl
            generalize bs T2 = yT2 at *
            generalize bs (ckF M) = yc at *
            go_wp2_with (go_at_call 17; (with_reducible refine (hcl _).mono ?_); rintro e v1 ⟨rfl, hc1⟩; obtain ⟨_, q1, _⟩ := id ((Has.new wr #[.int .i64 (M : Int), .int .i64 (-1)] 43 rfl).below hc1))
            go_roundg (gk - 1)
            case measure => go_light; omega
            case rel => exact ⟨j + 1, by omega, by go_num, (by rw [hrow.out]), hz8, (hb.out.trans (bel1.mono hb.out.size)).trans (hc1.mono (Nat.le_trans hb.out.size bel1.size))⟩
          · obtain ⟨Sn, rfl⟩ : ∃ S : Nat, ys = (S : Int) := ⟨ys.toNat, by omega⟩
            have hrow : Hid (bs T2 ++ (⟨#[32, 32, 97, 116, 32]⟩ : ByteArray) ++ bs (ckF M) ++ (⟨#[32, 115, 108, 111, 116, 32]⟩ : ByteArray) ++ ti (Sn : Int) ++ (⟨#[10]⟩ : ByteArray) = bs (T1 ++ ((xr.take (j + 1)).map rowF).flatten)) := by show _ = _; rw [row_bs2 T2 (ckF M) (Sn : Int) hys, hstj.out]; rfl
            have htz := ti_len (Sn : Int) (by omega) (by omega)
            have hpl := fun W => plain_any Sn W (by omega)
            have q0 : (0 : Int) ≤ (Sn : Int) := by omega
            generalize bs T2 = yT2 at *
            generalize bs (ckF M) = yc at *
            generalize ti (Sn : Int) = yt at *
            go_wp2_with (first
              | (go_at_call 17; (with_reducible refine (hcl _).mono ?_); rintro e v1 ⟨rfl, hc1⟩; obtain ⟨_, q1, _⟩ := id ((Has.new wr #[.int .i64 (M : Int), .int .i64 (Sn : Int)] 43 rfl).below hc1))
              | (go_at_call 18; (with_reducible refine (hpl v1).mono ?_); rintro e v2 ⟨rfl, hc2⟩))
            go_roundg (gk - 1)
            case measure => go_light; omega
            case rel => exact ⟨j + 1, by omega, by go_num, (by rw [hrow.out]), hz8, ((hb.out.trans (bel1.mono hb.out.size)).trans (hc1.mono (Nat.le_trans hb.out.size bel1.size))).trans (hc2.mono (Nat.le_trans (Nat.le_trans hb.out.size bel1.size) hc1.size))⟩
        · obtain rfl : j = xr.length := by omega
          have s1 : ¬ (xr.length : Int) < (xr.length : Int) := by omega
          have eT : xr.take xr.length = xr := List.take_length
          rw [eT] at hzj ⊢
          have hz9 : (hdF t ++ ((t.D.take (k + 1)).map dayF).flatten).length ≤ 7000 + 400000 * (k + 1) := by rw [hstep.out]; omega
          rw [← hstep.out]
          go_wp2_with fail
          go_roundg (gko - 1)
          case measure => go_light; omega
          case rel => exact ⟨k + 1, by omega, by go_num, (by rw [List.map_take]), hz9, hb⟩
    · obtain rfl : k = t.D.length := by omega
      have t1 : ¬ (t.D.length : Int) < (t.D.length : Int) := by omega
      have eT : t.D.take t.D.length = t.D := List.take_length
      rw [eT] at hz ⊢
      have hwt := weekly_any t aD aS aX aH cD cS cX cH wro (hTR.below hb.out) t.w0 t.w1 t.w2 t.w3 t.w4 t.w5 t.w6 hall.out.2.2.2.1.1
      have hwl : (bs (wkF t.D [t.w0, t.w1, t.w2, t.w3, t.w4, t.w5, t.w6])).size ≤ 1001 := by rw [bs_size, ← wk_join]; exact Nat.succ_le_succ (join_len t.D _ (by show 7 ≤ 7; omega) (fun x hx => (hall.out.2.2.2.1.1 x hx).2.2))
      obtain ⟨T, hTe⟩ : ∃ T, T = hdF t ++ (t.D.map dayF).flatten := ⟨_, rfl⟩
      rw [← hTe] at hz ⊢
      obtain ⟨TA, hTA⟩ : ∃ TA, TA = T ++ weF t := ⟨_, rfl⟩
      have hwe : Hid (bs T ++ (⟨#[119, 101, 101, 107]⟩ : ByteArray) ++ (bs (wkF t.D [t.w0, t.w1, t.w2, t.w3, t.w4, t.w5, t.w6])) ++ (⟨#[10]⟩ : ByteArray) = bs TA) := by show _ = _; rw [hTA, we_bs]; rfl
      have hzTA : TA.length ≤ 7000000 := by
        have := lnF_len [[119, 101, 101, 107], Lib.join ([t.w0, t.w1, t.w2, t.w3, t.w4, t.w5, t.w6].map (nmL t.D)) [32]] (fun x hx => by simp only [List.mem_cons, List.not_mem_nil, or_false] at hx; rcases hx with rfl | rfl; (show 4 ≤ 1000; omega); (exact join_len t.D _ (by show 7 ≤ 7; omega) (fun x hx => (hall.out.2.2.2.1.1 x hx).2.2))) (by show 2 ≤ 4; omega)
        have e : (weF t).length ≤ 6001 := this
        rw [hTA, List.length_append]; omega
      have hTA' : Hid (TA = (hdF t ++ (t.D.map dayF).flatten) ++ weF t) := by show _ = _; rw [hTA, hTe]
      have hsz : (bs T).size ≤ 8000000 := by rw [bs_size]; omega
      clear hTA hTe
      generalize (bs (wkF t.D [t.w0, t.w1, t.w2, t.w3, t.w4, t.w5, t.w6])) = sw at *
      generalize bs T = yT at *
      go_wp2_with (go_at_call 19; (with_reducible refine hwt.mono ?_); rintro e w4 ⟨rfl, hb4⟩; obtain ⟨_, x4, _⟩ := id (hbx.below (hb.out.trans (hb4.mono hb.out.size))))
      have hB4 : Hid (Below w1.heap.size w1 w4) := hb.out.trans (hb4.mono hb.out.size)
      clear hb hb4 hwt hz x3 t1 eT x4
      go_loopg [5, 9] t.S.length (fun gk s5 sS wr => ∃ k : Nat, k + gk = t.S.length ∧ sS = .int .i64 (k : Int) ∧ s5 = .string (bs (TA ++ ((t.S.take k).map (snF t.D)).flatten)) ∧ (TA ++ ((t.S.take k).map (snF t.D)).flatten).length ≤ 7000000 + 6001 * k ∧ Hid (Below w1.heap.size w1 wr))
      case atStart => exact ⟨0, by omega, rfl, (by rw [hwe.out]; simp), (by simpa using hzTA), hB4⟩
      case round =>
        clear hB4
        obtain ⟨k, hk, rfl, rfl, hz, hb⟩ := hrel
        obtain ⟨_, x3, _⟩ := id (hbx.below hb.out)
        have hl64 : t.S.length ≤ 64 := by have := hall.out; omega
        by_cases hlt : k < t.S.length
        · obtain ⟨g, o, hae, hg, P⟩ := (hTR.s.ln).resolve_left (by intro e; rw [e] at hlt; simp at hlt)
          subst hae
          have hst : Hid (TA ++ ((t.S.take (k + 1)).map (snF t.D)).flatten = (TA ++ ((t.S.take k).map (snF t.D)).flatten) ++ snF t.D t.S[k]) := by show _ = _; rw [flat_step (snF t.D) t.S k hlt, List.append_assoc]
          have t1 : (k : Int) < (t.S.length : Int) := by omega
          have t0 : (0 : Int) ≤ (k : Int) := by omega
          obtain ⟨T2, hT2⟩ : ∃ T2, T2 = TA ++ ((t.S.take k).map (snF t.D)).flatten := ⟨_, rfl⟩
          rw [← hT2] at hz hst ⊢
          have hsz2 : (bs T2).size ≤ 9000000 := by rw [bs_size]; omega
          have c0 := (hb.out.cell (p := ⟨g, _, none⟩) hg).trans (P k hlt 0 _ rfl)
          have c1 := (hb.out.cell (p := ⟨g, _, none⟩) hg).trans (P k hlt 1 _ rfl)
          have c2 := (hb.out.cell (p := ⟨g, _, none⟩) hg).trans (P k hlt 2 _ rfl)
          have c3 := (hb.out.cell (p := ⟨g, _, none⟩) hg).trans (P k hlt 3 _ rfl)
          have c4 := (hb.out.cell (p := ⟨g, _, none⟩) hg).trans (P k hlt 4 _ rfl)
          have c5 := (hb.out.cell (p := ⟨g, _, none⟩) hg).trans (P k hlt 5 _ rfl)
          have c6 := (hb.out.cell (p := ⟨g, _, none⟩) hg).trans (P k hlt 6 _ rfl)
          have c7 := (hb.out.cell (p := ⟨g, _, none⟩) hg).trans (P k hlt 7 _ rfl)
          have c8 := (hb.out.cell (p := ⟨g, _, none⟩) hg).trans (P k hlt 8 _ rfl)
          simp only [Nat.add_zero] at c0
          have hTd := hall.out.2.2.2.2.1.1 _ (List.getElem_mem hlt)
          have hwk := hall.out.2.2.2.1.2.1 _ (List.getElem_mem hlt)
          clear P
          generalize t.S[k] = y at *
          obtain ⟨yf, yt, y0, y1, y2, y3, y4, y5, y6⟩ := y
          dsimp only at *
          have hwc : ∀ W, TR W t (.slice aD t.D.length cD) (.slice (some ⟨g, o, none⟩) t.S.length cS) (.slice aX t.X.length cX) (.slice aH t.H.length cH) → Calls Tryz.prog 19 #[.agg #[.string t.nm, .slice aD t.D.length cD, .int .i64 t.w0, .int .i64 t.w1, .int .i64 t.w2, .int .i64 t.w3, .int .i64 t.w4, .int .i64 t.w5, .int .i64 t.w6, .slice (some ⟨g, o, none⟩) t.S.length cS, .slice aX t.X.length cX, .slice aH t.H.length cH], .agg #[.int .i64 y0, .int .i64 y1, .int .i64 y2, .int .i64 y3, .int .i64 y4, .int .i64 y5, .int .i64 y6]] W fun e w' => e = .returned (.string (bs (wkF t.D [y0, y1, y2, y3, y4, y5, y6]))) ∧ Below W.heap.size W w' := fun W hW => weekly_any t aD _ aX aH cD cS cX cH W hW y0 y1 y2 y3 y4 y5 y6 hwk
          have hcf := fun W => dated_any yf W (by omega) (by omega)
          have hct := fun W => dated_any yt W (by omega) (by omega)
          have hrow : Hid (bs T2 ++ (⟨#[115, 101, 97, 115, 111, 110, 32]⟩ : ByteArray) ++ bs (dtF yf) ++ (⟨#[32]⟩ : ByteArray) ++ bs (dtF yt) ++ (bs (wkF t.D [y0, y1, y2, y3, y4, y5, y6])) ++ (⟨#[10]⟩ : ByteArray) = bs (TA ++ ((t.S.take (k + 1)).map (snF t.D)).flatten)) := by show _ = _; rw [sn_bs, hst.out]; rfl
          have hjl := join_len t.D [y0, y1, y2, y3, y4, y5, y6] (by show 7 ≤ 7; omega) (fun x hx => (hwk x hx).2.2)
          have hz8 : (TA ++ ((t.S.take (k + 1)).map (snF t.D)).flatten).length ≤ 7000000 + 6001 * (k + 1) := by
            have := lnF_len [[115, 101, 97, 115, 111, 110], dtF yf, dtF yt, Lib.join ([y0, y1, y2, y3, y4, y5, y6].map (nmL t.D)) [32]] (fun x hx => by simp only [List.mem_cons, List.not_mem_nil, or_false] at hx; rcases hx with hx | hx | hx | hx; (rw [hx]; show 6 ≤ 1000; omega); (rw [hx]; have := dt_len yf; omega); (rw [hx]; have := dt_len yt; omega); (rw [hx]; exact hjl)) (by show 4 ≤ 4; omega)
            rw [hst.out, List.length_append]
            have e : (snF t.D ⟨yf, yt, y0, y1, y2, y3, y4, y5, y6⟩).length ≤ 6001 := this
            omega
          have hq1 : (bs (dtF yf)).size ≤ 10 := by rw [bs_size]; exact dt_len yf
          have hq2 : (bs (dtF yt)).size ≤ 10 := by rw [bs_size]; exact dt_len yt
          have hq3 : (bs (wkF t.D [y0, y1, y2, y3, y4, y5, y6])).size ≤ 1001 := by rw [bs_size, ← wk_join]; exact Nat.succ_le_succ hjl
          generalize (bs (wkF t.D [y0, y1, y2, y3, y4, y5, y6])) = sv at *
          generalize bs T2 = y at *
          generalize bs (dtF yf) = ya at *
          generalize bs (dtF yt) = yb at *
          go_wp2_with fail
          have hkk := (Has.new wr #[.int .i64 yf, .int .i64 yt, .int .i64 y0, .int .i64 y1, .int .i64 y2, .int .i64 y3, .int .i64 y4, .int .i64 y5, .int .i64 y6] 45 rfl).2.1
          have hpl : wr.heap.size < (wr.alloc (.cells #[.int .i64 yf, .int .i64 yt, .int .i64 y0, .int .i64 y1, .int .i64 y2, .int .i64 y3, .int .i64 y4, .int .i64 y5, .int .i64 y6] 45)).heap.size := by simp
          have hBY : Below w1.heap.size w1 (wr.alloc (.cells #[.int .i64 yf, .int .i64 yt, .int .i64 y0, .int .i64 y1, .int .i64 y2, .int .i64 y3, .int .i64 y4, .int .i64 y5, .int .i64 y6] 45)) := hb.out.trans (bel1.mono hb.out.size)
          clear hb c0 c1 c2 c3 c4 c5 c6 c7 c8 x3
          generalize (wr.alloc (.cells #[.int .i64 yf, .int .i64 yt, .int .i64 y0, .int .i64 y1, .int .i64 y2, .int .i64 y3, .int .i64 y4, .int .i64 y5, .int .i64 y6] 45)) = Y at *
          generalize wr.heap.size = p9 at *
          have hTY := hTR.below hBY
          have hxY := (hbx.below hBY).2.1
          have hbxl : w.heap.size < Y.heap.size := Nat.lt_of_lt_of_le hbx.1 hBY.size
          have g1 : ¬ 9223372036854775807 < y.size + 7 := by omega
          have g2 : ¬ 9223372036854775807 < y.size + 7 + ya.size := by omega
          have g3 : ¬ 9223372036854775807 < y.size + 7 + ya.size + 1 := by omega
          have g4 : ¬ 9223372036854775807 < y.size + 7 + ya.size + 1 + yb.size := by omega
          have g5 : ¬ 9223372036854775807 < y.size + 7 + ya.size + 1 + yb.size + sv.size := by omega
          have g6 : ¬ 9223372036854775807 < y.size + 7 + ya.size + 1 + yb.size + sv.size + 1 := by omega
          refine wp_region_noPanic ?_
          refine wp_region_held_drew (S := fun w' => (∀ ii, w'.cell? ⟨p9, ii, none⟩ = (#[.int .i64 yf, .int .i64 yt, .int .i64 y0, .int .i64 y1, .int .i64 y2, .int .i64 y3, .int .i64 y4, .int .i64 y5, .int .i64 y6] : Array Value)[ii]?) ∧ (∀ ii, w'.cell? ⟨w.heap.size, ii, none⟩ = (#[.string t.nm, .slice aD t.D.length cD, .int .i64 t.w0, .int .i64 t.w1, .int .i64 t.w2, .int .i64 t.w3, .int .i64 t.w4, .int .i64 t.w5, .int .i64 t.w6, .slice (some ⟨g, o, none⟩) t.S.length cS, .slice aX t.X.length cX, .slice aH t.H.length cH] : Array Value)[ii]?)) (by kernel_rfl) ?_ (fun hHeld => ?_)
          · (try dsimp only)
            exact ⟨hkk, hxY⟩
          refine wpAnyH_take (i := 0) (oi := { dst := some 98, op := Op.move (Operand.tmp 5), type := 9, pos := "text.go:396", after := #[], guard := none }) (v := ?_) rfl (by kernel_rfl) (by kernel_rfl) (by kernel_rfl) (fun _ _ _ h => h) (Or.inl ⟨by rfl, ?_⟩) (by assumption) ?_
          rotate_left
          · intro wz hSz; (try dsimp only at hSz); go_simp; all_goals (with_reducible rfl)
          (try simp only [Act.put, List.setIfInBounds_toArray, List.set_cons_zero, List.set_cons_succ])
          refine wpAnyH_take (i := 1) (oi := { dst := some 99, op := Op.binOp BinOp.add 9 (Operand.tmp 98) (Operand.const (Value.string { data := #[115, 101, 97, 115, 111, 110, 32] })) 9, type := 9, pos := "text.go:396", after := #[{ on := 0, ground := Ground.data }], guard := none }) (v := ?_) rfl (by kernel_rfl) (by kernel_rfl) (by kernel_rfl) (fun _ _ _ h => h) (Or.inl ⟨by rfl, ?_⟩) (by assumption) ?_
          rotate_left
          · intro wz hSz; (try dsimp only at hSz); go_simp; all_goals (with_reducible rfl)
          (try simp only [Act.put, List.setIfInBounds_toArray, List.set_cons_zero, List.set_cons_succ])
          refine wpAnyH_take (i := 2) (oi := { dst := some 100, op := Op.fieldAddr 45 (Operand.tmp 10) 0, type := 0, pos := "text.go:396", after := #[], guard := none }) (v := ?_) rfl (by kernel_rfl) (by kernel_rfl) (by kernel_rfl) (fun _ _ _ h => h) (Or.inl ⟨by rfl, ?_⟩) (by assumption) ?_
          rotate_left
          · intro wz hSz; (try dsimp only at hSz); go_simp; all_goals (with_reducible rfl)
          (try simp only [Act.put, List.setIfInBounds_toArray, List.set_cons_zero, List.set_cons_succ])
          refine wpAnyH_take (i := 3) (oi := { dst := some 101, op := Op.load 3 (Operand.tmp 100), type := 3, pos := "text.go:396", after := #[{ on := 2, ground := Ground.data }], guard := none }) (v := ?_) rfl (by kernel_rfl) (by kernel_rfl) (by kernel_rfl) (fun _ _ _ h => h) (Or.inl ⟨by rfl, ?_⟩) (by assumption) ?_
          rotate_left
          · intro wz hSz; (try dsimp only at hSz); go_simp; all_goals (with_reducible rfl)
          (try simp only [Act.put, List.setIfInBounds_toArray, List.set_cons_zero, List.set_cons_succ])
          refine wpAnyH_take (i := 7) (oi := { dst := some 105, op := Op.fieldAddr 45 (Operand.tmp 10) 1, type := 0, pos := "text.go:396", after := #[], guard := none }) (v := ?_) rfl (by kernel_rfl) (by kernel_rfl) (by kernel_rfl) (fun _ _ _ h => h) (Or.inl ⟨by rfl, ?_⟩) (by assumption) ?_
          rotate_left
          · intro wz hSz; (try dsimp only at hSz); go_simp; all_goals (with_reducible rfl)
          (try simp only [Act.put, List.setIfInBounds_toArray, List.set_cons_zero, List.set_cons_succ])
          refine wpAnyH_take (i := 8) (oi := { dst := some 106, op := Op.load 3 (Operand.tmp 105), type := 3, pos := "text.go:396", after := #[{ on := 7, ground := Ground.data }], guard := none }) (v := ?_) rfl (by kernel_rfl) (by kernel_rfl) (by kernel_rfl) (fun _ _ _ h => h) (Or.inl ⟨by rfl, ?_⟩) (by assumption) ?_
          rotate_left
          · intro wz hSz; (try dsimp only at hSz); go_simp; all_goals (with_reducible rfl)
          (try simp only [Act.put, List.setIfInBounds_toArray, List.set_cons_zero, List.set_cons_succ])
          refine wpAnyH_take (i := 11) (oi := { dst := some 109, op := Op.load 28 (Operand.tmp 1), type := 28, pos := "text.go:396", after := #[], guard := none }) (v := ?_) rfl (by kernel_rfl) (by kernel_rfl) (by kernel_rfl) (fun _ _ _ h => h) (Or.inl ⟨by rfl, ?_⟩) (by assumption) ?_
          rotate_left
          · intro wz hSz; (try dsimp only at hSz); go_simp; all_goals (with_reducible rfl)
          (try simp only [Act.put, List.setIfInBounds_toArray, List.set_cons_zero, List.set_cons_succ])
          refine wpAnyH_take (i := 12) (oi := { dst := some 110, op := Op.fieldAddr 45 (Operand.tmp 10) 2, type := 0, pos := "text.go:396", after := #[], guard := none }) (v := ?_) rfl (by kernel_rfl) (by kernel_rfl) (by kernel_rfl) (fun _ _ _ h => h) (Or.inl ⟨by rfl, ?_⟩) (by assumption) ?_
          rotate_left
          · intro wz hSz; (try dsimp only at hSz); go_simp; all_goals (with_reducible rfl)
          (try simp only [Act.put, List.setIfInBounds_toArray, List.set_cons_zero, List.set_cons_succ])
          refine wpAnyH_take (i := 13) (oi := { dst := some 111, op := Op.load 23 (Operand.tmp 110), type := 23, pos := "text.go:396", after := #[{ on := 12, ground := Ground.data }], guard := none }) (v := ?_) rfl (by kernel_rfl) (by kernel_rfl) (by kernel_rfl) (fun _ _ _ h => h) (Or.inl ⟨by rfl, ?_⟩) (by assumption) ?_
          rotate_left
          · intro wz hSz; (try dsimp only at hSz); go_simp; all_goals (with_reducible rfl)
          (try simp only [Act.put, List.setIfInBounds_toArray, List.set_cons_zero, List.set_cons_succ])
          refine wpAnyH_ready (rs := [4]) (by kernel_rfl) (by simp) ?_
          refine AllReadyH.cons (o := { dst := some 102, op := Op.call { callee := Callee.value (Operand.func 20), args := #[Operand.tmp 101], argTypes := #[3] }, type := 9, pos := "text.go:396", after := #[{ on := 3, ground := Ground.data }], guard := none }) rfl (fun K hK => ?_) AllReadyH.nil
          go_simp
          go_at_call 20
          (with_reducible refine (hcf Y.drew).mono ?_)
          rintro e v1 ⟨rfl, hc1⟩
          have hd1 : Below Y.heap.size Y v1 := bel_after ((Below.refl Y.heap.size Y).drew) (Nat.le_refl _) hc1
          go_wp2_with fail
          refine hK.out _ _ ?_ (fun hHeld => ?_)
          · (try dsimp only)
            exact ⟨fun ii => (hd1.cell (p := ⟨p9, ii, none⟩) hpl).trans (hkk ii), fun ii => (hd1.cell (p := ⟨w.heap.size, ii, none⟩) hbxl).trans (hxY ii)⟩
          clear hK K
          (try simp only [Act.put, List.setIfInBounds_toArray, List.set_cons_zero, List.set_cons_succ])
          refine wpAnyH_take (i := 5) (oi := { dst := some 103, op := Op.binOp BinOp.add 9 (Operand.tmp 99) (Operand.tmp 102) 9, type := 9, pos := "text.go:396", after := #[{ on := 1, ground := Ground.data }, { on := 4, ground := Ground.data }], guard := none }) (v := ?_) rfl (by kernel_rfl) (by kernel_rfl) (by kernel_rfl) (fun _ _ _ h => h) (Or.inl ⟨by rfl, ?_⟩) (by assumption) ?_
          rotate_left
          · intro wz hSz; (try dsimp only at hSz); go_simp; all_goals (with_reducible rfl)
          (try simp only [Act.put, List.setIfInBounds_toArray, List.set_cons_zero, List.set_cons_succ])
          refine wpAnyH_take (i := 6) (oi := { dst := some 104, op := Op.binOp BinOp.add 9 (Operand.tmp 103) (Operand.const (Value.string { data := #[32] })) 9, type := 9, pos := "text.go:396", after := #[{ on := 5, ground := Ground.data }], guard := none }) (v := ?_) rfl (by kernel_rfl) (by kernel_rfl) (by kernel_rfl) (fun _ _ _ h => h) (Or.inl ⟨by rfl, ?_⟩) (by assumption) ?_
          rotate_left
          · intro wz hSz; (try dsimp only at hSz); go_simp; all_goals (with_reducible rfl)
          (try simp only [Act.put, List.setIfInBounds_toArray, List.set_cons_zero, List.set_cons_succ])
          refine wpAnyH_ready (rs := [9]) (by kernel_rfl) (by simp) ?_
          refine AllReadyH.cons (o := { dst := some 107, op := Op.call { callee := Callee.value (Operand.func 20), args := #[Operand.tmp 106], argTypes := #[3] }, type := 9, pos := "text.go:396", after := #[{ on := 8, ground := Ground.data }, { on := 4, ground := Ground.chain }], guard := none }) rfl (fun K hK => ?_) AllReadyH.nil
          go_simp
          go_at_call 20
          (with_reducible refine (hct v1).mono ?_)
          rintro e v2 ⟨rfl, hc2⟩
          have hd2 := belT hd1 hc2
          go_wp2_with fail
          refine hK.out _ _ ?_ (fun hHeld => ?_)
          · (try dsimp only)
            exact ⟨fun ii => (hd2.cell (p := ⟨p9, ii, none⟩) hpl).trans (hkk ii), fun ii => (hd2.cell (p := ⟨w.heap.size, ii, none⟩) hbxl).trans (hxY ii)⟩
          clear hK K
          (try simp only [Act.put, List.setIfInBounds_toArray, List.set_cons_zero, List.set_cons_succ])
          refine wpAnyH_take (i := 10) (oi := { dst := some 108, op := Op.binOp BinOp.add 9 (Operand.tmp 104) (Operand.tmp 107) 9, type := 9, pos := "text.go:396", after := #[{ on := 6, ground := Ground.data }, { on := 9, ground := Ground.data }], guard := none }) (v := ?_) rfl (by kernel_rfl) (by kernel_rfl) (by kernel_rfl) (fun _ _ _ h => h) (Or.inl ⟨by rfl, ?_⟩) (by assumption) ?_
          rotate_left
          · intro wz hSz; (try dsimp only at hSz); go_simp; all_goals (with_reducible rfl)
          (try simp only [Act.put, List.setIfInBounds_toArray, List.set_cons_zero, List.set_cons_succ])
          refine wpAnyH_ready (rs := [14]) (by kernel_rfl) (by simp) ?_
          refine AllReadyH.cons (o := { dst := some 112, op := Op.call { callee := Callee.value (Operand.func 19), args := #[Operand.tmp 109, Operand.tmp 111], argTypes := #[28, 23] }, type := 9, pos := "text.go:396", after := #[{ on := 11, ground := Ground.data }, { on := 13, ground := Ground.data }, { on := 9, ground := Ground.chain }], guard := none }) rfl (fun K hK => ?_) AllReadyH.nil
          go_simp
          go_at_call 19
          (with_reducible refine (hwc v2 (hTY.below hd2)).mono ?_)
          rintro e v3 ⟨rfl, hc3⟩
          have hd3 := belT hd2 hc3
          go_wp2_with fail
          refine hK.out _ _ ?_ (fun hHeld => ?_)
          · (try dsimp only)
            exact ⟨fun ii => (hd3.cell (p := ⟨p9, ii, none⟩) hpl).trans (hkk ii), fun ii => (hd3.cell (p := ⟨w.heap.size, ii, none⟩) hbxl).trans (hxY ii)⟩
          clear hK K
          (try simp only [Act.put, List.setIfInBounds_toArray, List.set_cons_zero, List.set_cons_succ])
          refine wpAnyH_take (i := 15) (oi := { dst := some 113, op := Op.binOp BinOp.add 9 (Operand.tmp 108) (Operand.tmp 112) 9, type := 9, pos := "text.go:396", after := #[{ on := 10, ground := Ground.data }, { on := 14, ground := Ground.data }], guard := none }) (v := ?_) rfl (by kernel_rfl) (by kernel_rfl) (by kernel_rfl) (fun _ _ _ h => h) (Or.inl ⟨by rfl, ?_⟩) (by assumption) ?_
          rotate_left
          · intro wz hSz; (try dsimp only at hSz); go_simp; all_goals (with_reducible rfl)
          (try simp only [Act.put, List.setIfInBounds_toArray, List.set_cons_zero, List.set_cons_succ])
          refine wpAnyH_take (i := 16) (oi := { dst := some 114, op := Op.binOp BinOp.add 9 (Operand.tmp 113) (Operand.const (Value.string { data := #[10] })) 9, type := 9, pos := "text.go:396", after := #[{ on := 15, ground := Ground.data }], guard := none }) (v := ?_) rfl (by kernel_rfl) (by kernel_rfl) (by kernel_rfl) (fun _ _ _ h => h) (Or.inl ⟨by rfl, ?_⟩) (by assumption) ?_
          rotate_left
          · intro wz hSz; (try dsimp only at hSz); go_simp; all_goals (with_reducible rfl)
          (try simp only [Act.put, List.setIfInBounds_toArray, List.set_cons_zero, List.set_cons_succ])
          refine wpAnyH_take (i := 17) (oi := { dst := some 5, op := Op.assign (Operand.tmp 114), type := 9, pos := "text.go:396", after := #[{ on := 16, ground := Ground.data }, { on := 14, ground := Ground.chain }, { on := 0, ground := Ground.phase }, { on := 1, ground := Ground.phase }, { on := 2, ground := Ground.phase }, { on := 3, ground := Ground.phase }, { on := 4, ground := Ground.phase }, { on := 5, ground := Ground.phase }, { on := 6, ground := Ground.phase }, { on := 7, ground := Ground.phase }, { on := 8, ground := Ground.phase }, { on := 9, ground := Ground.phase }, { on := 10, ground := Ground.phase }, { on := 11, ground := Ground.phase }, { on := 12, ground := Ground.phase }, { on := 13, ground := Ground.phase }, { on := 14, ground := Ground.phase }, { on := 15, ground := Ground.phase }, { on := 16, ground := Ground.phase }], guard := none }) (v := ?_) rfl (by kernel_rfl) (by kernel_rfl) (by kernel_rfl) (fun _ _ _ h => h) (Or.inl ⟨by rfl, ?_⟩) (by assumption) ?_
          rotate_left
          · intro wz hSz; (try dsimp only at hSz); go_simp; all_goals (with_reducible rfl)
          (try simp only [Act.put, List.setIfInBounds_toArray, List.set_cons_zero, List.set_cons_succ])
          refine wpAnyH_done (by kernel_rfl) ?_ _
          refine NoPanic.normal ?_
          have hB8 : Below w1.heap.size w1 v3 := hBY.trans (hd3.mono hBY.size)
          clear hHeld
          go_wp2_with fail
          go_roundg (gk - 1)
          case measure => go_light; omega
          case rel => exact ⟨k + 1, by omega, by go_num, (by rw [hrow.out]), hz8, hB8⟩
        · obtain rfl : k = t.S.length := by omega
          have t1 : ¬ (t.S.length : Int) < (t.S.length : Int) := by omega
          have eT : t.S.take t.S.length = t.S := List.take_length
          rw [eT] at hz ⊢
          obtain ⟨TB, hTB⟩ : ∃ T, T = TA ++ (t.S.map (snF t.D)).flatten := ⟨_, rfl⟩
          rw [← hTB] at hz ⊢
          have hTB' : Hid (TB = TA ++ (t.S.map (snF t.D)).flatten) := hTB
          clear hTB
          have hzTB : TB.length ≤ 7200000 := by have := hall.out.1; omega
          have hBTB : Hid (Below w1.heap.size w1 wr) := hb
          go_wp2_with fail
          clear hb hz x3 t1 eT
          go_loopg [5, 11] t.X.length (fun gk s5 sS wr => ∃ k : Nat, k + gk = t.X.length ∧ sS = .int .i64 (k : Int) ∧ s5 = .string (bs (TB ++ ((t.X.take k).map (exF t.D)).flatten)) ∧ (TB ++ ((t.X.take k).map (exF t.D)).flatten).length ≤ 7200000 + 6001 * k ∧ Hid (Below w1.heap.size w1 wr))
          case atStart => exact ⟨0, by omega, rfl, (by simp), (by simpa using hzTB), hBTB⟩
          case round =>
            clear hBTB
            obtain ⟨k, hk, rfl, rfl, hz, hb⟩ := hrel
            obtain ⟨_, x3, _⟩ := id (hbx.below hb.out)
            have hl64 : t.X.length ≤ 64 := by have := hall.out; omega
            by_cases hlt : k < t.X.length
            · obtain ⟨g, o, hae, hg, P⟩ := (hTR.x.ln).resolve_left (by intro e; rw [e] at hlt; simp at hlt)
              subst hae
              have hst : Hid (TB ++ ((t.X.take (k + 1)).map (exF t.D)).flatten = (TB ++ ((t.X.take k).map (exF t.D)).flatten) ++ exF t.D t.X[k]) := by show _ = _; rw [flat_step (exF t.D) t.X k hlt, List.append_assoc]
              have t1 : (k : Int) < (t.X.length : Int) := by omega
              have t0 : (0 : Int) ≤ (k : Int) := by omega
              obtain ⟨T2, hT2⟩ : ∃ T2, T2 = TB ++ ((t.X.take k).map (exF t.D)).flatten := ⟨_, rfl⟩
              rw [← hT2] at hz hst ⊢
              have hsz2 : (bs T2).size ≤ 9000000 := by rw [bs_size]; omega
              have c0 := (hb.out.cell (p := ⟨g, _, none⟩) hg).trans (P k hlt 0 _ rfl)
              have c1 := (hb.out.cell (p := ⟨g, _, none⟩) hg).trans (P k hlt 1 _ rfl)
              simp only [Nat.add_zero] at c0
              have hyk := hall.out.2.2.2.1.2.2 _ (List.getElem_mem hlt)
              have hyd := hall.out.2.2.2.2.1.2.1 _ (List.getElem_mem hlt)
              obtain ⟨gd, od, had, hgd, pN⟩ := nm_at hTR.d t.X[k].kind hyk.1 hyk.2
              subst had
              have hq2 : (nmA t.D t.X[k].kind).size ≤ 1000 := by have := hnA'.out _ hyk.1 hyk.2; omega
              clear P
              generalize t.X[k] = y at *
              obtain ⟨yd, yk⟩ := y
              dsimp only at hyk hyd pN hq2 c0 c1
              obtain ⟨Jx, rfl⟩ : ∃ J : Nat, yk = (J : Int) := ⟨yk.toNat, by omega⟩
              rw [Int.toNat_natCast] at pN
              have q0 : (0 : Int) ≤ (Jx : Int) := by omega
              have hcf := fun W => dated_any yd W (by omega) (by omega)
              have hrow : Hid (bs T2 ++ (⟨#[111, 110, 32]⟩ : ByteArray) ++ bs (dtF yd) ++ (⟨#[32]⟩ : ByteArray) ++ nmA t.D (Jx : Int) ++ (⟨#[10]⟩ : ByteArray) = bs (TB ++ ((t.X.take (k + 1)).map (exF t.D)).flatten)) := by show _ = _; rw [ex_bs, hst.out]; rfl
              have hz8 : (TB ++ ((t.X.take (k + 1)).map (exF t.D)).flatten).length ≤ 7200000 + 6001 * (k + 1) := by
                have := lnF_len [[111, 110], dtF yd, nmL t.D (Jx : Int)] (fun x hx => by simp only [List.mem_cons, List.not_mem_nil, or_false] at hx; rcases hx with hx | hx | hx; (rw [hx]; show 2 ≤ 1000; omega); (rw [hx]; have := dt_len yd; omega); (rw [hx]; unfold nmL; rw [Array.length_toList]; exact hq2)) (by show 3 ≤ 4; omega)
                rw [hst.out, List.length_append]
                have e : (exF t.D ⟨yd, (Jx : Int)⟩).length ≤ 6001 := this
                omega
              have hq1 : (bs (dtF yd)).size ≤ 10 := by rw [bs_size]; exact dt_len yd
              have pNY := (hb.out.cell (p := ⟨gd, _, none⟩) hgd).trans pN
              have hbxl : w.heap.size < wr.heap.size := Nat.lt_of_lt_of_le hbx.1 hb.out.size
              generalize nmA t.D (Jx : Int) = nx at *
              generalize bs T2 = y at *
              generalize bs (dtF yd) = ya at *
              have g1 : ¬ 9223372036854775807 < y.size + 3 := by omega
              have g2 : ¬ 9223372036854775807 < y.size + 3 + ya.size := by omega
              have g3 : ¬ 9223372036854775807 < y.size + 3 + ya.size + 1 := by omega
              have g4 : ¬ 9223372036854775807 < y.size + 3 + ya.size + 1 + nx.size := by omega
              have g5 : ¬ 9223372036854775807 < y.size + 3 + ya.size + 1 + nx.size + 1 := by omega
              go_wp2_with fail
              refine wp_region_noPanic ?_
              refine wp_region_held_drew (S := fun w' => w'.cell? ⟨g, o + k * 2, none⟩ = some (.int .i64 yd) ∧ w'.cell? ⟨g, o + k * 2 + 1, none⟩ = some (.int .i64 (Jx : Int)) ∧ (∀ ii, w'.cell? ⟨w.heap.size, ii, none⟩ = (#[.string t.nm, .slice (some ⟨gd, od, none⟩) t.D.length cD, .int .i64 t.w0, .int .i64 t.w1, .int .i64 t.w2, .int .i64 t.w3, .int .i64 t.w4, .int .i64 t.w5, .int .i64 t.w6, .slice aS t.S.length cS, .slice (some ⟨g, o, none⟩) t.X.length cX, .slice aH t.H.length cH] : Array Value)[ii]?) ∧ w'.cell? ⟨gd, od + Jx * 2, none⟩ = some (.string nx)) (by kernel_rfl) ?_ (fun hHeld => ?_)
              · (try dsimp only)
                exact ⟨c0, c1, x3, pNY⟩
              refine wpAnyH_take (i := 0) (oi := { dst := some 122, op := Op.move (Operand.tmp 5), type := 9, pos := "text.go:399", after := #[], guard := none }) (v := ?_) rfl (by kernel_rfl) (by kernel_rfl) (by kernel_rfl) (fun _ _ _ h => h) (Or.inl ⟨by rfl, ?_⟩) (by assumption) ?_
              rotate_left
              · intro wz hSz; (try dsimp only at hSz); go_simp; all_goals (with_reducible rfl)
              (try simp only [Act.put, List.setIfInBounds_toArray, List.set_cons_zero, List.set_cons_succ])
              refine wpAnyH_take (i := 1) (oi := { dst := some 123, op := Op.binOp BinOp.add 9 (Operand.tmp 122) (Operand.const (Value.string { data := #[111, 110, 32] })) 9, type := 9, pos := "text.go:399", after := #[{ on := 0, ground := Ground.data }], guard := none }) (v := ?_) rfl (by kernel_rfl) (by kernel_rfl) (by kernel_rfl) (fun _ _ _ h => h) (Or.inl ⟨by rfl, ?_⟩) (by assumption) ?_
              rotate_left
              · intro wz hSz; (try dsimp only at hSz); go_simp; all_goals (with_reducible rfl)
              (try simp only [Act.put, List.setIfInBounds_toArray, List.set_cons_zero, List.set_cons_succ])
              refine wpAnyH_take (i := 2) (oi := { dst := some 124, op := Op.fieldAddr 28 (Operand.tmp 1) 4, type := 0, pos := "text.go:399", after := #[], guard := none }) (v := ?_) rfl (by kernel_rfl) (by kernel_rfl) (by kernel_rfl) (fun _ _ _ h => h) (Or.inl ⟨by rfl, ?_⟩) (by assumption) ?_
              rotate_left
              · intro wz hSz; (try dsimp only at hSz); go_simp; all_goals (with_reducible rfl)
              (try simp only [Act.put, List.setIfInBounds_toArray, List.set_cons_zero, List.set_cons_succ])
              refine wpAnyH_take (i := 3) (oi := { dst := some 125, op := Op.load 25 (Operand.tmp 124), type := 25, pos := "text.go:399", after := #[{ on := 2, ground := Ground.data }], guard := none }) (v := ?_) rfl (by kernel_rfl) (by kernel_rfl) (by kernel_rfl) (fun _ _ _ h => h) (Or.inl ⟨by rfl, ?_⟩) (by assumption) ?_
              rotate_left
              · intro wz hSz; (try dsimp only at hSz); go_simp; all_goals (with_reducible rfl)
              (try simp only [Act.put, List.setIfInBounds_toArray, List.set_cons_zero, List.set_cons_succ])
              refine wpAnyH_take (i := 4) (oi := { dst := some 126, op := Op.move (Operand.tmp 11), type := 3, pos := "text.go:399", after := #[], guard := none }) (v := ?_) rfl (by kernel_rfl) (by kernel_rfl) (by kernel_rfl) (fun _ _ _ h => h) (Or.inl ⟨by rfl, ?_⟩) (by assumption) ?_
              rotate_left
              · intro wz hSz; (try dsimp only at hSz); go_simp; all_goals (with_reducible rfl)
              (try simp only [Act.put, List.setIfInBounds_toArray, List.set_cons_zero, List.set_cons_succ])
              refine wpAnyH_take (i := 5) (oi := { dst := some 127, op := Op.indexAddr 25 (Operand.tmp 125) (Operand.tmp 126), type := 0, pos := "text.go:399", after := #[{ on := 3, ground := Ground.data }, { on := 4, ground := Ground.data }], guard := none }) (v := ?_) rfl (by kernel_rfl) (by kernel_rfl) (by kernel_rfl) (fun _ _ _ h => h) (Or.inl ⟨by rfl, ?_⟩) (by assumption) ?_
              rotate_left
              · intro wz hSz; (try dsimp only at hSz); go_simp; all_goals (with_reducible rfl)
              (try simp only [Act.put, List.setIfInBounds_toArray, List.set_cons_zero, List.set_cons_succ])
              refine wpAnyH_take (i := 6) (oi := { dst := some 128, op := Op.fieldAddr 47 (Operand.tmp 127) 0, type := 0, pos := "text.go:399", after := #[{ on := 5, ground := Ground.data }], guard := none }) (v := ?_) rfl (by kernel_rfl) (by kernel_rfl) (by kernel_rfl) (fun _ _ _ h => h) (Or.inl ⟨by rfl, ?_⟩) (by assumption) ?_
              rotate_left
              · intro wz hSz; (try dsimp only at hSz); go_simp; all_goals (with_reducible rfl)
              (try simp only [Act.put, List.setIfInBounds_toArray, List.set_cons_zero, List.set_cons_succ])
              refine wpAnyH_take (i := 7) (oi := { dst := some 129, op := Op.load 3 (Operand.tmp 128), type := 3, pos := "text.go:399", after := #[{ on := 6, ground := Ground.data }], guard := none }) (v := ?_) rfl (by kernel_rfl) (by kernel_rfl) (by kernel_rfl) (fun _ _ _ h => h) (Or.inl ⟨by rfl, ?_⟩) (by assumption) ?_
              rotate_left
              · intro wz hSz; (try dsimp only at hSz); go_simp; all_goals (with_reducible rfl)
              (try simp only [Act.put, List.setIfInBounds_toArray, List.set_cons_zero, List.set_cons_succ])
              refine wpAnyH_take (i := 11) (oi := { dst := some 133, op := Op.fieldAddr 28 (Operand.tmp 1) 1, type := 0, pos := "text.go:399", after := #[], guard := none }) (v := ?_) rfl (by kernel_rfl) (by kernel_rfl) (by kernel_rfl) (fun _ _ _ h => h) (Or.inl ⟨by rfl, ?_⟩) (by assumption) ?_
              rotate_left
              · intro wz hSz; (try dsimp only at hSz); go_simp; all_goals (with_reducible rfl)
              (try simp only [Act.put, List.setIfInBounds_toArray, List.set_cons_zero, List.set_cons_succ])
              refine wpAnyH_take (i := 12) (oi := { dst := some 134, op := Op.load 22 (Operand.tmp 133), type := 22, pos := "text.go:399", after := #[{ on := 11, ground := Ground.data }], guard := none }) (v := ?_) rfl (by kernel_rfl) (by kernel_rfl) (by kernel_rfl) (fun _ _ _ h => h) (Or.inl ⟨by rfl, ?_⟩) (by assumption) ?_
              rotate_left
              · intro wz hSz; (try dsimp only at hSz); go_simp; all_goals (with_reducible rfl)
              (try simp only [Act.put, List.setIfInBounds_toArray, List.set_cons_zero, List.set_cons_succ])
              refine wpAnyH_take (i := 13) (oi := { dst := some 135, op := Op.fieldAddr 28 (Operand.tmp 1) 4, type := 0, pos := "text.go:399", after := #[], guard := none }) (v := ?_) rfl (by kernel_rfl) (by kernel_rfl) (by kernel_rfl) (fun _ _ _ h => h) (Or.inl ⟨by rfl, ?_⟩) (by assumption) ?_
              rotate_left
              · intro wz hSz; (try dsimp only at hSz); go_simp; all_goals (with_reducible rfl)
              (try simp only [Act.put, List.setIfInBounds_toArray, List.set_cons_zero, List.set_cons_succ])
              refine wpAnyH_take (i := 14) (oi := { dst := some 136, op := Op.load 25 (Operand.tmp 135), type := 25, pos := "text.go:399", after := #[{ on := 13, ground := Ground.data }], guard := none }) (v := ?_) rfl (by kernel_rfl) (by kernel_rfl) (by kernel_rfl) (fun _ _ _ h => h) (Or.inl ⟨by rfl, ?_⟩) (by assumption) ?_
              rotate_left
              · intro wz hSz; (try dsimp only at hSz); go_simp; all_goals (with_reducible rfl)
              (try simp only [Act.put, List.setIfInBounds_toArray, List.set_cons_zero, List.set_cons_succ])
              refine wpAnyH_take (i := 15) (oi := { dst := some 137, op := Op.move (Operand.tmp 11), type := 3, pos := "text.go:399", after := #[], guard := none }) (v := ?_) rfl (by kernel_rfl) (by kernel_rfl) (by kernel_rfl) (fun _ _ _ h => h) (Or.inl ⟨by rfl, ?_⟩) (by assumption) ?_
              rotate_left
              · intro wz hSz; (try dsimp only at hSz); go_simp; all_goals (with_reducible rfl)
              (try simp only [Act.put, List.setIfInBounds_toArray, List.set_cons_zero, List.set_cons_succ])
              refine wpAnyH_take (i := 16) (oi := { dst := some 138, op := Op.indexAddr 25 (Operand.tmp 136) (Operand.tmp 137), type := 0, pos := "text.go:399", after := #[{ on := 14, ground := Ground.data }, { on := 15, ground := Ground.data }], guard := none }) (v := ?_) rfl (by kernel_rfl) (by kernel_rfl) (by kernel_rfl) (fun _ _ _ h => h) (Or.inl ⟨by rfl, ?_⟩) (by assumption) ?_
              rotate_left
              · intro wz hSz; (try dsimp only at hSz); go_simp; all_goals (with_reducible rfl)
              (try simp only [Act.put, List.setIfInBounds_toArray, List.set_cons_zero, List.set_cons_succ])
              refine wpAnyH_take (i := 17) (oi := { dst := some 139, op := Op.fieldAddr 47 (Operand.tmp 138) 1, type := 0, pos := "text.go:399", after := #[{ on := 16, ground := Ground.data }], guard := none }) (v := ?_) rfl (by kernel_rfl) (by kernel_rfl) (by kernel_rfl) (fun _ _ _ h => h) (Or.inl ⟨by rfl, ?_⟩) (by assumption) ?_
              rotate_left
              · intro wz hSz; (try dsimp only at hSz); go_simp; all_goals (with_reducible rfl)
              (try simp only [Act.put, List.setIfInBounds_toArray, List.set_cons_zero, List.set_cons_succ])
              refine wpAnyH_take (i := 18) (oi := { dst := some 140, op := Op.load 3 (Operand.tmp 139), type := 3, pos := "text.go:399", after := #[{ on := 17, ground := Ground.data }], guard := none }) (v := ?_) rfl (by kernel_rfl) (by kernel_rfl) (by kernel_rfl) (fun _ _ _ h => h) (Or.inl ⟨by rfl, ?_⟩) (by assumption) ?_
              rotate_left
              · intro wz hSz; (try dsimp only at hSz); go_simp; all_goals (with_reducible rfl)
              (try simp only [Act.put, List.setIfInBounds_toArray, List.set_cons_zero, List.set_cons_succ])
              refine wpAnyH_take (i := 19) (oi := { dst := some 141, op := Op.indexAddr 22 (Operand.tmp 134) (Operand.tmp 140), type := 0, pos := "text.go:399", after := #[{ on := 12, ground := Ground.data }, { on := 18, ground := Ground.data }], guard := none }) (v := ?_) rfl (by kernel_rfl) (by kernel_rfl) (by kernel_rfl) (fun _ _ _ h => h) (Or.inl ⟨by rfl, ?_⟩) (by assumption) ?_
              rotate_left
              · intro wz hSz; (try dsimp only at hSz); go_simp; all_goals (with_reducible rfl)
              (try simp only [Act.put, List.setIfInBounds_toArray, List.set_cons_zero, List.set_cons_succ])
              refine wpAnyH_take (i := 20) (oi := { dst := some 142, op := Op.fieldAddr 41 (Operand.tmp 141) 0, type := 0, pos := "text.go:399", after := #[{ on := 19, ground := Ground.data }], guard := none }) (v := ?_) rfl (by kernel_rfl) (by kernel_rfl) (by kernel_rfl) (fun _ _ _ h => h) (Or.inl ⟨by rfl, ?_⟩) (by assumption) ?_
              rotate_left
              · intro wz hSz; (try dsimp only at hSz); go_simp; all_goals (with_reducible rfl)
              (try simp only [Act.put, List.setIfInBounds_toArray, List.set_cons_zero, List.set_cons_succ])
              refine wpAnyH_take (i := 21) (oi := { dst := some 143, op := Op.load 9 (Operand.tmp 142), type := 9, pos := "text.go:399", after := #[{ on := 20, ground := Ground.data }], guard := none }) (v := ?_) rfl (by kernel_rfl) (by kernel_rfl) (by kernel_rfl) (fun _ _ _ h => h) (Or.inl ⟨by rfl, ?_⟩) (by assumption) ?_
              rotate_left
              · intro wz hSz; (try dsimp only at hSz); go_simp; all_goals (with_reducible rfl)
              (try simp only [Act.put, List.setIfInBounds_toArray, List.set_cons_zero, List.set_cons_succ])
              refine wpAnyH_ready (rs := [8]) (by kernel_rfl) (by simp) ?_
              refine AllReadyH.cons (o := { dst := some 130, op := Op.call { callee := Callee.value (Operand.func 20), args := #[Operand.tmp 129], argTypes := #[3] }, type := 9, pos := "text.go:399", after := #[{ on := 7, ground := Ground.data }], guard := none }) rfl (fun K hK => ?_) AllReadyH.nil
              go_simp
              go_at_call 20
              (with_reducible refine (hcf wr.drew).mono ?_)
              rintro e v1 ⟨rfl, hc1⟩
              have hd1 : Below wr.heap.size wr v1 := bel_after ((Below.refl wr.heap.size wr).drew) (Nat.le_refl _) hc1
              go_wp2_with fail
              refine hK.out _ _ ?_ (fun hHeld => ?_)
              · (try dsimp only)
                exact ⟨(hd1.cell (p := ⟨g, _, none⟩) (cell_ltF c0)).trans c0, (hd1.cell (p := ⟨g, _, none⟩) (cell_ltF c1)).trans c1, fun ii => (hd1.cell (p := ⟨w.heap.size, ii, none⟩) hbxl).trans (x3 ii), (hd1.cell (p := ⟨gd, _, none⟩) (cell_ltF pNY)).trans pNY⟩
              clear hK K
              (try simp only [Act.put, List.setIfInBounds_toArray, List.set_cons_zero, List.set_cons_succ])
              refine wpAnyH_take (i := 9) (oi := { dst := some 131, op := Op.binOp BinOp.add 9 (Operand.tmp 123) (Operand.tmp 130) 9, type := 9, pos := "text.go:399", after := #[{ on := 1, ground := Ground.data }, { on := 8, ground := Ground.data }], guard := none }) (v := ?_) rfl (by kernel_rfl) (by kernel_rfl) (by kernel_rfl) (fun _ _ _ h => h) (Or.inl ⟨by rfl, ?_⟩) (by assumption) ?_
              rotate_left
              · intro wz hSz; (try dsimp only at hSz); go_simp; all_goals (with_reducible rfl)
              (try simp only [Act.put, List.setIfInBounds_toArray, List.set_cons_zero, List.set_cons_succ])
              refine wpAnyH_take (i := 10) (oi := { dst := some 132, op := Op.binOp BinOp.add 9 (Operand.tmp 131) (Operand.const (Value.string { data := #[32] })) 9, type := 9, pos := "text.go:399", after := #[{ on := 9, ground := Ground.data }], guard := none }) (v := ?_) rfl (by kernel_rfl) (by kernel_rfl) (by kernel_rfl) (fun _ _ _ h => h) (Or.inl ⟨by rfl, ?_⟩) (by assumption) ?_
              rotate_left
              · intro wz hSz; (try dsimp only at hSz); go_simp; all_goals (with_reducible rfl)
              (try simp only [Act.put, List.setIfInBounds_toArray, List.set_cons_zero, List.set_cons_succ])
              refine wpAnyH_take (i := 22) (oi := { dst := some 144, op := Op.binOp BinOp.add 9 (Operand.tmp 132) (Operand.tmp 143) 9, type := 9, pos := "text.go:399", after := #[{ on := 10, ground := Ground.data }, { on := 21, ground := Ground.data }], guard := none }) (v := ?_) rfl (by kernel_rfl) (by kernel_rfl) (by kernel_rfl) (fun _ _ _ h => h) (Or.inl ⟨by rfl, ?_⟩) (by assumption) ?_
              rotate_left
              · intro wz hSz; (try dsimp only at hSz); go_simp; all_goals (with_reducible rfl)
              (try simp only [Act.put, List.setIfInBounds_toArray, List.set_cons_zero, List.set_cons_succ])
              refine wpAnyH_take (i := 23) (oi := { dst := some 145, op := Op.binOp BinOp.add 9 (Operand.tmp 144) (Operand.const (Value.string { data := #[10] })) 9, type := 9, pos := "text.go:399", after := #[{ on := 22, ground := Ground.data }], guard := none }) (v := ?_) rfl (by kernel_rfl) (by kernel_rfl) (by kernel_rfl) (fun _ _ _ h => h) (Or.inl ⟨by rfl, ?_⟩) (by assumption) ?_
              rotate_left
              · intro wz hSz; (try dsimp only at hSz); go_simp; all_goals (with_reducible rfl)
              (try simp only [Act.put, List.setIfInBounds_toArray, List.set_cons_zero, List.set_cons_succ])
              refine wpAnyH_take (i := 24) (oi := { dst := some 5, op := Op.assign (Operand.tmp 145), type := 9, pos := "text.go:399", after := #[{ on := 23, ground := Ground.data }, { on := 8, ground := Ground.chain }, { on := 0, ground := Ground.phase }, { on := 1, ground := Ground.phase }, { on := 2, ground := Ground.phase }, { on := 3, ground := Ground.phase }, { on := 4, ground := Ground.phase }, { on := 5, ground := Ground.phase }, { on := 6, ground := Ground.phase }, { on := 7, ground := Ground.phase }, { on := 8, ground := Ground.phase }, { on := 9, ground := Ground.phase }, { on := 10, ground := Ground.phase }, { on := 11, ground := Ground.phase }, { on := 12, ground := Ground.phase }, { on := 13, ground := Ground.phase }, { on := 14, ground := Ground.phase }, { on := 15, ground := Ground.phase }, { on := 16, ground := Ground.phase }, { on := 17, ground := Ground.phase }, { on := 18, ground := Ground.phase }, { on := 19, ground := Ground.phase }, { on := 20, ground := Ground.phase }, { on := 21, ground := Ground.phase }, { on := 22, ground := Ground.phase }, { on := 23, ground := Ground.phase }], guard := none }) (v := ?_) rfl (by kernel_rfl) (by kernel_rfl) (by kernel_rfl) (fun _ _ _ h => h) (Or.inl ⟨by rfl, ?_⟩) (by assumption) ?_
              rotate_left
              · intro wz hSz; (try dsimp only at hSz); go_simp; all_goals (with_reducible rfl)
              (try simp only [Act.put, List.setIfInBounds_toArray, List.set_cons_zero, List.set_cons_succ])
              refine wpAnyH_done (by kernel_rfl) ?_ _
              refine NoPanic.normal ?_
              have hB8 : Below w1.heap.size w1 v1 := hb.out.trans (hd1.mono hb.out.size)
              clear hHeld
              go_wp2_with fail
              go_roundg (gk - 1)
              case measure => go_light; omega
              case rel => exact ⟨k + 1, by omega, by go_num, (by rw [hrow.out]), hz8, hB8⟩
            · obtain rfl : k = t.X.length := by omega
              have t1 : ¬ (t.X.length : Int) < (t.X.length : Int) := by omega
              have eT : t.X.take t.X.length = t.X := List.take_length
              rw [eT] at hz ⊢
              obtain ⟨TC, hTC⟩ : ∃ T, T = TB ++ (t.X.map (exF t.D)).flatten := ⟨_, rfl⟩
              rw [← hTC] at hz ⊢
              have hTC' : Hid (TC = TB ++ (t.X.map (exF t.D)).flatten) := hTC
              clear hTC
              have hzTC : TC.length ≤ 7700000 := by have := hall.out.1; omega
              have hBTC : Hid (Below w1.heap.size w1 wr) := hb
              go_wp2_with fail
              clear hb hz x3 t1 eT
              go_loopg [5, 12] t.H.length (fun gk s5 sS wr => ∃ k : Nat, k + gk = t.H.length ∧ sS = .int .i64 (k : Int) ∧ s5 = .string (bs (TC ++ ((t.H.take k).map (shF)).flatten)) ∧ (TC ++ ((t.H.take k).map (shF)).flatten).length ≤ 7700000 + 6001 * k ∧ Hid (Below w1.heap.size w1 wr))
              case atStart => exact ⟨0, by omega, rfl, (by simp), (by simpa using hzTC), hBTC⟩
              case round =>
                clear hBTC
                obtain ⟨k, hk, rfl, rfl, hz, hb⟩ := hrel
                obtain ⟨_, x3, _⟩ := id (hbx.below hb.out)
                have hl64 : t.H.length ≤ 64 := by have := hall.out; omega
                by_cases hlt : k < t.H.length
                · obtain ⟨g, o, hae, hg, P⟩ := (hTR.h.ln).resolve_left (by intro e; rw [e] at hlt; simp at hlt)
                  subst hae
                  have hst : Hid (TC ++ ((t.H.take (k + 1)).map (shF)).flatten = (TC ++ ((t.H.take k).map (shF)).flatten) ++ shF t.H[k]) := by show _ = _; rw [flat_step (shF) t.H k hlt, List.append_assoc]
                  have t1 : (k : Int) < (t.H.length : Int) := by omega
                  have t0 : (0 : Int) ≤ (k : Int) := by omega
                  obtain ⟨T2, hT2⟩ : ∃ T2, T2 = TC ++ ((t.H.take k).map (shF)).flatten := ⟨_, rfl⟩
                  rw [← hT2] at hz hst ⊢
                  have hsz2 : (bs T2).size ≤ 9000000 := by rw [bs_size]; omega
                  have c0 := (hb.out.cell (p := ⟨g, _, none⟩) hg).trans (P k hlt 0 _ rfl)
                  have c1 := (hb.out.cell (p := ⟨g, _, none⟩) hg).trans (P k hlt 1 _ rfl)
                  simp only [Nat.add_zero] at c0
                  have hym := hall.out.2.2.2.2.1.2.2 _ (List.getElem_mem hlt)
                  have hyp := hall.out.2.2.2.2.2 _ (List.getElem_mem hlt)
                  clear P
                  generalize t.H[k] = y at *
                  obtain ⟨ym, yp⟩ := y
                  dsimp only at hym hyp c0 c1
                  obtain ⟨Q, hQ⟩ : ∃ Q : Nat, ym % 1440 = (Q : Int) := ⟨(ym % 1440).toNat, by omega⟩
                  have k7 : IntKind.i64.wrap (ym.tdiv 1440) = ym / 1440 := by rw [Int.tdiv_eq_ediv_of_nonneg hym.1]; exact wrap64 _ (by omega)
                  have k8 : ym.tmod 1440 = (Q : Int) := by rw [Int.tmod_eq_emod_of_nonneg hym.1]; exact hQ
                  have hQn : (ym % 1440).toNat = Q := by omega
                  have hcf := fun W => dated_any (ym / 1440) W (by omega) (by omega)
                  have hcc := fun W => clocked_any Q W (by omega)
                  have hsF : Hid (shF ⟨ym, yp⟩ = lnF [[115, 104, 105, 102, 116], dtF (ym / 1440), ckF Q, puF yp]) := by show _ = _; unfold shF; dsimp only; rw [hQn]
                  have hz8 : (TC ++ ((t.H.take (k + 1)).map (shF)).flatten).length ≤ 7700000 + 6001 * (k + 1) := by
                    have := lnF_len [[115, 104, 105, 102, 116], dtF (ym / 1440), ckF Q, puF yp] (fun x hx => by simp only [List.mem_cons, List.not_mem_nil, or_false] at hx; rcases hx with hx | hx | hx | hx; (rw [hx]; show 5 ≤ 1000; omega); (rw [hx]; have := dt_len (ym / 1440); omega); (rw [hx, ck_len]; omega); (rw [hx]; have := pu_len yp hyp.1 hyp.2; omega)) (by show 4 ≤ 4; omega)
                    rw [hst.out, List.length_append, hsF.out]
                    omega
                  have hq1 : (bs (dtF (ym / 1440))).size ≤ 10 := by rw [bs_size]; exact dt_len _
                  have hq2 : (bs (ckF Q)).size = 5 := by rw [bs_size, ck_len]
                  have hrn : Hid (∀ (K : Nat), 0 < K → yp = -(K : Int) → bs T2 ++ (⟨#[115, 104, 105, 102, 116, 32]⟩ : ByteArray) ++ bs (dtF (ym / 1440)) ++ (⟨#[32]⟩ : ByteArray) ++ bs (ckF Q) ++ (⟨#[32]⟩ : ByteArray) ++ (⟨#[45]⟩ : ByteArray) ++ ti (K : Int) ++ (⟨#[10]⟩ : ByteArray) = bs (TC ++ ((t.H.take (k + 1)).map (shF)).flatten)) := by intro K hK e; rw [sh_bs T2 _ _ (puF yp) _ _ (by rw [e]; exact pu_neg K hK), hst.out, hsF.out]
                  have hrp : Hid (∀ (K : Nat), yp = (K : Int) → bs T2 ++ (⟨#[115, 104, 105, 102, 116, 32]⟩ : ByteArray) ++ bs (dtF (ym / 1440)) ++ (⟨#[32]⟩ : ByteArray) ++ bs (ckF Q) ++ (⟨#[32]⟩ : ByteArray) ++ (⟨#[43]⟩ : ByteArray) ++ ti (K : Int) ++ (⟨#[10]⟩ : ByteArray) = bs (TC ++ ((t.H.take (k + 1)).map (shF)).flatten)) := by intro K e; rw [sh_bs T2 _ _ (puF yp) _ _ (by rw [e]; exact pu_pos K), hst.out, hsF.out]
                  generalize bs T2 = y at *
                  generalize bs (dtF (ym / 1440)) = ya at *
                  generalize bs (ckF Q) = yb at *
                  go_wp2_with fail
                  have hkk := (Has.new wr #[.int .i64 ym, .int .i64 yp] 49 rfl).2.1
                  have hpl : wr.heap.size < (wr.alloc (.cells #[.int .i64 ym, .int .i64 yp] 49)).heap.size := by simp
                  have hBY : Below w1.heap.size w1 (wr.alloc (.cells #[.int .i64 ym, .int .i64 yp] 49)) := hb.out.trans (bel1.mono hb.out.size)
                  clear hb c0 c1 x3
                  generalize (wr.alloc (.cells #[.int .i64 ym, .int .i64 yp] 49)) = Y at *
                  generalize wr.heap.size = p9 at *
                  have g1 : ¬ 9223372036854775807 < y.size + 6 := by omega
                  have g2 : ¬ 9223372036854775807 < y.size + 6 + ya.size := by omega
                  have g3 : ¬ 9223372036854775807 < y.size + 6 + ya.size + 1 := by omega
                  have g4 : ¬ 9223372036854775807 < y.size + 6 + ya.size + 1 + 5 := by omega
                  have g5 : ¬ 9223372036854775807 < y.size + 6 + ya.size + 1 + 5 + 1 := by omega
                  refine wp_region_noPanic ?_
                  refine wp_region_held_drew (S := fun w' => (∀ ii, w'.cell? ⟨p9, ii, none⟩ = (#[.int .i64 ym, .int .i64 yp] : Array Value)[ii]?)) (by kernel_rfl) ?_ (fun hHeld => ?_)
                  · (try dsimp only)
                    exact hkk
                  refine wpAnyH_take (i := 0) (oi := { dst := some 158, op := Op.move (Operand.tmp 5), type := 9, pos := "text.go:403", after := #[], guard := none }) (v := ?_) rfl (by kernel_rfl) (by kernel_rfl) (by kernel_rfl) (fun _ _ _ h => h) (Or.inl ⟨by rfl, ?_⟩) (by assumption) ?_
                  rotate_left
                  · intro wz hSz; (try dsimp only at hSz); go_simp; all_goals (with_reducible rfl)
                  (try simp only [Act.put, List.setIfInBounds_toArray, List.set_cons_zero, List.set_cons_succ])
                  refine wpAnyH_take (i := 1) (oi := { dst := some 159, op := Op.binOp BinOp.add 9 (Operand.tmp 158) (Operand.const (Value.string { data := #[115, 104, 105, 102, 116, 32] })) 9, type := 9, pos := "text.go:403", after := #[{ on := 0, ground := Ground.data }], guard := none }) (v := ?_) rfl (by kernel_rfl) (by kernel_rfl) (by kernel_rfl) (fun _ _ _ h => h) (Or.inl ⟨by rfl, ?_⟩) (by assumption) ?_
                  rotate_left
                  · intro wz hSz; (try dsimp only at hSz); go_simp; all_goals (with_reducible rfl)
                  (try simp only [Act.put, List.setIfInBounds_toArray, List.set_cons_zero, List.set_cons_succ])
                  refine wpAnyH_take (i := 2) (oi := { dst := some 160, op := Op.fieldAddr 49 (Operand.tmp 13) 0, type := 0, pos := "text.go:403", after := #[], guard := none }) (v := ?_) rfl (by kernel_rfl) (by kernel_rfl) (by kernel_rfl) (fun _ _ _ h => h) (Or.inl ⟨by rfl, ?_⟩) (by assumption) ?_
                  rotate_left
                  · intro wz hSz; (try dsimp only at hSz); go_simp; all_goals (with_reducible rfl)
                  (try simp only [Act.put, List.setIfInBounds_toArray, List.set_cons_zero, List.set_cons_succ])
                  refine wpAnyH_take (i := 3) (oi := { dst := some 161, op := Op.load 3 (Operand.tmp 160), type := 3, pos := "text.go:403", after := #[{ on := 2, ground := Ground.data }], guard := none }) (v := ?_) rfl (by kernel_rfl) (by kernel_rfl) (by kernel_rfl) (fun _ _ _ h => h) (Or.inl ⟨by rfl, ?_⟩) (by assumption) ?_
                  rotate_left
                  · intro wz hSz; (try dsimp only at hSz); go_simp; all_goals (with_reducible rfl)
                  (try simp only [Act.put, List.setIfInBounds_toArray, List.set_cons_zero, List.set_cons_succ])
                  refine wpAnyH_take (i := 4) (oi := { dst := some 162, op := Op.binOp BinOp.quo 3 (Operand.tmp 161) (Operand.const (Value.int IntKind.i64 1440)) 3, type := 3, pos := "text.go:403", after := #[{ on := 3, ground := Ground.data }], guard := none }) (v := ?_) rfl (by kernel_rfl) (by kernel_rfl) (by kernel_rfl) (fun _ _ _ h => h) (Or.inl ⟨by rfl, ?_⟩) (by assumption) ?_
                  rotate_left
                  · intro wz hSz; (try dsimp only at hSz); go_simp; all_goals (with_reducible rfl)
                  (try simp only [Act.put, List.setIfInBounds_toArray, List.set_cons_zero, List.set_cons_succ])
                  refine wpAnyH_take (i := 8) (oi := { dst := some 166, op := Op.fieldAddr 49 (Operand.tmp 13) 0, type := 0, pos := "text.go:403", after := #[], guard := none }) (v := ?_) rfl (by kernel_rfl) (by kernel_rfl) (by kernel_rfl) (fun _ _ _ h => h) (Or.inl ⟨by rfl, ?_⟩) (by assumption) ?_
                  rotate_left
                  · intro wz hSz; (try dsimp only at hSz); go_simp; all_goals (with_reducible rfl)
                  (try simp only [Act.put, List.setIfInBounds_toArray, List.set_cons_zero, List.set_cons_succ])
                  refine wpAnyH_take (i := 9) (oi := { dst := some 167, op := Op.load 3 (Operand.tmp 166), type := 3, pos := "text.go:403", after := #[{ on := 8, ground := Ground.data }], guard := none }) (v := ?_) rfl (by kernel_rfl) (by kernel_rfl) (by kernel_rfl) (fun _ _ _ h => h) (Or.inl ⟨by rfl, ?_⟩) (by assumption) ?_
                  rotate_left
                  · intro wz hSz; (try dsimp only at hSz); go_simp; all_goals (with_reducible rfl)
                  (try simp only [Act.put, List.setIfInBounds_toArray, List.set_cons_zero, List.set_cons_succ])
                  refine wpAnyH_take (i := 10) (oi := { dst := some 168, op := Op.binOp BinOp.rem 3 (Operand.tmp 167) (Operand.const (Value.int IntKind.i64 1440)) 3, type := 3, pos := "text.go:403", after := #[{ on := 9, ground := Ground.data }], guard := none }) (v := ?_) rfl (by kernel_rfl) (by kernel_rfl) (by kernel_rfl) (fun _ _ _ h => h) (Or.inl ⟨by rfl, ?_⟩) (by assumption) ?_
                  rotate_left
                  · intro wz hSz; (try dsimp only at hSz); go_simp; all_goals (with_reducible rfl)
                  (try simp only [Act.put, List.setIfInBounds_toArray, List.set_cons_zero, List.set_cons_succ])
                  refine wpAnyH_ready (rs := [5]) (by kernel_rfl) (by simp) ?_
                  refine AllReadyH.cons (o := { dst := some 163, op := Op.call { callee := Callee.value (Operand.func 20), args := #[Operand.tmp 162], argTypes := #[3] }, type := 9, pos := "text.go:403", after := #[{ on := 4, ground := Ground.data }], guard := none }) rfl (fun K hK => ?_) AllReadyH.nil
                  go_simp
                  go_at_call 20
                  (with_reducible refine (hcf Y.drew).mono ?_)
                  rintro e v1 ⟨rfl, hc1⟩
                  have hd1 : Below Y.heap.size Y v1 := bel_after ((Below.refl Y.heap.size Y).drew) (Nat.le_refl _) hc1
                  go_wp2_with fail
                  refine hK.out _ _ ?_ (fun hHeld => ?_)
                  · (try dsimp only)
                    exact fun ii => (hd1.cell (p := ⟨p9, ii, none⟩) hpl).trans (hkk ii)
                  clear hK K
                  (try simp only [Act.put, List.setIfInBounds_toArray, List.set_cons_zero, List.set_cons_succ])
                  refine wpAnyH_take (i := 6) (oi := { dst := some 164, op := Op.binOp BinOp.add 9 (Operand.tmp 159) (Operand.tmp 163) 9, type := 9, pos := "text.go:403", after := #[{ on := 1, ground := Ground.data }, { on := 5, ground := Ground.data }], guard := none }) (v := ?_) rfl (by kernel_rfl) (by kernel_rfl) (by kernel_rfl) (fun _ _ _ h => h) (Or.inl ⟨by rfl, ?_⟩) (by assumption) ?_
                  rotate_left
                  · intro wz hSz; (try dsimp only at hSz); go_simp; all_goals (with_reducible rfl)
                  (try simp only [Act.put, List.setIfInBounds_toArray, List.set_cons_zero, List.set_cons_succ])
                  refine wpAnyH_take (i := 7) (oi := { dst := some 165, op := Op.binOp BinOp.add 9 (Operand.tmp 164) (Operand.const (Value.string { data := #[32] })) 9, type := 9, pos := "text.go:403", after := #[{ on := 6, ground := Ground.data }], guard := none }) (v := ?_) rfl (by kernel_rfl) (by kernel_rfl) (by kernel_rfl) (fun _ _ _ h => h) (Or.inl ⟨by rfl, ?_⟩) (by assumption) ?_
                  rotate_left
                  · intro wz hSz; (try dsimp only at hSz); go_simp; all_goals (with_reducible rfl)
                  (try simp only [Act.put, List.setIfInBounds_toArray, List.set_cons_zero, List.set_cons_succ])
                  refine wpAnyH_ready (rs := [11]) (by kernel_rfl) (by simp) ?_
                  refine AllReadyH.cons (o := { dst := some 169, op := Op.call { callee := Callee.value (Operand.func 17), args := #[Operand.tmp 168], argTypes := #[3] }, type := 9, pos := "text.go:403", after := #[{ on := 10, ground := Ground.data }, { on := 5, ground := Ground.chain }], guard := none }) rfl (fun K hK => ?_) AllReadyH.nil
                  go_simp
                  go_at_call 17
                  (with_reducible refine (hcc v1).mono ?_)
                  rintro e v2 ⟨rfl, hc2⟩
                  have hd2 := belT hd1 hc2
                  go_wp2_with fail
                  refine hK.out _ _ ?_ (fun hHeld => ?_)
                  · (try dsimp only)
                    exact fun ii => (hd2.cell (p := ⟨p9, ii, none⟩) hpl).trans (hkk ii)
                  clear hK K
                  (try simp only [Act.put, List.setIfInBounds_toArray, List.set_cons_zero, List.set_cons_succ])
                  refine wpAnyH_take (i := 12) (oi := { dst := some 170, op := Op.binOp BinOp.add 9 (Operand.tmp 165) (Operand.tmp 169) 9, type := 9, pos := "text.go:403", after := #[{ on := 7, ground := Ground.data }, { on := 11, ground := Ground.data }], guard := none }) (v := ?_) rfl (by kernel_rfl) (by kernel_rfl) (by kernel_rfl) (fun _ _ _ h => h) (Or.inl ⟨by rfl, ?_⟩) (by assumption) ?_
                  rotate_left
                  · intro wz hSz; (try dsimp only at hSz); go_simp; all_goals (with_reducible rfl)
                  (try simp only [Act.put, List.setIfInBounds_toArray, List.set_cons_zero, List.set_cons_succ])
                  refine wpAnyH_take (i := 13) (oi := { dst := some 171, op := Op.binOp BinOp.add 9 (Operand.tmp 170) (Operand.const (Value.string { data := #[32] })) 9, type := 9, pos := "text.go:403", after := #[{ on := 12, ground := Ground.data }], guard := none }) (v := ?_) rfl (by kernel_rfl) (by kernel_rfl) (by kernel_rfl) (fun _ _ _ h => h) (Or.inl ⟨by rfl, ?_⟩) (by assumption) ?_
                  rotate_left
                  · intro wz hSz; (try dsimp only at hSz); go_simp; all_goals (with_reducible rfl)
                  (try simp only [Act.put, List.setIfInBounds_toArray, List.set_cons_zero, List.set_cons_succ])
                  refine wpAnyH_take (i := 14) (oi := { dst := some 5, op := Op.assign (Operand.tmp 171), type := 9, pos := "text.go:403", after := #[{ on := 13, ground := Ground.data }, { on := 11, ground := Ground.chain }, { on := 0, ground := Ground.phase }, { on := 1, ground := Ground.phase }, { on := 2, ground := Ground.phase }, { on := 3, ground := Ground.phase }, { on := 4, ground := Ground.phase }, { on := 5, ground := Ground.phase }, { on := 6, ground := Ground.phase }, { on := 7, ground := Ground.phase }, { on := 8, ground := Ground.phase }, { on := 9, ground := Ground.phase }, { on := 10, ground := Ground.phase }, { on := 11, ground := Ground.phase }, { on := 12, ground := Ground.phase }, { on := 13, ground := Ground.phase }], guard := none }) (v := ?_) rfl (by kernel_rfl) (by kernel_rfl) (by kernel_rfl) (fun _ _ _ h => h) (Or.inl ⟨by rfl, ?_⟩) (by assumption) ?_
                  rotate_left
                  · intro wz hSz; (try dsimp only at hSz); go_simp; all_goals (with_reducible rfl)
                  (try simp only [Act.put, List.setIfInBounds_toArray, List.set_cons_zero, List.set_cons_succ])
                  refine wpAnyH_done (by kernel_rfl) ?_ _
                  refine NoPanic.normal ?_
                  have hk2 := hHeld
                  clear hHeld
                  by_cases hys : yp < 0
                  · obtain ⟨K, rfl⟩ : ∃ K : Nat, yp = -(K : Int) := ⟨(-yp).toNat, by omega⟩
                    have hrow : Hid (_ = _) := hrn.out K (by omega) rfl
                    have htz := ti_len (K : Int) (by omega) (by omega)
                    have hpp := fun W => plain_any K W (by omega)
                    generalize ti (K : Int) = yt at *
                    go_wp2_with (go_at_call 18; (with_reducible refine (hpp v2).mono ?_); rintro e v3 ⟨rfl, hc3⟩)
                    have hB8 : Hid (Below w1.heap.size w1 v3) := (hBY.trans (hd2.mono hBY.size)).trans (hc3.mono (Nat.le_trans hBY.size hd2.size))
                    go_roundg (gk - 1)
                    case measure => go_light; omega
                    case rel => exact ⟨k + 1, by omega, by go_num, (by rw [hrow.out]), hz8, hB8⟩
                  · obtain ⟨K, rfl⟩ : ∃ K : Nat, yp = (K : Int) := ⟨yp.toNat, by omega⟩
                    have hrow : Hid (_ = _) := hrp.out K rfl
                    have htz := ti_len (K : Int) (by omega) (by omega)
                    have hpp := fun W => plain_any K W (by omega)
                    generalize ti (K : Int) = yt at *
                    go_wp2_with (go_at_call 18; (with_reducible refine (hpp v2).mono ?_); rintro e v3 ⟨rfl, hc3⟩)
                    have hB8 : Hid (Below w1.heap.size w1 v3) := (hBY.trans (hd2.mono hBY.size)).trans (hc3.mono (Nat.le_trans hBY.size hd2.size))
                    go_roundg (gk - 1)
                    case measure => go_light; omega
                    case rel => exact ⟨k + 1, by omega, by go_num, (by rw [hrow.out]), hz8, hB8⟩
                · obtain rfl : k = t.H.length := by omega
                  have t1 : ¬ (t.H.length : Int) < (t.H.length : Int) := by omega
                  have eT : t.H.take t.H.length = t.H := List.take_length
                  rw [eT] at hz ⊢
                  have hfin : TC ++ (t.H.map shF).flatten = prF t := by rw [hTC'.out, hTB'.out, hTA'.out]; rfl
                  rw [hfin]
                  go_wp2_with fail
                  go_ret2
                  exact ⟨rfl, hbw.trans (hb.out.mono hbw.size)⟩
end Go.Proofs.YtkeoebllblbkgaaGreatDoor
