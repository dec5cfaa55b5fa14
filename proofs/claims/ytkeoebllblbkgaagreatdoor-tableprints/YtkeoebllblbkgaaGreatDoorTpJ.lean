import Derived.Test.YtkeoebllblbkgaaGreatDoorTpI
import Derived.Test.YtkeoebllblbkgaaGreatDoorTbH
namespace Go.Proofs.YtkeoebllblbkgaaGreatDoor
open Go.RowKit
set_option linter.unusedVariables false
set_option linter.unusedSimpArgs false

theorem Mt.below {w w' : World} (h : Mt w) (hb : Below w.heap.size w w') : Mt w' := fun i hi => (hb.cell (p := ⟨0, i, none⟩) (cell_ltF (h i hi))).trans (h i hi)
theorem heap_new (w : World) (vs : Array Value) (T : TypeId) : (w.alloc (.cells vs T)).heap[w.heap.size]? = some (.cells vs T (0, 0)) := by show (w.heap.push _)[w.heap.size]? = _; simp
theorem Stay.has {w w' : World} (h : Stay w w') {b : Nat} {vs : Array Value} {T : TypeId} (hb : w.heap[b]? = some (.cells vs T (0, 0))) (h1 : T ≠ 55) (h2 : T ≠ 5) : w'.heap[b]? = some (.cells vs T (0, 0)) := h b vs T (0, 0) hb h1 h2
theorem cell_at {w : World} {b : Nat} {vs : Array Value} {T : TypeId} (hb : w.heap[b]? = some (.cells vs T (0, 0))) (i : Nat) : w.cell? ⟨b, i, none⟩ = vs[i]? := by simp [World.cell?, hb]
set_option maxRecDepth 100000 in
set_option maxHeartbeats 4000000 in
theorem print_bad (t : Tt) (aD aS aX aH : Option Addr) (cD cS cX cH : Nat) (w : World) (hR : TR w t (.slice aD t.D.length cD) (.slice aS t.S.length cS) (.slice aX t.X.length cX) (.slice aH t.H.length cH)) (he : t.err ≠ 0) (he0 : 0 ≤ t.err) : Calls Tryz.prog 5 #[.agg #[.string t.nm, .slice aD t.D.length cD, .int .i64 t.w0, .int .i64 t.w1, .int .i64 t.w2, .int .i64 t.w3, .int .i64 t.w4, .int .i64 t.w5, .int .i64 t.w6, .slice aS t.S.length cS, .slice aX t.X.length cX, .slice aH t.H.length cH]] w fun e w' => e = .returned (.tuple #[.string ⟨#[]⟩, .int .i64 t.err]) ∧ Below w.heap.size w w' := by
  have hs := sound_any t aD aS aX aH cD cS cX cH _ (hR.below (bel1 (o := .cells #[.string t.nm, .slice aD t.D.length cD, .int .i64 t.w0, .int .i64 t.w1, .int .i64 t.w2, .int .i64 t.w3, .int .i64 t.w4, .int .i64 t.w5, .int .i64 t.w6, .slice aS t.S.length cS, .slice aX t.X.length cX, .slice aH t.H.length cH] 28)))
  have he' : (t.err == 0) = false := by simp; exact he
  go_enter Tryz.func5, Tryz.ntmps5
  go_wp2_with (go_at_call 7; (with_reducible refine hs.mono ?_); rintro e w1 ⟨rfl, hb1⟩)
  go_ret2
  exact ⟨rfl, belT bel1 hb1⟩
set_option maxRecDepth 100000 in
set_option maxHeartbeats 20000000 in
theorem print_ok (t : Tt) (aD aS aX aH : Option Addr) (cD cS cX cH : Nat) (w : World) (hR : TR w t (.slice aD t.D.length cD) (.slice aS t.S.length cS) (.slice aX t.X.length cX) (.slice aH t.H.length cH)) (he : t.err = 0) (hT : Mt w) (hP : Pw w) : Calls Tryz.prog 5 #[.agg #[.string t.nm, .slice aD t.D.length cD, .int .i64 t.w0, .int .i64 t.w1, .int .i64 t.w2, .int .i64 t.w3, .int .i64 t.w4, .int .i64 t.w5, .int .i64 t.w6, .slice aS t.S.length cS, .slice aX t.X.length cX, .slice aH t.H.length cH]] w fun e w' => e = .returned (.tuple #[.string (bs (prF t)), .int .i64 0]) ∧ Below w.heap.size w w' := by
  have hs := sound_any t aD aS aX aH cD cS cX cH _ (hR.below (bel1 (o := .cells #[.string t.nm, .slice aD t.D.length cD, .int .i64 t.w0, .int .i64 t.w1, .int .i64 t.w2, .int .i64 t.w3, .int .i64 t.w4, .int .i64 t.w5, .int .i64 t.w6, .slice aS t.S.length cS, .slice aX t.X.length cX, .slice aH t.H.length cH] 28)))
  rw [he] at hs
  obtain ⟨e1, e2, e3, e4, e5, e6, e7, e8⟩ := err_zero he
  have hnm : t.nm.size ≤ 32 := by unfold Tt.nmsB nmB at e1; simp only [Bool.and_eq_true, decide_eq_true_eq] at e1; exact e1.1.2.1
  have hlim : t.D.length ≤ 16 ∧ t.S.length ≤ 16 ∧ t.X.length ≤ 64 ∧ t.H.length ≤ 16 ∧ ∀ x ∈ t.D, x.rows.length ≤ 48 := by
    unfold Tt.limB at e2; simp only [Bool.and_eq_true, decide_eq_true_eq, List.all_eq_true] at e2; exact ⟨e2.1.1, e2.1.2.1, e2.1.2.2.1, e2.1.2.2.2, e2.2⟩
  have hnd : ∀ x ∈ t.D, x.name.size ≤ 32 := by
    unfold Tt.nmsB nmB at e1; simp only [Bool.and_eq_true, decide_eq_true_eq, List.all_eq_true] at e1; exact fun x hx => (e1.2 x hx).2.1
  have hclk : (∀ x ∈ t.D, ∀ r ∈ x.rows, 0 ≤ r.m ∧ r.m ≤ 1439 ∧ -1 ≤ r.s ∧ r.s ≤ 7) ∧ ∀ h ∈ t.H, -720 ≤ h.plus ∧ h.plus ≤ 840 := by
    unfold Tt.clkB rwB inB at e5; simp only [Bool.and_eq_true, decide_eq_true_eq, List.all_eq_true] at e5; exact ⟨fun x hx r hr => by have := e5.1 x hx r hr; omega, e5.2⟩
  have hdat : (∀ s ∈ t.S, 0 ≤ s.fr ∧ s.fr ≤ 146096 ∧ 0 ≤ s.till ∧ s.till ≤ 146096) ∧ (∀ x ∈ t.X, 0 ≤ x.day ∧ x.day ≤ 146096) ∧ ∀ h ∈ t.H, 0 ≤ h.m ∧ h.m ≤ 210379679 := by
    unfold Tt.datB snB dayB inB at e6; simp only [Bool.and_eq_true, decide_eq_true_eq, List.all_eq_true] at e6; exact ⟨fun s hs => by have := e6.1 s hs; omega, e6.2.1, e6.2.2⟩
  have hnA : ∀ x : Int, 0 ≤ x → x < (t.D.length : Int) → (nmA t.D x).size ≤ 32 := by
    intro x h0 h1
    unfold nmA
    rw [List.getElem?_eq_getElem (show x.toNat < t.D.length by omega)]
    exact hnd _ (List.getElem_mem _)
  have hkin : (∀ x ∈ t.wk, 0 ≤ x ∧ x < (t.D.length : Int) ∧ (nmA t.D x).size ≤ 32) ∧ (∀ s ∈ t.S, ∀ x ∈ s.wk, 0 ≤ x ∧ x < (t.D.length : Int) ∧ (nmA t.D x).size ≤ 32) ∧ ∀ x ∈ t.X, 0 ≤ x.kind ∧ x.kind < (t.D.length : Int) := by
    unfold Tt.kinB kdB at e7; simp only [Bool.and_eq_true, decide_eq_true_eq, List.all_eq_true] at e7
    exact ⟨fun x hx => ⟨(e7.1 x hx).1, (e7.1 x hx).2, hnA x (e7.1 x hx).1 (e7.1 x hx).2⟩, fun s hs x hx => ⟨(e7.2.1 s hs x hx).1, (e7.2.1 s hs x hx).2, hnA x (e7.2.1 s hs x hx).1 (e7.2.1 s hs x hx).2⟩, e7.2.2⟩
  have l1 : Hid (t.D.length ≤ 16) := hlim.1
  have hq : Hid ((∀ x ∈ t.D, x.rows.length ≤ 48 ∧ x.name.size ≤ 32 ∧ ∀ r ∈ x.rows, 0 ≤ r.m ∧ r.m ≤ 1439 ∧ -1 ≤ r.s ∧ r.s ≤ 7)) := fun x hx => ⟨hlim.2.2.2.2 x hx, hnd x hx, hclk.1 x hx⟩
  have hR' : Hid (TR w t (.slice aD t.D.length cD) (.slice aS t.S.length cS) (.slice aX t.X.length cX) (.slice aH t.H.length cH)) := hR
  have hall : Hid (t.S.length ≤ 16 ∧ t.X.length ≤ 64 ∧ t.H.length ≤ 16 ∧ ((∀ x ∈ t.wk, 0 ≤ x ∧ x < (t.D.length : Int) ∧ (nmA t.D x).size ≤ 32) ∧ (∀ s ∈ t.S, ∀ x ∈ s.wk, 0 ≤ x ∧ x < (t.D.length : Int) ∧ (nmA t.D x).size ≤ 32) ∧ ∀ x ∈ t.X, 0 ≤ x.kind ∧ x.kind < (t.D.length : Int)) ∧ ((∀ s ∈ t.S, 0 ≤ s.fr ∧ s.fr ≤ 146096 ∧ 0 ≤ s.till ∧ s.till ≤ 146096) ∧ (∀ x ∈ t.X, 0 ≤ x.day ∧ x.day ≤ 146096) ∧ ∀ h ∈ t.H, 0 ≤ h.m ∧ h.m ≤ 210379679) ∧ ∀ h ∈ t.H, -720 ≤ h.plus ∧ h.plus ≤ 840) := ⟨hlim.2.1, hlim.2.2.1, hlim.2.2.2.1, hkin, hdat, hclk.2⟩
  have hnA' : Hid (∀ x : Int, 0 ≤ x → x < (t.D.length : Int) → (nmA t.D x).size ≤ 32) := hnA
  have hT' : Hid (Mt w) := hT
  have hP' : Hid (Pw w) := hP
  clear e1 e2 e3 e4 e5 e6 e7 e8 hlim hnd hclk hdat hnA hkin hR hT hP he
  go_enter Tryz.func5, Tryz.ntmps5
  go_wp2_with (first
    | (go_at_call 7; (with_reducible refine hs.mono ?_); rintro e w1 ⟨rfl, hb1⟩; have hbw : Below w.heap.size w w1 := belT bel1 hb1; have hbx : Has w1 w.heap.size #[.string t.nm, .slice aD t.D.length cD, .int .i64 t.w0, .int .i64 t.w1, .int .i64 t.w2, .int .i64 t.w3, .int .i64 t.w4, .int .i64 t.w5, .int .i64 t.w6, .slice aS t.S.length cS, .slice aX t.X.length cX, .slice aH t.H.length cH] := (Has.new w #[.string t.nm, .slice aD t.D.length cD, .int .i64 t.w0, .int .i64 t.w1, .int .i64 t.w2, .int .i64 t.w3, .int .i64 t.w4, .int .i64 t.w5, .int .i64 t.w6, .slice aS t.S.length cS, .slice aX t.X.length cX, .slice aH t.H.length cH] 28 rfl).below hb1; have hTR := hR'.out.below hbw; have hMt := hT'.out.below hbw; have hPw := hP'.out.below hbw; obtain ⟨_, x1, _⟩ := id (hbx.alloc (.cells #[.pointer none, .slice none 0 0] 55)); have hI0 : Lib.IsBuilder 55 5 w1.heap.size w1.heap.size (Lib.byteCells []) (w1.alloc (.cells #[.pointer none, .slice none 0 0] 55)) := Lib.fresh_isBuilder 55 5 w1)
    | (go_at_call 10; (with_reducible refine (line2 w1.heap.size w1.heap.size [] ⟨#[116, 105, 109, 101, 116, 97, 98, 108, 101]⟩ t.nm (w1.alloc (.cells #[.pointer none, .slice none 0 0] 55)) _ (by simp) hI0 bel1.size (by decide) ⟨by decide, by omega⟩).mono ?_); rintro e w2 ⟨rfl, hI2, hb2, _⟩; have hB2 : Below w1.heap.size w1 w2 := bel1.trans hb2; obtain ⟨_, x2, _⟩ := id (hbx.below hB2)))
  have hT2 : Hid (hdF t = [] ++ lnF [(⟨#[116, 105, 109, 101, 116, 97, 98, 108, 101]⟩ : ByteArray).data.toList, t.nm.data.toList]) := rfl
  have hz2 : (hdF t).length ≤ 7000 := by have := lnF_len [[116, 105, 109, 101, 116, 97, 98, 108, 101], t.nm.data.toList] (fun x hx => by simp only [List.mem_cons, List.not_mem_nil, or_false] at hx; rcases hx with rfl | rfl; (show 9 ≤ 1000; omega); (rw [Array.length_toList]; have : t.nm.data.size = t.nm.size := rfl; omega)) (by show 2 ≤ 4; omega); unfold hdF; omega
  rw [← hT2.out] at hI2
  clear hT2 hI0 hs hb2 x1
  obtain ⟨B, hBe⟩ : ∃ x, x = w1.heap.size := ⟨_, rfl⟩
  have hB2' : Hid (Below w1.heap.size w1 w2) := hB2
  have hI2' : Hid (Lib.IsBuilder 55 5 w1.heap.size w1.heap.size (Lib.byteCells (hdF t)) w2) := hI2
  clear hB2 hI2 hBe
  go_loopg [28] t.D.length (fun gk s28 wr => ∃ k : Nat, k + gk = t.D.length ∧ s28 = .int .i64 (k : Int) ∧ (hdF t ++ ((t.D.take k).map dayF).flatten).length ≤ 7000 + 400000 * k ∧ Hid (Lib.IsBuilder 55 5 w1.heap.size w1.heap.size (Lib.byteCells (hdF t ++ ((t.D.take k).map dayF).flatten)) wr) ∧ Hid (Below w1.heap.size w1 wr))
  case atStart => exact ⟨0, by omega, rfl, (by simpa using hz2), (by show Lib.IsBuilder _ _ _ _ _ _; simpa using hI2'.out), hB2'⟩
  case round =>
    clear hI2' hB2' x2
    obtain ⟨wro, rfl⟩ : ∃ X, X = wr := ⟨_, rfl⟩
    obtain ⟨gko, rfl⟩ : ∃ X, X = gk := ⟨_, rfl⟩
    obtain ⟨k, hk, rfl, hz, hI, hb⟩ := hrel
    obtain ⟨_, x3, _⟩ := id (hbx.below hb.out)
    have l1' := l1.out
    by_cases hlt : k < t.D.length
    · obtain ⟨g, o, rfl, hg, P⟩ := (hTR.d.ln).resolve_left (by intro e; rw [e] at hlt; simp at hlt)
      have p0 := (hb.out.cell (p := ⟨g, _, none⟩) hg).trans (P k hlt 0 _ rfl)
      have p1 := (hb.out.cell (p := ⟨g, _, none⟩) hg).trans (P k hlt 1 _ rfl)
      simp only [Nat.add_zero] at p0
      have t1 : (k : Int) < (t.D.length : Int) := by omega
      have t0 : (0 : Int) ≤ (k : Int) := by omega
      obtain ⟨lr, ln, hrr⟩ := hq.out _ (List.getElem_mem hlt)
      have hfl := hTR.r _ (List.getElem_mem hlt)
      have hstep : Hid (hdF t ++ ((t.D.take (k + 1)).map dayF).flatten = ((hdF t ++ ((t.D.take k).map dayF).flatten) ++ lnF [[100, 97, 121], t.D[k].name.data.toList]) ++ (t.D[k].rows.map rowF).flatten) := by
        show _ = _
        rw [flat_step dayF t.D k hlt]
        unfold dayF
        simp only [List.append_assoc]
      clear P
      generalize t.D[k] = x at *
      obtain ⟨xn, xv, xr⟩ := x
      dsimp only at *
      obtain ⟨ra, rc, rfl, rP⟩ := hfl.any
      obtain ⟨T, hTe⟩ : ∃ T, T = hdF t ++ ((t.D.take k).map dayF).flatten := ⟨_, rfl⟩
      rw [← hTe] at hz hI hstep
      go_wp2_with (go_at_call 10; (with_reducible refine (line2 w1.heap.size w1.heap.size T ⟨#[100, 97, 121]⟩ xn (wro.alloc (.cells #[.string xn, .slice ra xr.length rc] 41)) _ (by simp) (isB_below hI.out bel1) (Nat.le_trans hb.out.size bel1.size) (by omega) ⟨by decide, by omega⟩).mono ?_); rintro e w3 ⟨rfl, hI3, hb3, hs3⟩; have hk3 := hs3.has (heap_new wro _ 41) (by decide) (by decide); have c3 := cell_at hk3)
      have hB3 : Hid (Below w1.heap.size w1 w3) := (hb.out.trans ((Below.refl w1.heap.size wro).alloc hb.out.size _)).trans hb3
      obtain ⟨T1, hT1⟩ : ∃ T1, T1 = T ++ lnF [[100, 97, 121], xn.data.toList] := ⟨_, rfl⟩
      have hz1 : T1.length ≤ 7000 + 400000 * k + 6001 := by
        have := lnF_len [[100, 97, 121], xn.data.toList] (fun x hx => by simp only [List.mem_cons, List.not_mem_nil, or_false] at hx; rcases hx with rfl | rfl; (show 3 ≤ 1000; omega); (rw [Array.length_toList]; have : xn.data.size = xn.size := rfl; omega)) (by show 2 ≤ 4; omega)
        rw [hT1, List.length_append]; omega
      have hI3' : Hid (Lib.IsBuilder 55 5 w1.heap.size w1.heap.size (Lib.byteCells T1) w3) := by show Lib.IsBuilder _ _ _ _ _ _; rw [hT1]; exact hI3
      rw [← hT1] at hstep
      have hrr' : Hid (∀ r ∈ xr, 0 ≤ r.m ∧ r.m ≤ 1439 ∧ -1 ≤ r.s ∧ r.s ≤ 7) := hrr
      have rP' : Hid (xr = [] ∨ ∃ g o, ra = some ⟨g, o, none⟩ ∧ g < w1.heap.size ∧ ∀ (i : Nat) (h : i < xr.length) (j : Nat) (u : Value), (Rw.cs xr[i])[j]? = some u → w1.cell? ⟨g, o + i * 2 + j, none⟩ = some u) := rP
      clear hI3 hb3 hs3 hk3 c3 hI hb x3 p0 p1 hfl hrr rP hT1 hTe hz
      go_loopg [39] xr.length (fun gk s39 wr => ∃ j : Nat, j + gk = xr.length ∧ s39 = .int .i64 (j : Int) ∧ (T1 ++ ((xr.take j).map rowF).flatten).length ≤ T1.length + 6001 * j ∧ Hid (Lib.IsBuilder 55 5 w1.heap.size w1.heap.size (Lib.byteCells (T1 ++ ((xr.take j).map rowF).flatten)) wr) ∧ Hid (Below w1.heap.size w1 wr))
      case atStart => exact ⟨0, by omega, rfl, (by simp), (by show Lib.IsBuilder _ _ _ _ _ _; simpa using hI3'.out), hB3⟩
      case round =>
        clear hI3' hB3
        obtain ⟨j, hj, rfl, hzj, hI, hb⟩ := hrel
        by_cases hltj : j < xr.length
        · have s1 : (j : Int) < (xr.length : Int) := by omega
          have s0 : (0 : Int) ≤ (j : Int) := by omega
          obtain ⟨gr, or', hra, hgr, P⟩ := rP'.out.resolve_left (by intro e; rw [e] at hltj; simp at hltj)
          subst hra
          have r0 := (hb.out.cell (p := ⟨gr, _, none⟩) hgr).trans (P j hltj 0 _ rfl)
          have r1 := (hb.out.cell (p := ⟨gr, _, none⟩) hgr).trans (P j hltj 1 _ rfl)
          simp only [Nat.add_zero] at r0
          have hrj := hrr'.out _ (List.getElem_mem hltj)
          have hstj : Hid (T1 ++ ((xr.take (j + 1)).map rowF).flatten = (T1 ++ ((xr.take j).map rowF).flatten) ++ rowF xr[j]) := by show _ = _; rw [flat_step rowF xr j hltj, List.append_assoc]
          clear P
          generalize xr[j] = y at *
          obtain ⟨ym, ys⟩ := y
          dsimp only at r0 r1 hrj
          obtain ⟨M, rfl⟩ : ∃ M : Nat, ym = (M : Int) := ⟨ym.toNat, by omega⟩
          obtain ⟨T2, hT2⟩ : ∃ T2, T2 = T1 ++ ((xr.take j).map rowF).flatten := ⟨_, rfl⟩
          rw [← hT2] at hzj hI hstj
          go_wp2_with fail
          have hkY := heap_new wr #[.int .i64 (M : Int), .int .i64 ys] 43
          have hbY : Below wr.heap.size wr (wr.alloc (.cells #[.int .i64 (M : Int), .int .i64 ys] 43)) := bel1
          have hIY := isB_below hI.out hbY
          have hBY : Below w1.heap.size w1 (wr.alloc (.cells #[.int .i64 (M : Int), .int .i64 ys] 43)) := hb.out.trans (hbY.mono hb.out.size)
          clear hI hb r0 r1
          generalize (wr.alloc (.cells #[.int .i64 (M : Int), .int .i64 ys] 43)) = Y at *
          have hpl : wr.heap.size < Y.heap.size := (Array.getElem?_eq_some_iff.1 hkY).1
          generalize wr.heap.size = p9 at *
          have hPY := hPw.below hBY
          have hPYd : Pw Y.drew := hPY.below ((Below.refl Y.heap.size Y).drew)
          have hkk := cell_at hkY
          have hckl : (bs (ckF M)).size ≤ 1000 := by rw [bs_size, ck_len]; omega
          have hsll : (bs (slF ys)).size ≤ 1000 := by rw [bs_size]; have := sl_len ys (by omega) (by omega); omega
          refine wp_region_noPanic ?_
          refine wp_region_held_drew (S := fun w' => w'.cell? ⟨p9, 0, none⟩ = some (.int .i64 (M : Int)) ∧ w'.cell? ⟨p9, 1, none⟩ = some (.int .i64 ys) ∧ Hid (w'.heap[p9]? = some (.cells #[.int .i64 (M : Int), .int .i64 ys] 43 (0, 0)))) (by kernel_rfl) ?_ (fun hHeld => ?_)
          · (try dsimp only)
            exact ⟨hkk 0, hkk 1, hkY⟩
          refine wpAnyH_take (i := 0) (oi := { dst := some 43, op := Op.fieldAddr 43 (Operand.tmp 9) 0, type := 0, pos := "print.go:20", after := #[], guard := none }) (v := ?_) rfl (by kernel_rfl) (by kernel_rfl) (by kernel_rfl) (fun _ _ _ h => h) (Or.inl ⟨by rfl, ?_⟩) (by assumption) ?_
          rotate_left
          · intro wz hSz; (try dsimp only at hSz); go_simp; all_goals (with_reducible rfl)
          (try simp only [Act.put, List.setIfInBounds_toArray, List.set_cons_zero, List.set_cons_succ])
          refine wpAnyH_take (i := 1) (oi := { dst := some 44, op := Op.load 3 (Operand.tmp 43), type := 3, pos := "print.go:20", after := #[{ on := 0, ground := Ground.data }], guard := none }) (v := ?_) rfl (by kernel_rfl) (by kernel_rfl) (by kernel_rfl) (fun _ _ _ h => h) (Or.inl ⟨by rfl, ?_⟩) (by assumption) ?_
          rotate_left
          · intro wz hSz; (try dsimp only at hSz); go_simp; all_goals (with_reducible rfl)
          (try simp only [Act.put, List.setIfInBounds_toArray, List.set_cons_zero, List.set_cons_succ])
          refine wpAnyH_take (i := 3) (oi := { dst := some 46, op := Op.fieldAddr 43 (Operand.tmp 9) 1, type := 0, pos := "print.go:20", after := #[], guard := none }) (v := ?_) rfl (by kernel_rfl) (by kernel_rfl) (by kernel_rfl) (fun _ _ _ h => h) (Or.inl ⟨by rfl, ?_⟩) (by assumption) ?_
          rotate_left
          · intro wz hSz; (try dsimp only at hSz); go_simp; all_goals (with_reducible rfl)
          (try simp only [Act.put, List.setIfInBounds_toArray, List.set_cons_zero, List.set_cons_succ])
          refine wpAnyH_take (i := 4) (oi := { dst := some 47, op := Op.load 3 (Operand.tmp 46), type := 3, pos := "print.go:20", after := #[{ on := 3, ground := Ground.data }], guard := none }) (v := ?_) rfl (by kernel_rfl) (by kernel_rfl) (by kernel_rfl) (fun _ _ _ h => h) (Or.inl ⟨by rfl, ?_⟩) (by assumption) ?_
          rotate_left
          · intro wz hSz; (try dsimp only at hSz); go_simp; all_goals (with_reducible rfl)
          (try simp only [Act.put, List.setIfInBounds_toArray, List.set_cons_zero, List.set_cons_succ])
          refine wpAnyH_ready (rs := [2]) (by kernel_rfl) (by simp) ?_
          refine AllReadyH.cons (o := { dst := some 45, op := Op.call { callee := Callee.value (Operand.func 11), args := #[Operand.tmp 44], argTypes := #[3] }, type := 9, pos := "print.go:20", after := #[{ on := 1, ground := Ground.data }], guard := none }) rfl (fun K hK => ?_) AllReadyH.nil
          go_simp
          go_at_call 11
          (with_reducible refine (clockText_any M Y.drew (by omega) hPYd).mono ?_)
          rintro e w5 ⟨rfl, hb5⟩
          have hbY5 : Below Y.heap.size Y w5 := bel_after ((Below.refl Y.heap.size Y).drew) (Nat.le_refl _) hb5
          go_wp2_with fail
          refine hK.out _ _ ?_ (fun hHeld => ?_)
          · (try dsimp only)
            exact ⟨(hbY5.cell (p := ⟨p9, 0, none⟩) hpl).trans (hkk 0), (hbY5.cell (p := ⟨p9, 1, none⟩) hpl).trans (hkk 1), (hbY5.block p9 hpl).trans hkY⟩
          clear hK K
          (try simp only [Act.put, List.setIfInBounds_toArray, List.set_cons_zero, List.set_cons_succ])
          refine wpAnyH_ready (rs := [5]) (by kernel_rfl) (by simp) ?_
          refine AllReadyH.cons (o := { dst := some 48, op := Op.call { callee := Callee.value (Operand.func 12), args := #[Operand.tmp 47], argTypes := #[3] }, type := 9, pos := "print.go:20", after := #[{ on := 4, ground := Ground.data }, { on := 2, ground := Ground.chain }], guard := none }) rfl (fun K hK => ?_) AllReadyH.nil
          go_simp
          go_at_call 12
          (with_reducible refine (slotText_any ys w5 (by omega) (by omega) (hPY.below hbY5)).mono ?_)
          rintro e w6 ⟨rfl, hb6⟩
          have hbY6 := belT hbY5 hb6
          go_wp2_with fail
          refine hK.out _ _ ?_ (fun hHeld => ?_)
          · (try dsimp only)
            exact ⟨(hbY6.cell (p := ⟨p9, 0, none⟩) hpl).trans (hkk 0), (hbY6.cell (p := ⟨p9, 1, none⟩) hpl).trans (hkk 1), (hbY6.block p9 hpl).trans hkY⟩
          clear hK K
          (try simp only [Act.put, List.setIfInBounds_toArray, List.set_cons_zero, List.set_cons_succ])
          refine wpAnyH_ready (rs := [6]) (by kernel_rfl) (by simp) ?_
          refine AllReadyH.cons (o := { dst := some 49, op := Op.buildSlice 64 3 #[(0, Operand.const (Value.string { data := #[32, 32, 97, 116] })), (1, Operand.tmp 45), (2, Operand.tmp 48)], type := 64, pos := "print.go:20", after := #[{ on := 2, ground := Ground.data }, { on := 5, ground := Ground.data }], guard := none }) rfl (fun K hK => ?_) AllReadyH.nil
          go_simp
          refine hK.out _ _ ?_ (fun hHeld => ?_)
          · (try dsimp only)
            have hp6 : p9 < w6.heap.size := Nat.lt_of_lt_of_le hpl hbY6.size
            exact ⟨(bel1.cell (p := ⟨p9, 0, none⟩) hp6).trans hHeld.1, (bel1.cell (p := ⟨p9, 1, none⟩) hp6).trans hHeld.2.1, (bel1.block p9 hp6).trans hHeld.2.2.out⟩
          clear hK K
          (try simp only [Act.put, List.setIfInBounds_toArray, List.set_cons_zero, List.set_cons_succ])
          refine wpAnyH_ready (rs := [7]) (by kernel_rfl) (by simp) ?_
          refine AllReadyH.cons (o := { dst := some 50, op := Op.call { callee := Callee.value (Operand.func 10), args := #[Operand.tmp 5, Operand.tmp 49], argTypes := #[55, 64] }, type := 0, pos := "print.go:20", after := #[{ on := 6, ground := Ground.data }, { on := 5, ground := Ground.chain }], guard := none }) rfl (fun K hK => ?_) AllReadyH.nil
          go_simp
          go_at_call 10
          (with_reducible refine (line3 w1.heap.size w1.heap.size T2 ⟨#[32, 32, 97, 116]⟩ (bs (ckF M)) (bs (slF ys)) w6 _ rfl (isB_below hIY hbY6) (Nat.le_trans hBY.size hbY6.size) (by omega) ⟨by decide, hckl, hsll⟩).mono ?_)
          rintro e w8 ⟨rfl, hI8, hb8, hs8⟩
          have hk8 := hs8.has ((hbY6.block p9 hpl).trans hkY) (by decide) (by decide)
          go_wp2_with fail
          refine hK.out _ _ ?_ (fun hHeld => ?_)
          · (try dsimp only)
            exact ⟨cell_at hk8 0, cell_at hk8 1, hk8⟩
          clear hK K
          (try simp only [Act.put, List.setIfInBounds_toArray, List.set_cons_zero, List.set_cons_succ])
          refine wpAnyH_done (by kernel_rfl) ?_ _
          refine NoPanic.normal ?_
          have hrow : Hid (T2 ++ lnF [[32, 32, 97, 116], (bs (ckF M)).data.toList, (bs (slF ys)).data.toList] = T1 ++ ((xr.take (j + 1)).map rowF).flatten) := by
            show _ = _
            rw [hstj.out, bs_back, bs_back]; rfl
          have hI8' : Lib.IsBuilder 55 5 w1.heap.size w1.heap.size (Lib.byteCells (T1 ++ ((xr.take (j + 1)).map rowF).flatten)) w8 := by rw [← hrow.out]; exact hI8
          have hz8 : (T1 ++ ((xr.take (j + 1)).map rowF).flatten).length ≤ T1.length + 6001 * (j + 1) := by
            have := lnF_len [[32, 32, 97, 116], (bs (ckF M)).data.toList, (bs (slF ys)).data.toList] (fun x hx => by simp only [List.mem_cons, List.not_mem_nil, or_false] at hx; rcases hx with rfl | rfl | rfl; (show 4 ≤ 1000; omega); (rw [Array.length_toList]; exact hckl); (rw [Array.length_toList]; exact hsll)) (by show 3 ≤ 4; omega)
            rw [← hrow.out, List.length_append]; omega
          have hB8 : Below w1.heap.size w1 w8 := (hBY.trans (hbY6.mono hBY.size)).trans hb8
          clear hHeld hstj hrow hI8
          go_wp2_with fail
          go_roundg (gk - 1)
          case measure => go_light; omega
          case rel => exact ⟨j + 1, by omega, by go_num, hz8, hI8', hB8⟩
        · obtain rfl : j = xr.length := by omega
          have s1 : ¬ (xr.length : Int) < (xr.length : Int) := by omega
          have eT : xr.take xr.length = xr := List.take_length
          rw [eT] at hzj hI
          have hI9 : Lib.IsBuilder 55 5 w1.heap.size w1.heap.size (Lib.byteCells (hdF t ++ ((t.D.take (k + 1)).map dayF).flatten)) wr := by rw [hstep.out]; exact hI.out
          have hz9 : (hdF t ++ ((t.D.take (k + 1)).map dayF).flatten).length ≤ 7000 + 400000 * (k + 1) := by rw [hstep.out]; omega
          go_wp2_with fail
          go_roundg (gko - 1)
          case measure => go_light; omega
          case rel => exact ⟨k + 1, by omega, by go_num, hz9, hI9, hb.out⟩
    · obtain rfl : k = t.D.length := by omega
      have t1 : ¬ (t.D.length : Int) < (t.D.length : Int) := by omega
      have eT : t.D.take t.D.length = t.D := List.take_length
      rw [eT] at hz hI
      have hTRr := hTR.below hb.out
      have hwt := weekText_any t aD aS aX aH cD cS cX cH wro hTRr t.w0 t.w1 t.w2 t.w3 t.w4 t.w5 t.w6 hall.out.2.2.2.1.1
      have hwl : (bs (Lib.join ([t.w0, t.w1, t.w2, t.w3, t.w4, t.w5, t.w6].map (nmL t.D)) [32])).size ≤ 1000 := by rw [bs_size]; exact join_len t.D _ (by show 7 ≤ 7; omega) (fun x hx => (hall.out.2.2.2.1.1 x hx).2.2)
      obtain ⟨sw, hsw⟩ : ∃ s, s = (bs (Lib.join ([t.w0, t.w1, t.w2, t.w3, t.w4, t.w5, t.w6].map (nmL t.D)) [32])) := ⟨_, rfl⟩
      rw [← hsw] at hwt hwl
      have hsw' : Hid (sw = (bs (Lib.join ([t.w0, t.w1, t.w2, t.w3, t.w4, t.w5, t.w6].map (nmL t.D)) [32]))) := hsw
      clear hsw
      obtain ⟨T, hTe⟩ : ∃ T, T = hdF t ++ (t.D.map dayF).flatten := ⟨_, rfl⟩
      rw [← hTe] at hz hI
      go_wp2_with (first
        | (go_at_call 13; (with_reducible refine hwt.mono ?_); rintro e w4 ⟨rfl, hb4⟩)
        | (go_at_call 10; (with_reducible refine (line2 w1.heap.size w1.heap.size T ⟨#[119, 101, 101, 107]⟩ sw w4 _ rfl (isB_below hI.out hb4) (Nat.le_trans hb.out.size hb4.size) (by omega) ⟨by decide, hwl⟩).mono ?_); rintro e w5 ⟨rfl, hI5, hb5, _⟩; have hB5 : Below w1.heap.size w1 w5 := (hb.out.trans (hb4.mono hb.out.size)).trans hb5; obtain ⟨_, x5, _⟩ := id (hbx.below hB5)))
      obtain ⟨TA, hTA⟩ : ∃ TA, TA = T ++ weF t := ⟨_, rfl⟩
      have hI5' : Hid (Lib.IsBuilder 55 5 w1.heap.size w1.heap.size (Lib.byteCells TA) w5) := by
        show Lib.IsBuilder _ _ _ _ _ _
        rw [hTA]
        rw [hsw'.out, bs_back] at hI5
        exact hI5
      have hzA : TA.length ≤ 7000000 := by
        have := lnF_len [[119, 101, 101, 107], sw.data.toList] (fun x hx => by simp only [List.mem_cons, List.not_mem_nil, or_false] at hx; rcases hx with rfl | rfl; (show 4 ≤ 1000; omega); (rw [Array.length_toList]; exact hwl)) (by show 2 ≤ 4; omega)
        rw [hsw'.out, bs_back] at this
        rw [hTA, List.length_append]
        have e : (weF t).length ≤ 6001 := this
        omega
      have hTA' : Hid (TA = (hdF t ++ (t.D.map dayF).flatten) ++ weF t) := by show _ = _; rw [hTA, hTe]
      have hB5' : Hid (Below w1.heap.size w1 w5) := hB5
      clear hI5 hb5 hB5 hb4 hwt hTRr hI hb hz hTA hTe x3 t1 eT
      go_loopg [62] t.S.length (fun gk s62 wr => ∃ k : Nat, k + gk = t.S.length ∧ s62 = .int .i64 (k : Int) ∧ (TA ++ ((t.S.take k).map (snF t.D)).flatten).length ≤ 7000000 + 6001 * k ∧ Hid (Lib.IsBuilder 55 5 w1.heap.size w1.heap.size (Lib.byteCells (TA ++ ((t.S.take k).map (snF t.D)).flatten)) wr) ∧ Hid (Below w1.heap.size w1 wr))
      case atStart => exact ⟨0, by omega, rfl, (by simpa using hzA), (by show Lib.IsBuilder _ _ _ _ _ _; simpa using hI5'.out), hB5'⟩
      case round =>
        clear hI5' hB5' x5
        obtain ⟨k, hk, rfl, hz, hI, hb⟩ := hrel
        have hS16 := hall.out.1
        by_cases hlt : k < t.S.length
        · obtain ⟨g, o, hae, hg, P⟩ := (hTR.s.ln).resolve_left (by intro e; rw [e] at hlt; simp at hlt)
          subst hae
          have hTd := hall.out.2.2.2.2.1.1 _ (List.getElem_mem hlt)
          have hwk := hall.out.2.2.2.1.2.1 _ (List.getElem_mem hlt)
          have hst : Hid (TA ++ ((t.S.take (k + 1)).map (snF t.D)).flatten = (TA ++ ((t.S.take k).map (snF t.D)).flatten) ++ snF t.D t.S[k]) := by show _ = _; rw [flat_step (snF t.D) t.S k hlt, List.append_assoc]
          have t1 : (k : Int) < (t.S.length : Int) := by omega
          have t0 : (0 : Int) ≤ (k : Int) := by omega
          have c0 := (hb.out.cell (p := ⟨g, _, none⟩) hg).trans (P k hlt 0 _ rfl)
          have c1 := (hb.out.cell (p := ⟨g, _, none⟩) hg).trans (P k hlt 1 _ rfl)
          have c2 := (hb.out.cell (p := ⟨g, _, none⟩) hg).trans (P k hlt 2 _ rfl)
          have c3 := (hb.out.cell (p := ⟨g, _, none⟩) hg).trans (P k hlt 3 _ rfl)
          have c4 := (hb.out.cell (p := ⟨g, _, none⟩) hg).trans (P k hlt 4 _ rfl)
          have c5 := (hb.out.cell (p := ⟨g, _, none⟩) hg).trans (P k hlt 5 _ rfl)
          have c6 := (hb.out.cell (p := ⟨g, _, none⟩) hg).trans (P k hlt 6 _ rfl)
          have c7 := (hb.out.cell (p := ⟨g, _, none⟩) hg).trans (P k hlt 7 _ rfl)
          have c8 := (hb.out.cell (p := ⟨g, _, none⟩) hg).trans (P k hlt 8 _ rfl)
          simp only [Nat.add_zero] at c0
          clear P
          generalize t.S[k] = y at *
          obtain ⟨yf, yt, y0, y1, y2, y3, y4, y5, y6⟩ := y
          dsimp only at *
          obtain ⟨T2, hT2⟩ : ∃ T2, T2 = TA ++ ((t.S.take k).map (snF t.D)).flatten := ⟨_, rfl⟩
          rw [← hT2] at hz hI hst
          go_wp2_with fail
          have hkY := heap_new wr #[.int .i64 yf, .int .i64 yt, .int .i64 y0, .int .i64 y1, .int .i64 y2, .int .i64 y3, .int .i64 y4, .int .i64 y5, .int .i64 y6] 45
          have hbY : Below wr.heap.size wr (wr.alloc (.cells #[.int .i64 yf, .int .i64 yt, .int .i64 y0, .int .i64 y1, .int .i64 y2, .int .i64 y3, .int .i64 y4, .int .i64 y5, .int .i64 y6] 45)) := bel1
          have hIY := isB_below hI.out hbY
          have hBY : Below w1.heap.size w1 (wr.alloc (.cells #[.int .i64 yf, .int .i64 yt, .int .i64 y0, .int .i64 y1, .int .i64 y2, .int .i64 y3, .int .i64 y4, .int .i64 y5, .int .i64 y6] 45)) := hb.out.trans (hbY.mono hb.out.size)
          clear hI hb c0 c1 c2 c3 c4 c5 c6 c7 c8
          generalize (wr.alloc (.cells #[.int .i64 yf, .int .i64 yt, .int .i64 y0, .int .i64 y1, .int .i64 y2, .int .i64 y3, .int .i64 y4, .int .i64 y5, .int .i64 y6] 45)) = Y at *
          have hpl : wr.heap.size < Y.heap.size := (Array.getElem?_eq_some_iff.1 hkY).1
          generalize wr.heap.size = p9 at *
          have hPY := hPw.below hBY
          have hPYd : Pw Y.drew := hPY.below ((Below.refl Y.heap.size Y).drew)
          have hMY := hMt.below hBY
          have hMYd : Mt Y.drew := hMY.below ((Below.refl Y.heap.size Y).drew)
          have hTY := hTR.below hBY
          have hkk := cell_at hkY
          have hxY := (hbx.below hBY).2.1
          have hbxl : w.heap.size < Y.heap.size := Nat.lt_of_lt_of_le hbx.1 hBY.size
          have hq1 : (bs (dtF yf)).size ≤ 1000 := by rw [bs_size]; have := dt_len yf; omega
          have hq2 : (bs (dtF yt)).size ≤ 1000 := by rw [bs_size]; have := dt_len yt; omega
          obtain ⟨sv, hsv0⟩ : ∃ s, s = (bs (Lib.join ([y0, y1, y2, y3, y4, y5, y6].map (nmL t.D)) [32])) := ⟨_, rfl⟩
          have hwc : ∀ W, TR W t (.slice aD t.D.length cD) (.slice (some ⟨g, o, none⟩) t.S.length cS) (.slice aX t.X.length cX) (.slice aH t.H.length cH) → Calls Tryz.prog 13 #[.agg #[.string t.nm, .slice aD t.D.length cD, .int .i64 t.w0, .int .i64 t.w1, .int .i64 t.w2, .int .i64 t.w3, .int .i64 t.w4, .int .i64 t.w5, .int .i64 t.w6, .slice (some ⟨g, o, none⟩) t.S.length cS, .slice aX t.X.length cX, .slice aH t.H.length cH], .agg #[.int .i64 y0, .int .i64 y1, .int .i64 y2, .int .i64 y3, .int .i64 y4, .int .i64 y5, .int .i64 y6]] W fun e w' => e = .returned (.string sv) ∧ Below W.heap.size W w' := fun W hW => (by rw [hsv0]; exact weekText_any t aD _ aX aH cD cS cX cH W hW y0 y1 y2 y3 y4 y5 y6 hwk)
          have hsv : Hid (sv = (bs (Lib.join ([y0, y1, y2, y3, y4, y5, y6].map (nmL t.D)) [32]))) := hsv0
          have hq3 : sv.size ≤ 1000 := by rw [hsv0, bs_size]; exact join_len t.D _ (by show 7 ≤ 7; omega) (fun x hx => (hwk x hx).2.2)
          clear hsv0
          refine wp_region_noPanic ?_
          refine wp_region_held_drew (S := fun w' => (∀ ii, w'.cell? ⟨p9, ii, none⟩ = (#[.int .i64 yf, .int .i64 yt, .int .i64 y0, .int .i64 y1, .int .i64 y2, .int .i64 y3, .int .i64 y4, .int .i64 y5, .int .i64 y6] : Array Value)[ii]?) ∧ (∀ ii, w'.cell? ⟨w.heap.size, ii, none⟩ = (#[.string t.nm, .slice aD t.D.length cD, .int .i64 t.w0, .int .i64 t.w1, .int .i64 t.w2, .int .i64 t.w3, .int .i64 t.w4, .int .i64 t.w5, .int .i64 t.w6, .slice (some ⟨g, o, none⟩) t.S.length cS, .slice aX t.X.length cX, .slice aH t.H.length cH] : Array Value)[ii]?) ∧ Hid (w'.heap[p9]? = some (.cells #[.int .i64 yf, .int .i64 yt, .int .i64 y0, .int .i64 y1, .int .i64 y2, .int .i64 y3, .int .i64 y4, .int .i64 y5, .int .i64 y6] 45 (0, 0)))) (by kernel_rfl) ?_ (fun hHeld => ?_)
          · (try dsimp only)
            exact ⟨hkk, hxY, hkY⟩
          refine wpAnyH_take (i := 0) (oi := { dst := some 66, op := Op.fieldAddr 45 (Operand.tmp 11) 0, type := 0, pos := "print.go:25", after := #[], guard := none }) (v := ?_) rfl (by kernel_rfl) (by kernel_rfl) (by kernel_rfl) (fun _ _ _ h => h) (Or.inl ⟨by rfl, ?_⟩) (by assumption) ?_
          rotate_left
          · intro wz hSz; (try dsimp only at hSz); go_simp; all_goals (with_reducible rfl)
          (try simp only [Act.put, List.setIfInBounds_toArray, List.set_cons_zero, List.set_cons_succ])
          refine wpAnyH_take (i := 1) (oi := { dst := some 67, op := Op.load 3 (Operand.tmp 66), type := 3, pos := "print.go:25", after := #[{ on := 0, ground := Ground.data }], guard := none }) (v := ?_) rfl (by kernel_rfl) (by kernel_rfl) (by kernel_rfl) (fun _ _ _ h => h) (Or.inl ⟨by rfl, ?_⟩) (by assumption) ?_
          rotate_left
          · intro wz hSz; (try dsimp only at hSz); go_simp; all_goals (with_reducible rfl)
          (try simp only [Act.put, List.setIfInBounds_toArray, List.set_cons_zero, List.set_cons_succ])
          refine wpAnyH_take (i := 3) (oi := { dst := some 69, op := Op.fieldAddr 45 (Operand.tmp 11) 1, type := 0, pos := "print.go:25", after := #[], guard := none }) (v := ?_) rfl (by kernel_rfl) (by kernel_rfl) (by kernel_rfl) (fun _ _ _ h => h) (Or.inl ⟨by rfl, ?_⟩) (by assumption) ?_
          rotate_left
          · intro wz hSz; (try dsimp only at hSz); go_simp; all_goals (with_reducible rfl)
          (try simp only [Act.put, List.setIfInBounds_toArray, List.set_cons_zero, List.set_cons_succ])
          refine wpAnyH_take (i := 4) (oi := { dst := some 70, op := Op.load 3 (Operand.tmp 69), type := 3, pos := "print.go:25", after := #[{ on := 3, ground := Ground.data }], guard := none }) (v := ?_) rfl (by kernel_rfl) (by kernel_rfl) (by kernel_rfl) (fun _ _ _ h => h) (Or.inl ⟨by rfl, ?_⟩) (by assumption) ?_
          rotate_left
          · intro wz hSz; (try dsimp only at hSz); go_simp; all_goals (with_reducible rfl)
          (try simp only [Act.put, List.setIfInBounds_toArray, List.set_cons_zero, List.set_cons_succ])
          refine wpAnyH_take (i := 6) (oi := { dst := some 72, op := Op.load 28 (Operand.tmp 1), type := 28, pos := "print.go:25", after := #[], guard := none }) (v := ?_) rfl (by kernel_rfl) (by kernel_rfl) (by kernel_rfl) (fun _ _ _ h => h) (Or.inl ⟨by rfl, ?_⟩) (by assumption) ?_
          rotate_left
          · intro wz hSz; (try dsimp only at hSz); go_simp; all_goals (with_reducible rfl)
          (try simp only [Act.put, List.setIfInBounds_toArray, List.set_cons_zero, List.set_cons_succ])
          refine wpAnyH_take (i := 7) (oi := { dst := some 73, op := Op.fieldAddr 45 (Operand.tmp 11) 2, type := 0, pos := "print.go:25", after := #[], guard := none }) (v := ?_) rfl (by kernel_rfl) (by kernel_rfl) (by kernel_rfl) (fun _ _ _ h => h) (Or.inl ⟨by rfl, ?_⟩) (by assumption) ?_
          rotate_left
          · intro wz hSz; (try dsimp only at hSz); go_simp; all_goals (with_reducible rfl)
          (try simp only [Act.put, List.setIfInBounds_toArray, List.set_cons_zero, List.set_cons_succ])
          refine wpAnyH_take (i := 8) (oi := { dst := some 74, op := Op.load 23 (Operand.tmp 73), type := 23, pos := "print.go:25", after := #[{ on := 7, ground := Ground.data }], guard := none }) (v := ?_) rfl (by kernel_rfl) (by kernel_rfl) (by kernel_rfl) (fun _ _ _ h => h) (Or.inl ⟨by rfl, ?_⟩) (by assumption) ?_
          rotate_left
          · intro wz hSz; (try dsimp only at hSz); go_simp; all_goals (with_reducible rfl)
          (try simp only [Act.put, List.setIfInBounds_toArray, List.set_cons_zero, List.set_cons_succ])
          refine wpAnyH_ready (rs := [2]) (by kernel_rfl) (by simp) ?_
          refine AllReadyH.cons (o := { dst := some 68, op := Op.call { callee := Callee.value (Operand.func 14), args := #[Operand.tmp 67], argTypes := #[3] }, type := 9, pos := "print.go:25", after := #[{ on := 1, ground := Ground.data }], guard := none }) rfl (fun K hK => ?_) AllReadyH.nil
          go_simp
          go_at_call 14
          (with_reducible refine (dateText_any yf Y.drew (by omega) (by omega) hMYd hPYd).mono ?_)
          rintro e v1 ⟨rfl, hc1⟩
          have hd1 : Below Y.heap.size Y v1 := bel_after ((Below.refl Y.heap.size Y).drew) (Nat.le_refl _) hc1
          go_wp2_with fail
          refine hK.out _ _ ?_ (fun hHeld => ?_)
          · (try dsimp only)
            exact ⟨fun ii => (hd1.cell (p := ⟨p9, ii, none⟩) hpl).trans (hkk ii), fun ii => (hd1.cell (p := ⟨w.heap.size, ii, none⟩) hbxl).trans (hxY ii), (hd1.block p9 hpl).trans hkY⟩
          clear hK K
          (try simp only [Act.put, List.setIfInBounds_toArray, List.set_cons_zero, List.set_cons_succ])
          refine wpAnyH_ready (rs := [5]) (by kernel_rfl) (by simp) ?_
          refine AllReadyH.cons (o := { dst := some 71, op := Op.call { callee := Callee.value (Operand.func 14), args := #[Operand.tmp 70], argTypes := #[3] }, type := 9, pos := "print.go:25", after := #[{ on := 4, ground := Ground.data }, { on := 2, ground := Ground.chain }], guard := none }) rfl (fun K hK => ?_) AllReadyH.nil
          go_simp
          go_at_call 14
          (with_reducible refine (dateText_any yt v1 (by omega) (by omega) (hMY.below hd1) (hPY.below hd1)).mono ?_)
          rintro e v2 ⟨rfl, hc2⟩
          have hd2 := belT hd1 hc2
          go_wp2_with fail
          refine hK.out _ _ ?_ (fun hHeld => ?_)
          · (try dsimp only)
            exact ⟨fun ii => (hd2.cell (p := ⟨p9, ii, none⟩) hpl).trans (hkk ii), fun ii => (hd2.cell (p := ⟨w.heap.size, ii, none⟩) hbxl).trans (hxY ii), (hd2.block p9 hpl).trans hkY⟩
          clear hK K
          (try simp only [Act.put, List.setIfInBounds_toArray, List.set_cons_zero, List.set_cons_succ])
          refine wpAnyH_ready (rs := [9]) (by kernel_rfl) (by simp) ?_
          refine AllReadyH.cons (o := { dst := some 75, op := Op.call { callee := Callee.value (Operand.func 13), args := #[Operand.tmp 72, Operand.tmp 74], argTypes := #[28, 23] }, type := 9, pos := "print.go:25", after := #[{ on := 6, ground := Ground.data }, { on := 8, ground := Ground.data }, { on := 5, ground := Ground.chain }], guard := none }) rfl (fun K hK => ?_) AllReadyH.nil
          go_simp
          go_at_call 13
          (with_reducible refine (hwc v2 (hTY.below hd2)).mono ?_)
          rintro e v3 ⟨rfl, hc3⟩
          have hd3 := belT hd2 hc3
          go_wp2_with fail
          refine hK.out _ _ ?_ (fun hHeld => ?_)
          · (try dsimp only)
            exact ⟨fun ii => (hd3.cell (p := ⟨p9, ii, none⟩) hpl).trans (hkk ii), fun ii => (hd3.cell (p := ⟨w.heap.size, ii, none⟩) hbxl).trans (hxY ii), (hd3.block p9 hpl).trans hkY⟩
          clear hK K
          (try simp only [Act.put, List.setIfInBounds_toArray, List.set_cons_zero, List.set_cons_succ])
          refine wpAnyH_ready (rs := [10]) (by kernel_rfl) (by simp) ?_
          refine AllReadyH.cons (o := { dst := some 76, op := Op.buildSlice 64 4 #[(0, Operand.const (Value.string { data := #[115, 101, 97, 115, 111, 110] })), (1, Operand.tmp 68), (2, Operand.tmp 71), (3, Operand.tmp 75)], type := 64, pos := "print.go:25", after := #[{ on := 2, ground := Ground.data }, { on := 5, ground := Ground.data }, { on := 9, ground := Ground.data }], guard := none }) rfl (fun K hK => ?_) AllReadyH.nil
          go_simp
          refine hK.out _ _ ?_ (fun hHeld => ?_)
          · (try dsimp only)
            have hp6 : p9 < v3.heap.size := Nat.lt_of_lt_of_le hpl hd3.size
            have hx6 : w.heap.size < v3.heap.size := Nat.lt_of_lt_of_le hbxl hd3.size
            exact ⟨fun ii => (bel1.cell (p := ⟨p9, ii, none⟩) hp6).trans (hHeld.1 ii), fun ii => (bel1.cell (p := ⟨w.heap.size, ii, none⟩) hx6).trans (hHeld.2.1 ii), (bel1.block p9 hp6).trans hHeld.2.2.out⟩
          clear hK K
          (try simp only [Act.put, List.setIfInBounds_toArray, List.set_cons_zero, List.set_cons_succ])
          refine wpAnyH_ready (rs := [11]) (by kernel_rfl) (by simp) ?_
          refine AllReadyH.cons (o := { dst := some 77, op := Op.call { callee := Callee.value (Operand.func 10), args := #[Operand.tmp 5, Operand.tmp 76], argTypes := #[55, 64] }, type := 0, pos := "print.go:25", after := #[{ on := 10, ground := Ground.data }, { on := 9, ground := Ground.chain }], guard := none }) rfl (fun K hK => ?_) AllReadyH.nil
          go_simp
          go_at_call 10
          (with_reducible refine (line4 w1.heap.size w1.heap.size T2 ⟨#[115, 101, 97, 115, 111, 110]⟩ (bs (dtF yf)) (bs (dtF yt)) sv v3 _ rfl (isB_below hIY hd3) (Nat.le_trans hBY.size hd3.size) (by omega) ⟨by decide, hq1, hq2, hq3⟩).mono ?_)
          rintro e v8 ⟨rfl, hI8, hb8, hs8⟩
          have hk8 := hs8.has ((hd3.block p9 hpl).trans hkY) (by decide) (by decide)
          have hB8 : Below w1.heap.size w1 v8 := (hBY.trans (hd3.mono hBY.size)).trans hb8
          go_wp2_with fail
          refine hK.out _ _ ?_ (fun hHeld => ?_)
          · (try dsimp only)
            exact ⟨fun ii => cell_at hk8 ii, (hbx.below hB8).2.1, hk8⟩
          clear hK K
          (try simp only [Act.put, List.setIfInBounds_toArray, List.set_cons_zero, List.set_cons_succ])
          refine wpAnyH_done (by kernel_rfl) ?_ _
          refine NoPanic.normal ?_
          have hrow : Hid (T2 ++ lnF [[115, 101, 97, 115, 111, 110], (bs (dtF yf)).data.toList, (bs (dtF yt)).data.toList, sv.data.toList] = TA ++ ((t.S.take (k + 1)).map (snF t.D)).flatten) := by
            show _ = _
            rw [hst.out, bs_back, bs_back, hsv.out, bs_back]; rfl
          have hI8' : Lib.IsBuilder 55 5 w1.heap.size w1.heap.size (Lib.byteCells (TA ++ ((t.S.take (k + 1)).map (snF t.D)).flatten)) v8 := by rw [← hrow.out]; exact hI8
          have hz8 : (TA ++ ((t.S.take (k + 1)).map (snF t.D)).flatten).length ≤ 7000000 + 6001 * (k + 1) := by
            have := lnF_len [[115, 101, 97, 115, 111, 110], (bs (dtF yf)).data.toList, (bs (dtF yt)).data.toList, sv.data.toList] (fun x hx => by simp only [List.mem_cons, List.not_mem_nil, or_false] at hx; rcases hx with hx | hx | hx | hx; (rw [hx]; show 6 ≤ 1000; omega); (rw [hx, Array.length_toList]; exact hq1); (rw [hx, Array.length_toList]; exact hq2); (rw [hx, Array.length_toList]; exact hq3)) (by show 4 ≤ 4; omega)
            rw [← hrow.out, List.length_append]; omega
          clear hHeld hst hrow hI8
          go_wp2_with fail
          go_roundg (gk - 1)
          case measure => go_light; omega
          case rel => exact ⟨k + 1, by omega, by go_num, hz8, hI8', hB8⟩
        · obtain rfl : k = t.S.length := by omega
          have t1 : ¬ (t.S.length : Int) < (t.S.length : Int) := by omega
          have eT : t.S.take t.S.length = t.S := List.take_length
          rw [eT] at hz hI
          obtain ⟨TB, hTB⟩ : ∃ T, T = TA ++ (t.S.map (snF t.D)).flatten := ⟨_, rfl⟩
          rw [← hTB] at hz hI
          have hTB' : Hid (TB = TA ++ (t.S.map (snF t.D)).flatten) := hTB
          clear hTB
          have hzTB : TB.length ≤ 7200000 := by omega
          obtain ⟨_, xTB, _⟩ := id (hbx.below hb.out)
          have hITB : Hid (Lib.IsBuilder 55 5 w1.heap.size w1.heap.size (Lib.byteCells TB) wr) := hI
          have hBTB : Hid (Below w1.heap.size w1 wr) := hb
          go_wp2_with fail
          clear hI hb hz xTB t1 eT
          go_loopg [82] t.X.length (fun gk sS wr => ∃ k : Nat, k + gk = t.X.length ∧ sS = .int .i64 (k : Int) ∧ (TB ++ ((t.X.take k).map (exF t.D)).flatten).length ≤ 7200000 + 6001 * k ∧ Hid (Lib.IsBuilder 55 5 w1.heap.size w1.heap.size (Lib.byteCells (TB ++ ((t.X.take k).map (exF t.D)).flatten)) wr) ∧ Hid (Below w1.heap.size w1 wr))
          case atStart => exact ⟨0, by omega, rfl, (by simpa using hzTB), (by show Lib.IsBuilder _ _ _ _ _ _; simpa using hITB.out), hBTB⟩
          case round =>
            clear hITB hBTB
            obtain ⟨k, hk, rfl, hz, hI, hb⟩ := hrel
            have hl64 : t.X.length ≤ 64 := by have := hall.out; omega
            by_cases hlt : k < t.X.length
            · obtain ⟨g, o, hae, hg, P⟩ := (hTR.x.ln).resolve_left (by intro e; rw [e] at hlt; simp at hlt)
              subst hae
              have hst : Hid (TB ++ ((t.X.take (k + 1)).map (exF t.D)).flatten = (TB ++ ((t.X.take k).map (exF t.D)).flatten) ++ exF t.D t.X[k]) := by show _ = _; rw [flat_step (exF t.D) t.X k hlt, List.append_assoc]
              have t1 : (k : Int) < (t.X.length : Int) := by omega
              have t0 : (0 : Int) ≤ (k : Int) := by omega
              have c0 := (hb.out.cell (p := ⟨g, _, none⟩) hg).trans (P k hlt 0 _ rfl)
              have c1 := (hb.out.cell (p := ⟨g, _, none⟩) hg).trans (P k hlt 1 _ rfl)
              simp only [Nat.add_zero] at c0
              have hyk := hall.out.2.2.2.1.2.2 _ (List.getElem_mem hlt)
              have hyd := hall.out.2.2.2.2.1.2.1 _ (List.getElem_mem hlt)
              obtain ⟨gd, od, had, hgd, pN⟩ := nm_at hTR.d t.X[k].kind hyk.1 hyk.2
              subst had
              have hq2 : (nmA t.D t.X[k].kind).size ≤ 1000 := by have := hnA'.out _ hyk.1 hyk.2; omega
              have hnx : Hid ((nmA t.D t.X[k].kind).data.toList = nmL t.D t.X[k].kind) := rfl
              generalize t.X[k] = y at *
              obtain ⟨yd, yk⟩ := y
              dsimp only at hyk hyd pN hq2 hnx c0 c1
              obtain ⟨Jx, rfl⟩ : ∃ J : Nat, yk = (J : Int) := ⟨yk.toNat, by omega⟩
              rw [Int.toNat_natCast] at pN
              generalize nmA t.D (Jx : Int) = nx at pN hq2 hnx
              have q0 : (0 : Int) ≤ (Jx : Int) := by omega
              clear P
              obtain ⟨T2, hT2⟩ : ∃ T2, T2 = TB ++ ((t.X.take k).map (exF t.D)).flatten := ⟨_, rfl⟩
              rw [← hT2] at hz hI hst
              go_wp2_with fail
              have hkY := heap_new wr #[.int .i64 yd, .int .i64 (Jx : Int)] 47
              have hbY : Below wr.heap.size wr (wr.alloc (.cells #[.int .i64 yd, .int .i64 (Jx : Int)] 47)) := bel1
              have hIY := isB_below hI.out hbY
              have hBY : Below w1.heap.size w1 (wr.alloc (.cells #[.int .i64 yd, .int .i64 (Jx : Int)] 47)) := hb.out.trans (hbY.mono hb.out.size)
              clear hI hb c0 c1
              generalize (wr.alloc (.cells #[.int .i64 yd, .int .i64 (Jx : Int)] 47)) = Y at *
              have hpl : wr.heap.size < Y.heap.size := (Array.getElem?_eq_some_iff.1 hkY).1
              generalize wr.heap.size = p9 at *
              have hPY := hPw.below hBY
              have hPYd : Pw Y.drew := hPY.below ((Below.refl Y.heap.size Y).drew)
              have hMY := hMt.below hBY
              have hMYd : Mt Y.drew := hMY.below ((Below.refl Y.heap.size Y).drew)
              have hkk := cell_at hkY
              have hxY := (hbx.below hBY).2.1
              have hbxl : w.heap.size < Y.heap.size := Nat.lt_of_lt_of_le hbx.1 hBY.size
              have pNY := (hBY.cell (p := ⟨gd, _, none⟩) hgd).trans pN
              have hgdY : gd < Y.heap.size := Nat.lt_of_lt_of_le hgd hBY.size
              have hq1 : (bs (dtF yd)).size ≤ 1000 := by rw [bs_size]; have := dt_len yd; omega
              refine wp_region_noPanic ?_
              refine wp_region_held_drew (S := fun w' => (∀ ii, w'.cell? ⟨p9, ii, none⟩ = (#[.int .i64 yd, .int .i64 (Jx : Int)] : Array Value)[ii]?) ∧ (∀ ii, w'.cell? ⟨w.heap.size, ii, none⟩ = (#[.string t.nm, .slice (some ⟨gd, od, none⟩) t.D.length cD, .int .i64 t.w0, .int .i64 t.w1, .int .i64 t.w2, .int .i64 t.w3, .int .i64 t.w4, .int .i64 t.w5, .int .i64 t.w6, .slice aS t.S.length cS, .slice (some ⟨g, o, none⟩) t.X.length cX, .slice aH t.H.length cH] : Array Value)[ii]?) ∧ w'.cell? ⟨gd, od + Jx * 2, none⟩ = some (.string nx) ∧ Hid (w'.heap[p9]? = some (.cells #[.int .i64 yd, .int .i64 (Jx : Int)] 47 (0, 0)))) (by kernel_rfl) ?_ (fun hHeld => ?_)
              · (try dsimp only)
                exact ⟨hkk, hxY, pNY, hkY⟩
              refine wpAnyH_take (i := 0) (oi := { dst := some 86, op := Op.fieldAddr 47 (Operand.tmp 13) 0, type := 0, pos := "print.go:28", after := #[], guard := none }) (v := ?_) rfl (by kernel_rfl) (by kernel_rfl) (by kernel_rfl) (fun _ _ _ h => h) (Or.inl ⟨by rfl, ?_⟩) (by assumption) ?_
              rotate_left
              · intro wz hSz; (try dsimp only at hSz); go_simp; all_goals (with_reducible rfl)
              (try simp only [Act.put, List.setIfInBounds_toArray, List.set_cons_zero, List.set_cons_succ])
              refine wpAnyH_take (i := 1) (oi := { dst := some 87, op := Op.load 3 (Operand.tmp 86), type := 3, pos := "print.go:28", after := #[{ on := 0, ground := Ground.data }], guard := none }) (v := ?_) rfl (by kernel_rfl) (by kernel_rfl) (by kernel_rfl) (fun _ _ _ h => h) (Or.inl ⟨by rfl, ?_⟩) (by assumption) ?_
              rotate_left
              · intro wz hSz; (try dsimp only at hSz); go_simp; all_goals (with_reducible rfl)
              (try simp only [Act.put, List.setIfInBounds_toArray, List.set_cons_zero, List.set_cons_succ])
              refine wpAnyH_take (i := 3) (oi := { dst := some 89, op := Op.fieldAddr 28 (Operand.tmp 1) 1, type := 0, pos := "print.go:28", after := #[], guard := none }) (v := ?_) rfl (by kernel_rfl) (by kernel_rfl) (by kernel_rfl) (fun _ _ _ h => h) (Or.inl ⟨by rfl, ?_⟩) (by assumption) ?_
              rotate_left
              · intro wz hSz; (try dsimp only at hSz); go_simp; all_goals (with_reducible rfl)
              (try simp only [Act.put, List.setIfInBounds_toArray, List.set_cons_zero, List.set_cons_succ])
              refine wpAnyH_take (i := 4) (oi := { dst := some 90, op := Op.load 22 (Operand.tmp 89), type := 22, pos := "print.go:28", after := #[{ on := 3, ground := Ground.data }], guard := none }) (v := ?_) rfl (by kernel_rfl) (by kernel_rfl) (by kernel_rfl) (fun _ _ _ h => h) (Or.inl ⟨by rfl, ?_⟩) (by assumption) ?_
              rotate_left
              · intro wz hSz; (try dsimp only at hSz); go_simp; all_goals (with_reducible rfl)
              (try simp only [Act.put, List.setIfInBounds_toArray, List.set_cons_zero, List.set_cons_succ])
              refine wpAnyH_take (i := 5) (oi := { dst := some 91, op := Op.fieldAddr 47 (Operand.tmp 13) 1, type := 0, pos := "print.go:28", after := #[], guard := none }) (v := ?_) rfl (by kernel_rfl) (by kernel_rfl) (by kernel_rfl) (fun _ _ _ h => h) (Or.inl ⟨by rfl, ?_⟩) (by assumption) ?_
              rotate_left
              · intro wz hSz; (try dsimp only at hSz); go_simp; all_goals (with_reducible rfl)
              (try simp only [Act.put, List.setIfInBounds_toArray, List.set_cons_zero, List.set_cons_succ])
              refine wpAnyH_take (i := 6) (oi := { dst := some 92, op := Op.load 3 (Operand.tmp 91), type := 3, pos := "print.go:28", after := #[{ on := 5, ground := Ground.data }], guard := none }) (v := ?_) rfl (by kernel_rfl) (by kernel_rfl) (by kernel_rfl) (fun _ _ _ h => h) (Or.inl ⟨by rfl, ?_⟩) (by assumption) ?_
              rotate_left
              · intro wz hSz; (try dsimp only at hSz); go_simp; all_goals (with_reducible rfl)
              (try simp only [Act.put, List.setIfInBounds_toArray, List.set_cons_zero, List.set_cons_succ])
              refine wpAnyH_take (i := 7) (oi := { dst := some 93, op := Op.indexAddr 22 (Operand.tmp 90) (Operand.tmp 92), type := 0, pos := "print.go:28", after := #[{ on := 4, ground := Ground.data }, { on := 6, ground := Ground.data }], guard := none }) (v := ?_) rfl (by kernel_rfl) (by kernel_rfl) (by kernel_rfl) (fun _ _ _ h => h) (Or.inl ⟨by rfl, ?_⟩) (by assumption) ?_
              rotate_left
              · intro wz hSz; (try dsimp only at hSz); go_simp; all_goals (with_reducible rfl)
              (try simp only [Act.put, List.setIfInBounds_toArray, List.set_cons_zero, List.set_cons_succ])
              refine wpAnyH_take (i := 8) (oi := { dst := some 94, op := Op.fieldAddr 41 (Operand.tmp 93) 0, type := 0, pos := "print.go:28", after := #[{ on := 7, ground := Ground.data }], guard := none }) (v := ?_) rfl (by kernel_rfl) (by kernel_rfl) (by kernel_rfl) (fun _ _ _ h => h) (Or.inl ⟨by rfl, ?_⟩) (by assumption) ?_
              rotate_left
              · intro wz hSz; (try dsimp only at hSz); go_simp; all_goals (with_reducible rfl)
              (try simp only [Act.put, List.setIfInBounds_toArray, List.set_cons_zero, List.set_cons_succ])
              refine wpAnyH_take (i := 9) (oi := { dst := some 95, op := Op.load 9 (Operand.tmp 94), type := 9, pos := "print.go:28", after := #[{ on := 8, ground := Ground.data }], guard := none }) (v := ?_) rfl (by kernel_rfl) (by kernel_rfl) (by kernel_rfl) (fun _ _ _ h => h) (Or.inl ⟨by rfl, ?_⟩) (by assumption) ?_
              rotate_left
              · intro wz hSz; (try dsimp only at hSz); go_simp; all_goals (with_reducible rfl)
              (try simp only [Act.put, List.setIfInBounds_toArray, List.set_cons_zero, List.set_cons_succ])
              refine wpAnyH_ready (rs := [2]) (by kernel_rfl) (by simp) ?_
              refine AllReadyH.cons (o := { dst := some 88, op := Op.call { callee := Callee.value (Operand.func 14), args := #[Operand.tmp 87], argTypes := #[3] }, type := 9, pos := "print.go:28", after := #[{ on := 1, ground := Ground.data }], guard := none }) rfl (fun K hK => ?_) AllReadyH.nil
              go_simp
              go_at_call 14
              (with_reducible refine (dateText_any yd Y.drew (by omega) (by omega) hMYd hPYd).mono ?_)
              rintro e v1 ⟨rfl, hc1⟩
              have hd1 : Below Y.heap.size Y v1 := bel_after ((Below.refl Y.heap.size Y).drew) (Nat.le_refl _) hc1
              go_wp2_with fail
              refine hK.out _ _ ?_ (fun hHeld => ?_)
              · (try dsimp only)
                exact ⟨fun ii => (hd1.cell (p := ⟨p9, ii, none⟩) hpl).trans (hkk ii), fun ii => (hd1.cell (p := ⟨w.heap.size, ii, none⟩) hbxl).trans (hxY ii), (hd1.cell (p := ⟨gd, _, none⟩) hgdY).trans pNY, (hd1.block p9 hpl).trans hkY⟩
              clear hK K
              (try simp only [Act.put, List.setIfInBounds_toArray, List.set_cons_zero, List.set_cons_succ])
              refine wpAnyH_ready (rs := [10]) (by kernel_rfl) (by simp) ?_
              refine AllReadyH.cons (o := { dst := some 96, op := Op.buildSlice 64 3 #[(0, Operand.const (Value.string { data := #[111, 110] })), (1, Operand.tmp 88), (2, Operand.tmp 95)], type := 64, pos := "print.go:28", after := #[{ on := 2, ground := Ground.data }, { on := 9, ground := Ground.data }], guard := none }) rfl (fun K hK => ?_) AllReadyH.nil
              go_simp
              refine hK.out _ _ ?_ (fun hHeld => ?_)
              · (try dsimp only)
                have hp6 : p9 < v1.heap.size := Nat.lt_of_lt_of_le hpl hd1.size
                have hx6 : w.heap.size < v1.heap.size := Nat.lt_of_lt_of_le hbxl hd1.size
                exact ⟨fun ii => (bel1.cell (p := ⟨p9, ii, none⟩) hp6).trans (hHeld.1 ii), fun ii => (bel1.cell (p := ⟨w.heap.size, ii, none⟩) hx6).trans (hHeld.2.1 ii), (bel1.cell (p := ⟨gd, _, none⟩) (cell_ltF hHeld.2.2.1)).trans hHeld.2.2.1, (bel1.block p9 hp6).trans hHeld.2.2.2.out⟩
              clear hK K
              (try simp only [Act.put, List.setIfInBounds_toArray, List.set_cons_zero, List.set_cons_succ])
              refine wpAnyH_ready (rs := [11]) (by kernel_rfl) (by simp) ?_
              refine AllReadyH.cons (o := { dst := some 97, op := Op.call { callee := Callee.value (Operand.func 10), args := #[Operand.tmp 5, Operand.tmp 96], argTypes := #[55, 64] }, type := 0, pos := "print.go:28", after := #[{ on := 10, ground := Ground.data }, { on := 2, ground := Ground.chain }], guard := none }) rfl (fun K hK => ?_) AllReadyH.nil
              go_simp
              go_at_call 10
              (with_reducible refine (line3 w1.heap.size w1.heap.size T2 ⟨#[111, 110]⟩ (bs (dtF yd)) nx v1 _ rfl (isB_below hIY hd1) (Nat.le_trans hBY.size hd1.size) (by omega) ⟨by decide, hq1, hq2⟩).mono ?_)
              rintro e v8 ⟨rfl, hI8, hb8, hs8⟩
              have hk8 := hs8.has ((hd1.block p9 hpl).trans hkY) (by decide) (by decide)
              have hB8 : Below w1.heap.size w1 v8 := (hBY.trans (hd1.mono hBY.size)).trans hb8
              go_wp2_with fail
              refine hK.out _ _ ?_ (fun hHeld => ?_)
              · (try dsimp only)
                exact ⟨fun ii => cell_at hk8 ii, (hbx.below hB8).2.1, (hB8.cell (p := ⟨gd, _, none⟩) hgd).trans pN, hk8⟩
              clear hK K
              (try simp only [Act.put, List.setIfInBounds_toArray, List.set_cons_zero, List.set_cons_succ])
              refine wpAnyH_done (by kernel_rfl) ?_ _
              refine NoPanic.normal ?_
              have hrow : Hid (T2 ++ lnF [[111, 110], (bs (dtF yd)).data.toList, nx.data.toList] = TB ++ ((t.X.take (k + 1)).map (exF t.D)).flatten) := by
                show _ = _
                rw [hst.out, bs_back, hnx.out]; rfl
              have hI8' : Lib.IsBuilder 55 5 w1.heap.size w1.heap.size (Lib.byteCells (TB ++ ((t.X.take (k + 1)).map (exF t.D)).flatten)) v8 := by rw [← hrow.out]; exact hI8
              have hz8 : (TB ++ ((t.X.take (k + 1)).map (exF t.D)).flatten).length ≤ 7200000 + 6001 * (k + 1) := by
                have := lnF_len [[111, 110], (bs (dtF yd)).data.toList, nx.data.toList] (fun x hx => by simp only [List.mem_cons, List.not_mem_nil, or_false] at hx; rcases hx with hx | hx | hx; (rw [hx]; show 2 ≤ 1000; omega); (rw [hx, Array.length_toList]; exact hq1); (rw [hx, Array.length_toList]; exact hq2)) (by show 3 ≤ 4; omega)
                rw [← hrow.out, List.length_append]; omega
              clear hHeld hst hrow hI8
              go_wp2_with fail
              go_roundg (gk - 1)
              case measure => go_light; omega
              case rel => exact ⟨k + 1, by omega, by go_num, hz8, hI8', hB8⟩
            · obtain rfl : k = t.X.length := by omega
              have t1 : ¬ (t.X.length : Int) < (t.X.length : Int) := by omega
              have eT : t.X.take t.X.length = t.X := List.take_length
              rw [eT] at hz hI
              obtain ⟨TC, hTC⟩ : ∃ T, T = TB ++ (t.X.map (exF t.D)).flatten := ⟨_, rfl⟩
              rw [← hTC] at hz hI
              have hTC' : Hid (TC = TB ++ (t.X.map (exF t.D)).flatten) := hTC
              clear hTC
              have hzTC : TC.length ≤ 7700000 := by omega
              obtain ⟨_, xTC, _⟩ := id (hbx.below hb.out)
              have hITC : Hid (Lib.IsBuilder 55 5 w1.heap.size w1.heap.size (Lib.byteCells TC) wr) := hI
              have hBTC : Hid (Below w1.heap.size w1 wr) := hb
              go_wp2_with fail
              clear hI hb hz xTC t1 eT
              go_loopg [102] t.H.length (fun gk sS wr => ∃ k : Nat, k + gk = t.H.length ∧ sS = .int .i64 (k : Int) ∧ (TC ++ ((t.H.take k).map (shF)).flatten).length ≤ 7700000 + 6001 * k ∧ Hid (Lib.IsBuilder 55 5 w1.heap.size w1.heap.size (Lib.byteCells (TC ++ ((t.H.take k).map (shF)).flatten)) wr) ∧ Hid (Below w1.heap.size w1 wr))
              case atStart => exact ⟨0, by omega, rfl, (by simpa using hzTC), (by show Lib.IsBuilder _ _ _ _ _ _; simpa using hITC.out), hBTC⟩
              case round =>
                clear hITC hBTC
                obtain ⟨k, hk, rfl, hz, hI, hb⟩ := hrel
                have hl64 : t.H.length ≤ 64 := by have := hall.out; omega
                by_cases hlt : k < t.H.length
                · obtain ⟨g, o, hae, hg, P⟩ := (hTR.h.ln).resolve_left (by intro e; rw [e] at hlt; simp at hlt)
                  subst hae
                  have hst : Hid (TC ++ ((t.H.take (k + 1)).map (shF)).flatten = (TC ++ ((t.H.take k).map (shF)).flatten) ++ shF t.H[k]) := by show _ = _; rw [flat_step (shF) t.H k hlt, List.append_assoc]
                  have t1 : (k : Int) < (t.H.length : Int) := by omega
                  have t0 : (0 : Int) ≤ (k : Int) := by omega
                  have c0 := (hb.out.cell (p := ⟨g, _, none⟩) hg).trans (P k hlt 0 _ rfl)
                  have c1 := (hb.out.cell (p := ⟨g, _, none⟩) hg).trans (P k hlt 1 _ rfl)
                  simp only [Nat.add_zero] at c0
                  have hym := hall.out.2.2.2.2.1.2.2 _ (List.getElem_mem hlt)
                  have hyp := hall.out.2.2.2.2.2 _ (List.getElem_mem hlt)
                  generalize t.H[k] = y at *
                  obtain ⟨ym, yp⟩ := y
                  dsimp only at hym hyp c0 c1
                  obtain ⟨Q, hQ⟩ : ∃ Q : Nat, ym % 1440 = (Q : Int) := ⟨(ym % 1440).toNat, by omega⟩
                  have k7 : IntKind.i64.wrap (ym.tdiv 1440) = ym / 1440 := by rw [Int.tdiv_eq_ediv_of_nonneg hym.1]; exact wrap64 _ (by omega)
                  have k8 : ym.tmod 1440 = (Q : Int) := by rw [Int.tmod_eq_emod_of_nonneg hym.1]; exact hQ
                  have hQn : Hid ((ym % 1440).toNat = Q) := by show _ = _; omega
                  clear P
                  obtain ⟨T2, hT2⟩ : ∃ T2, T2 = TC ++ ((t.H.take k).map (shF)).flatten := ⟨_, rfl⟩
                  rw [← hT2] at hz hI hst
                  go_wp2_with fail
                  have hkY := heap_new wr #[.int .i64 ym, .int .i64 yp] 49
                  have hbY : Below wr.heap.size wr (wr.alloc (.cells #[.int .i64 ym, .int .i64 yp] 49)) := bel1
                  have hIY := isB_below hI.out hbY
                  have hBY : Below w1.heap.size w1 (wr.alloc (.cells #[.int .i64 ym, .int .i64 yp] 49)) := hb.out.trans (hbY.mono hb.out.size)
                  clear hI hb c0 c1
                  generalize (wr.alloc (.cells #[.int .i64 ym, .int .i64 yp] 49)) = Y at *
                  have hpl : wr.heap.size < Y.heap.size := (Array.getElem?_eq_some_iff.1 hkY).1
                  generalize wr.heap.size = p9 at *
                  have hPY := hPw.below hBY
                  have hPYd : Pw Y.drew := hPY.below ((Below.refl Y.heap.size Y).drew)
                  have hMY := hMt.below hBY
                  have hMYd : Mt Y.drew := hMY.below ((Below.refl Y.heap.size Y).drew)
                  have hkk := cell_at hkY
                  have hxY := (hbx.below hBY).2.1
                  have hbxl : w.heap.size < Y.heap.size := Nat.lt_of_lt_of_le hbx.1 hBY.size
                  have hq1 : (bs (dtF (ym / 1440))).size ≤ 1000 := by rw [bs_size]; have := dt_len (ym / 1440); omega
                  have hq2 : (bs (ckF Q)).size ≤ 1000 := by rw [bs_size, ck_len]; omega
                  have hq3 : (bs (puF yp)).size ≤ 1000 := by rw [bs_size]; have := pu_len yp hyp.1 hyp.2; omega
                  refine wp_region_noPanic ?_
                  refine wp_region_held_drew (S := fun w' => (∀ ii, w'.cell? ⟨p9, ii, none⟩ = (#[.int .i64 ym, .int .i64 yp] : Array Value)[ii]?) ∧ (∀ ii, w'.cell? ⟨w.heap.size, ii, none⟩ = (#[.string t.nm, .slice aD t.D.length cD, .int .i64 t.w0, .int .i64 t.w1, .int .i64 t.w2, .int .i64 t.w3, .int .i64 t.w4, .int .i64 t.w5, .int .i64 t.w6, .slice aS t.S.length cS, .slice aX t.X.length cX, .slice (some ⟨g, o, none⟩) t.H.length cH] : Array Value)[ii]?) ∧ Hid (w'.heap[p9]? = some (.cells #[.int .i64 ym, .int .i64 yp] 49 (0, 0)))) (by kernel_rfl) ?_ (fun hHeld => ?_)
                  · (try dsimp only)
                    exact ⟨hkk, hxY, hkY⟩
                  refine wpAnyH_take (i := 0) (oi := { dst := some 106, op := Op.fieldAddr 49 (Operand.tmp 15) 0, type := 0, pos := "print.go:31", after := #[], guard := none }) (v := ?_) rfl (by kernel_rfl) (by kernel_rfl) (by kernel_rfl) (fun _ _ _ h => h) (Or.inl ⟨by rfl, ?_⟩) (by assumption) ?_
                  rotate_left
                  · intro wz hSz; (try dsimp only at hSz); go_simp; all_goals (with_reducible rfl)
                  (try simp only [Act.put, List.setIfInBounds_toArray, List.set_cons_zero, List.set_cons_succ])
                  refine wpAnyH_take (i := 1) (oi := { dst := some 107, op := Op.load 3 (Operand.tmp 106), type := 3, pos := "print.go:31", after := #[{ on := 0, ground := Ground.data }], guard := none }) (v := ?_) rfl (by kernel_rfl) (by kernel_rfl) (by kernel_rfl) (fun _ _ _ h => h) (Or.inl ⟨by rfl, ?_⟩) (by assumption) ?_
                  rotate_left
                  · intro wz hSz; (try dsimp only at hSz); go_simp; all_goals (with_reducible rfl)
                  (try simp only [Act.put, List.setIfInBounds_toArray, List.set_cons_zero, List.set_cons_succ])
                  refine wpAnyH_take (i := 2) (oi := { dst := some 108, op := Op.binOp BinOp.quo 3 (Operand.tmp 107) (Operand.const (Value.int IntKind.i64 1440)) 3, type := 3, pos := "print.go:31", after := #[{ on := 1, ground := Ground.data }], guard := none }) (v := ?_) rfl (by kernel_rfl) (by kernel_rfl) (by kernel_rfl) (fun _ _ _ h => h) (Or.inl ⟨by rfl, ?_⟩) (by assumption) ?_
                  rotate_left
                  · intro wz hSz; (try dsimp only at hSz); go_simp; all_goals (with_reducible rfl)
                  (try simp only [Act.put, List.setIfInBounds_toArray, List.set_cons_zero, List.set_cons_succ])
                  refine wpAnyH_take (i := 4) (oi := { dst := some 110, op := Op.fieldAddr 49 (Operand.tmp 15) 0, type := 0, pos := "print.go:31", after := #[], guard := none }) (v := ?_) rfl (by kernel_rfl) (by kernel_rfl) (by kernel_rfl) (fun _ _ _ h => h) (Or.inl ⟨by rfl, ?_⟩) (by assumption) ?_
                  rotate_left
                  · intro wz hSz; (try dsimp only at hSz); go_simp; all_goals (with_reducible rfl)
                  (try simp only [Act.put, List.setIfInBounds_toArray, List.set_cons_zero, List.set_cons_succ])
                  refine wpAnyH_take (i := 5) (oi := { dst := some 111, op := Op.load 3 (Operand.tmp 110), type := 3, pos := "print.go:31", after := #[{ on := 4, ground := Ground.data }], guard := none }) (v := ?_) rfl (by kernel_rfl) (by kernel_rfl) (by kernel_rfl) (fun _ _ _ h => h) (Or.inl ⟨by rfl, ?_⟩) (by assumption) ?_
                  rotate_left
                  · intro wz hSz; (try dsimp only at hSz); go_simp; all_goals (with_reducible rfl)
                  (try simp only [Act.put, List.setIfInBounds_toArray, List.set_cons_zero, List.set_cons_succ])
                  refine wpAnyH_take (i := 6) (oi := { dst := some 112, op := Op.binOp BinOp.rem 3 (Operand.tmp 111) (Operand.const (Value.int IntKind.i64 1440)) 3, type := 3, pos := "print.go:31", after := #[{ on := 5, ground := Ground.data }], guard := none }) (v := ?_) rfl (by kernel_rfl) (by kernel_rfl) (by kernel_rfl) (fun _ _ _ h => h) (Or.inl ⟨by rfl, ?_⟩) (by assumption) ?_
                  rotate_left
                  · intro wz hSz; (try dsimp only at hSz); go_simp; all_goals (with_reducible rfl)
                  (try simp only [Act.put, List.setIfInBounds_toArray, List.set_cons_zero, List.set_cons_succ])
                  refine wpAnyH_take (i := 8) (oi := { dst := some 114, op := Op.fieldAddr 49 (Operand.tmp 15) 1, type := 0, pos := "print.go:31", after := #[], guard := none }) (v := ?_) rfl (by kernel_rfl) (by kernel_rfl) (by kernel_rfl) (fun _ _ _ h => h) (Or.inl ⟨by rfl, ?_⟩) (by assumption) ?_
                  rotate_left
                  · intro wz hSz; (try dsimp only at hSz); go_simp; all_goals (with_reducible rfl)
                  (try simp only [Act.put, List.setIfInBounds_toArray, List.set_cons_zero, List.set_cons_succ])
                  refine wpAnyH_take (i := 9) (oi := { dst := some 115, op := Op.load 3 (Operand.tmp 114), type := 3, pos := "print.go:31", after := #[{ on := 8, ground := Ground.data }], guard := none }) (v := ?_) rfl (by kernel_rfl) (by kernel_rfl) (by kernel_rfl) (fun _ _ _ h => h) (Or.inl ⟨by rfl, ?_⟩) (by assumption) ?_
                  rotate_left
                  · intro wz hSz; (try dsimp only at hSz); go_simp; all_goals (with_reducible rfl)
                  (try simp only [Act.put, List.setIfInBounds_toArray, List.set_cons_zero, List.set_cons_succ])
                  refine wpAnyH_ready (rs := [3]) (by kernel_rfl) (by simp) ?_
                  refine AllReadyH.cons (o := { dst := some 109, op := Op.call { callee := Callee.value (Operand.func 14), args := #[Operand.tmp 108], argTypes := #[3] }, type := 9, pos := "print.go:31", after := #[{ on := 2, ground := Ground.data }], guard := none }) rfl (fun K hK => ?_) AllReadyH.nil
                  go_simp
                  go_at_call 14
                  (with_reducible refine (dateText_any (ym / 1440) Y.drew (by omega) (by omega) hMYd hPYd).mono ?_)
                  rintro e v1 ⟨rfl, hc1⟩
                  have hd1 : Below Y.heap.size Y v1 := bel_after ((Below.refl Y.heap.size Y).drew) (Nat.le_refl _) hc1
                  go_wp2_with fail
                  refine hK.out _ _ ?_ (fun hHeld => ?_)
                  · (try dsimp only)
                    exact ⟨fun ii => (hd1.cell (p := ⟨p9, ii, none⟩) hpl).trans (hkk ii), fun ii => (hd1.cell (p := ⟨w.heap.size, ii, none⟩) hbxl).trans (hxY ii), (hd1.block p9 hpl).trans hkY⟩
                  clear hK K
                  (try simp only [Act.put, List.setIfInBounds_toArray, List.set_cons_zero, List.set_cons_succ])
                  refine wpAnyH_ready (rs := [7]) (by kernel_rfl) (by simp) ?_
                  refine AllReadyH.cons (o := { dst := some 113, op := Op.call { callee := Callee.value (Operand.func 11), args := #[Operand.tmp 112], argTypes := #[3] }, type := 9, pos := "print.go:31", after := #[{ on := 6, ground := Ground.data }, { on := 3, ground := Ground.chain }], guard := none }) rfl (fun K hK => ?_) AllReadyH.nil
                  go_simp
                  go_at_call 11
                  (with_reducible refine (clockText_any Q v1 (by omega) (hPY.below hd1)).mono ?_)
                  rintro e v2 ⟨rfl, hc2⟩
                  have hd2 := belT hd1 hc2
                  go_wp2_with fail
                  refine hK.out _ _ ?_ (fun hHeld => ?_)
                  · (try dsimp only)
                    exact ⟨fun ii => (hd2.cell (p := ⟨p9, ii, none⟩) hpl).trans (hkk ii), fun ii => (hd2.cell (p := ⟨w.heap.size, ii, none⟩) hbxl).trans (hxY ii), (hd2.block p9 hpl).trans hkY⟩
                  clear hK K
                  (try simp only [Act.put, List.setIfInBounds_toArray, List.set_cons_zero, List.set_cons_succ])
                  refine wpAnyH_ready (rs := [10]) (by kernel_rfl) (by simp) ?_
                  refine AllReadyH.cons (o := { dst := some 116, op := Op.call { callee := Callee.value (Operand.func 15), args := #[Operand.tmp 115], argTypes := #[3] }, type := 9, pos := "print.go:31", after := #[{ on := 9, ground := Ground.data }, { on := 7, ground := Ground.chain }], guard := none }) rfl (fun K hK => ?_) AllReadyH.nil
                  go_simp
                  go_at_call 15
                  (with_reducible refine (plusText_any yp v2 (by omega) (by omega) (hPY.below hd2)).mono ?_)
                  rintro e v3 ⟨rfl, hc3⟩
                  have hd3 := belT hd2 hc3
                  go_wp2_with fail
                  refine hK.out _ _ ?_ (fun hHeld => ?_)
                  · (try dsimp only)
                    exact ⟨fun ii => (hd3.cell (p := ⟨p9, ii, none⟩) hpl).trans (hkk ii), fun ii => (hd3.cell (p := ⟨w.heap.size, ii, none⟩) hbxl).trans (hxY ii), (hd3.block p9 hpl).trans hkY⟩
                  clear hK K
                  (try simp only [Act.put, List.setIfInBounds_toArray, List.set_cons_zero, List.set_cons_succ])
                  refine wpAnyH_ready (rs := [11]) (by kernel_rfl) (by simp) ?_
                  refine AllReadyH.cons (o := { dst := some 117, op := Op.buildSlice 64 4 #[(0, Operand.const (Value.string { data := #[115, 104, 105, 102, 116] })), (1, Operand.tmp 109), (2, Operand.tmp 113), (3, Operand.tmp 116)], type := 64, pos := "print.go:31", after := #[{ on := 3, ground := Ground.data }, { on := 7, ground := Ground.data }, { on := 10, ground := Ground.data }], guard := none }) rfl (fun K hK => ?_) AllReadyH.nil
                  go_simp
                  refine hK.out _ _ ?_ (fun hHeld => ?_)
                  · (try dsimp only)
                    have hp6 : p9 < v3.heap.size := Nat.lt_of_lt_of_le hpl hd3.size
                    have hx6 : w.heap.size < v3.heap.size := Nat.lt_of_lt_of_le hbxl hd3.size
                    exact ⟨fun ii => (bel1.cell (p := ⟨p9, ii, none⟩) hp6).trans (hHeld.1 ii), fun ii => (bel1.cell (p := ⟨w.heap.size, ii, none⟩) hx6).trans (hHeld.2.1 ii), (bel1.block p9 hp6).trans hHeld.2.2.out⟩
                  clear hK K
                  (try simp only [Act.put, List.setIfInBounds_toArray, List.set_cons_zero, List.set_cons_succ])
                  refine wpAnyH_ready (rs := [12]) (by kernel_rfl) (by simp) ?_
                  refine AllReadyH.cons (o := { dst := some 118, op := Op.call { callee := Callee.value (Operand.func 10), args := #[Operand.tmp 5, Operand.tmp 117], argTypes := #[55, 64] }, type := 0, pos := "print.go:31", after := #[{ on := 11, ground := Ground.data }, { on := 10, ground := Ground.chain }], guard := none }) rfl (fun K hK => ?_) AllReadyH.nil
                  go_simp
                  go_at_call 10
                  (with_reducible refine (line4 w1.heap.size w1.heap.size T2 ⟨#[115, 104, 105, 102, 116]⟩ (bs (dtF (ym / 1440))) (bs (ckF Q)) (bs (puF yp)) v3 _ rfl (isB_below hIY hd3) (Nat.le_trans hBY.size hd3.size) (by omega) ⟨by decide, hq1, hq2, hq3⟩).mono ?_)
                  rintro e v8 ⟨rfl, hI8, hb8, hs8⟩
                  have hk8 := hs8.has ((hd3.block p9 hpl).trans hkY) (by decide) (by decide)
                  have hB8 : Below w1.heap.size w1 v8 := (hBY.trans (hd3.mono hBY.size)).trans hb8
                  go_wp2_with fail
                  refine hK.out _ _ ?_ (fun hHeld => ?_)
                  · (try dsimp only)
                    exact ⟨fun ii => cell_at hk8 ii, (hbx.below hB8).2.1, hk8⟩
                  clear hK K
                  (try simp only [Act.put, List.setIfInBounds_toArray, List.set_cons_zero, List.set_cons_succ])
                  refine wpAnyH_done (by kernel_rfl) ?_ _
                  refine NoPanic.normal ?_
                  have hrow : Hid (T2 ++ lnF [[115, 104, 105, 102, 116], (bs (dtF (ym / 1440))).data.toList, (bs (ckF Q)).data.toList, (bs (puF yp)).data.toList] = TC ++ ((t.H.take (k + 1)).map (shF)).flatten) := by
                    show _ = _
                    rw [hst.out, bs_back, bs_back, bs_back, ← hQn.out]; rfl
                  have hI8' : Lib.IsBuilder 55 5 w1.heap.size w1.heap.size (Lib.byteCells (TC ++ ((t.H.take (k + 1)).map (shF)).flatten)) v8 := by rw [← hrow.out]; exact hI8
                  have hz8 : (TC ++ ((t.H.take (k + 1)).map (shF)).flatten).length ≤ 7700000 + 6001 * (k + 1) := by
                    have := lnF_len [[115, 104, 105, 102, 116], (bs (dtF (ym / 1440))).data.toList, (bs (ckF Q)).data.toList, (bs (puF yp)).data.toList] (fun x hx => by simp only [List.mem_cons, List.not_mem_nil, or_false] at hx; rcases hx with hx | hx | hx | hx; (rw [hx]; show 5 ≤ 1000; omega); (rw [hx, Array.length_toList]; exact hq1); (rw [hx, Array.length_toList]; exact hq2); (rw [hx, Array.length_toList]; exact hq3)) (by show 4 ≤ 4; omega)
                    rw [← hrow.out, List.length_append]; omega
                  clear hHeld hst hrow hI8
                  go_wp2_with fail
                  go_roundg (gk - 1)
                  case measure => go_light; omega
                  case rel => exact ⟨k + 1, by omega, by go_num, hz8, hI8', hB8⟩
                · obtain rfl : k = t.H.length := by omega
                  have t1 : ¬ (t.H.length : Int) < (t.H.length : Int) := by omega
                  have eT : t.H.take t.H.length = t.H := List.take_length
                  rw [eT] at hz hI
                  obtain ⟨TD, hTD⟩ : ∃ T, T = TC ++ (t.H.map (shF)).flatten := ⟨_, rfl⟩
                  rw [← hTD] at hz hI
                  have hTD' : Hid (TD = TC ++ (t.H.map (shF)).flatten) := hTD
                  clear hTD
                  have hzTD : TD.length ≤ 8200000 := by omega
                  obtain ⟨_, xTD, _⟩ := id (hbx.below hb.out)
                  have hfin : Hid (TD = prF t) := by show _ = _; rw [hTD'.out, hTC'.out, hTB'.out, hTA'.out]; rfl
                  have hne : prF t ≠ [] := by
                    intro e
                    have h9 := congrArg List.length e
                    unfold prF hdF lnF at h9
                    simp at h9
                  rw [hfin.out] at hI
                  have hst := string_any w1.heap.size w1.heap.size (prF t) wr hI.out hne
                  go_wp2_with (go_at_call 16; (with_reducible refine hst.mono ?_); rintro e w9 ⟨rfl, hb9⟩)
                  go_ret2
                  exact ⟨rfl, hbw.trans ((hb.out.trans hb9).mono hbw.size)⟩
end Go.Proofs.YtkeoebllblbkgaaGreatDoor
