import Derived.Test.YthjdflcakngpiaaDoorCpyA
namespace Go.Proofs.YthjdflcakngpiaaDoor
open Go.RowKit
set_option linter.unusedVariables false

set_option maxRecDepth 100000 in
set_option maxHeartbeats 4000000 in
theorem copyPlan_any (p : Pl) (u : Value) (S1 : Nat → Prop) (w : World) (h : PlR S1 w u p) :
    Calls Tryd.prog 13 #[u] w fun e w' => (∃ vd, e = .returned (.agg #[.string p.name, vd]) ∧ CpO (w.heap.size + 3) w' vd p.decls) ∧ Below w.heap.size w w' := by
  obtain ⟨dv, rfl, h⟩ := h
  obtain ⟨pn, L⟩ := p
  simp only at *
  obtain ⟨da, dc, rfl, hlen, dk⟩ := Rows.any h
  clear h
  obtain ⟨i0, hi, hi0, hi1, hi2⟩ := info_parts info70
  obtain ⟨i9, hk9, hk0, hk1, hk2⟩ := info_parts info9
  obtain ⟨i3, hj, hj0, hj1, hj2⟩ := info_parts info73
  go_enter Tryd.func13, Tryd.ntmps13
  go_wp2
  have H1 : Has (((w.alloc (.cells #[.string pn, .slice da L.length dc] 24)).alloc (.cells #[.string ⟨#[]⟩, .slice none 0 0] 24)).alloc (.cells #[.string pn, .slice none 0 0] 24)) w.heap.size #[.string pn, .slice da L.length dc] := ((Has.new _ _ _ rfl).alloc _).alloc _
  have H2 : Has (((w.alloc (.cells #[.string pn, .slice da L.length dc] 24)).alloc (.cells #[.string ⟨#[]⟩, .slice none 0 0] 24)).alloc (.cells #[.string pn, .slice none 0 0] 24)) (w.heap.size + 1) #[.string ⟨#[]⟩, .slice none 0 0] := (Has.new _ _ _ (by simp)).alloc _
  have H3 : Has (((w.alloc (.cells #[.string pn, .slice da L.length dc] 24)).alloc (.cells #[.string ⟨#[]⟩, .slice none 0 0] 24)).alloc (.cells #[.string pn, .slice none 0 0] 24)) (w.heap.size + 1 + 1) #[.string pn, .slice none 0 0] := Has.new _ _ _ (by simp)
  have HB : Below w.heap.size w (((w.alloc (.cells #[.string pn, .slice da L.length dc] 24)).alloc (.cells #[.string ⟨#[]⟩, .slice none 0 0] 24)).alloc (.cells #[.string pn, .slice none 0 0] 24)) := (((Below.refl _ _).alloc (Nat.le_refl _) _).alloc (by simp) _).alloc (by simp; omega) _
  generalize (((w.alloc (.cells #[.string pn, .slice da L.length dc] 24)).alloc (.cells #[.string ⟨#[]⟩, .slice none 0 0] 24)).alloc (.cells #[.string pn, .slice none 0 0] 24)) = W0 at *
  go_loopw [4] (fun t4 wr => ∃ (k : Nat) (vd : Value) (xs : List Value) (lo hi : Nat → Nat), k ≤ L.length ∧ t4 = .int .i64 (k : Int) ∧ Hid (wr.ownsRow (w.heap.size + 3) 53 15 vd k xs) ∧ Hid (PreO wr vd xs L lo hi k ∧ ∀ i, i < k → w.heap.size + 3 ≤ lo i) ∧ Hid (Has wr w.heap.size #[.string pn, .slice da L.length dc]) ∧ Hid (Has wr (w.heap.size + 1) #[.string ⟨#[]⟩, .slice none 0 0]) ∧ Hid (Has wr (w.heap.size + 1 + 1) #[.string pn, vd]) ∧ Below w.heap.size w wr) (fun t _ => L.length - (intOf t).toNat)
  case atStart => exact ⟨0, _, [], fun _ => 0, fun _ => 0, by omega, rfl, World.ownsRow_nil _ _ _ _, ⟨⟨fun i h => absurd h (by omega), fun i j _ h => absurd h (by omega), fun i _ h => absurd h (by omega)⟩, fun i h => absurd h (by omega)⟩, H1, H2, H3, HB⟩
  case round =>
    clear H1 H2 H3 HB
    obtain ⟨k, vd, xs, lo, hi', hk, rfl, own, pre, J1, J2, J3, hb⟩ := hrel
    obtain ⟨z1, f1, _⟩ := id J1.out
    obtain ⟨z2, f2, f2'⟩ := id J2.out
    obtain ⟨z3, f3, f4⟩ := id J3.out
    by_cases hlt : k < L.length
    · obtain ⟨g1, o1, rfl, _, hg1, P1⟩ := dk.resolve_left (by intro e; rw [e] at hlt; simp at hlt)
      obtain ⟨cs1, _, ⟨v, ⟨s0, s1, s2, s3, s4⟩, rfl, vN, sN⟩, p⟩ := P1 k hlt
      obtain ⟨sG, sE, sD, sL, sX⟩ := sN
      simp only at *
      have hF := fun (W : World) (hW : Below w.heap.size w W) => copyNodes_any L[k].expr _ S1 W (vN.below hW)
      have hE := fun (W : World) (hW : Below w.heap.size w W) => copyList_any _ _ S1 W (sE.below hW)
      have hD := fun (W : World) (hW : Below w.heap.size w W) => copyList_any _ _ S1 W (sD.below hW)
      have hL := fun (W : World) (hW : Below w.heap.size w W) => copyList_any _ _ S1 W (sL.below hW)
      obtain ⟨va, vc, rfl, -, -⟩ := Rows.any vN
      obtain ⟨ga, gc, rfl, gl, -⟩ := Rows.any sG
      obtain ⟨ea, ec, rfl, -, -⟩ := Rows.any sE
      obtain ⟨da0, dc0, rfl, -, -⟩ := Rows.any sD
      obtain ⟨la, lc, rfl, -, -⟩ := Rows.any sL
      obtain ⟨na, nc, rfl, nl, nk⟩ := Rows.any sX
      have hG := fun (W : World) (hW : Below w.heap.size w W) => Txs.news (sG.below hW)
      have p0 := (hb.cell (p := ⟨g1, _, none⟩) hg1).trans (p 0 _ rfl)
      have p1 := (hb.cell (p := ⟨g1, _, none⟩) hg1).trans (p 1 _ rfl)
      have p2 := (hb.cell (p := ⟨g1, _, none⟩) hg1).trans (p 2 _ rfl)
      have p3 := (hb.cell (p := ⟨g1, _, none⟩) hg1).trans (p 3 _ rfl)
      have p4 := (hb.cell (p := ⟨g1, _, none⟩) hg1).trans (p 4 _ rfl)
      have p5 := (hb.cell (p := ⟨g1, _, none⟩) hg1).trans (p 5 _ rfl)
      have p6 := (hb.cell (p := ⟨g1, _, none⟩) hg1).trans (p 6 _ rfl)
      have p7 := (hb.cell (p := ⟨g1, _, none⟩) hg1).trans (p 7 _ rfl)
      have p8 := (hb.cell (p := ⟨g1, _, none⟩) hg1).trans (p 8 _ rfl)
      have p9 := (hb.cell (p := ⟨g1, _, none⟩) hg1).trans (p 9 _ rfl)
      have p10 := (hb.cell (p := ⟨g1, _, none⟩) hg1).trans (p 10 _ rfl)
      have p11 := (hb.cell (p := ⟨g1, _, none⟩) hg1).trans (p 11 _ rfl)
      have p12 := (hb.cell (p := ⟨g1, _, none⟩) hg1).trans (p 12 _ rfl)
      have p13 := (hb.cell (p := ⟨g1, _, none⟩) hg1).trans (p 13 _ rfl)
      have p14 := (hb.cell (p := ⟨g1, _, none⟩) hg1).trans (p 14 _ rfl)
      have t1 : (k : Int) < (L.length : Int) := by omega
      have t0 : (0 : Int) ≤ (k : Int) := by omega
      have t2 : k + 1 ≤ L.length := hlt
      clear p P1 dk vN sG sE sD sL sX
      simp only [Nat.add_zero] at p0
      have n1 : ¬ w.heap.size = wr.heap.size := by omega
      have n2 : ¬ w.heap.size + 1 = wr.heap.size := by omega
      have n3 : ¬ w.heap.size + 1 + 1 = wr.heap.size := by omega
      generalize hLk : L[k] = x at *
      go_wp2_with (first
        | (go_at_call 15; (with_reducible refine Calls.mono (hF _ (by exact (hb.alloc hb.size _).alloc (by simp; have := hb.size; omega) _)) ?_); rintro e w1 ⟨⟨v', rfl, r0⟩, hb1⟩; have rE := r0.mv (S' := fun b => wr.heap.size + 2 ≤ b ∧ b < w1.heap.size) (Mv.weak fun b hbl hbb => ⟨(by simpa using hbb), hbl⟩); clear r0; have q1 := rE; obtain ⟨ra, rc, rfl, -, -⟩ := Rows.any q1; clear q1; have K5 := ((Has.new wr _ _ rfl).alloc _).below hb1; have K6 : Has w1 (wr.heap.size + 1) _ := (Has.new (wr.alloc _) _ _ (by simp)).below hb1; have BW : Below wr.heap.size wr w1 := bel_after (((Below.refl _ _).alloc (Nat.le_refl _) _).alloc (by simp) _) (by simp; omega) hb1; have zz1 : wr.heap.size + 2 ≤ w1.heap.size := (by simpa using hb1.size); obtain ⟨_, ka1, kb1⟩ := id K5; obtain ⟨_, kc1, kd1⟩ := id K6; clear hF hb1)
        | (at_builtin; have hgn := hG (w1.setCell ⟨wr.heap.size, 9, none⟩ (.slice ra x.expr.length rc)) ((HBtrans hb BW hb.size).setCell (p := ⟨wr.heap.size, 9, none⟩) hb.size _); refine wpList_copyv rfl _ _ 47 rfl 9 i9 _ 1 16 Tryd.underlying47 hk9 hk0 hk1 hk2 rfl (by decide) ga x.sg.green.length gc (cellsT x.sg.green) rfl rfl (cellsT_len _) hgn.1 (cellsT_one _) hgn.2 (by unfold maxLen; omega) (by omega) ?_; intro ga' gc' w2 own2 hb2; have o1 : OwnI 9 1 TxR w1.heap.size w2.heap.size w2 (.slice ga' x.sg.green.length gc') x.sg.green := OwnI.of rmvT ⟨_, (by simpa [World.setCell] using own2), cellsT_els _ _ _⟩ (Nat.le_refl _); clear own2 hG hgn; have SMX2 := (SmC.set (lo := wr.heap.size + 2) (g := wr.heap.size) (o := 9) (by omega)).trans (SmC.below hb2); replace rE := rE.mv (SMX2.mv (Nat.le_refl _)); replace K5 := (K5.set 9 (by simp) _).below hb2; replace K6 := (K6.far (c := wr.heap.size) (i := 9) (by omega) _).below hb2; replace BW := bel_after (BW.setCell (p := ⟨wr.heap.size, 9, none⟩) (Nat.le_refl _) _) (by simp [World.setCell]; omega) hb2; have zz2 : w1.heap.size ≤ w2.heap.size := (by simpa [World.setCell] using hb2.size); clear SMX2 hb2; obtain ⟨_, ka2, kb2⟩ := id K5; obtain ⟨_, kc2, kd2⟩ := id K6; clear ka1 kb1 kc1 kd1)
        | (go_at_call 25; (with_reducible refine Calls.mono (hE _ (by exact (HBtrans hb BW hb.size).setCell (p := ⟨wr.heap.size, 10, none⟩) hb.size _)) ?_); rintro e w3 ⟨⟨v', rfl, r0⟩, hb3⟩; have o2 : OwnI 66 6 StR w2.heap.size w3.heap.size w3 v' x.sg.enter := (by have := OwnI.of rmvS r0 (Nat.le_refl _); simpa [World.setCell] using this); clear r0 hE; obtain ⟨ea', ec', rfl⟩ := o2.form; have SMX3 := (SmC.set (lo := wr.heap.size + 2) (g := wr.heap.size) (o := 10) (by omega)).trans (SmC.below hb3); replace rE := rE.mv (SMX3.mv (Nat.le_refl _)); replace o1 := o1.keep rmvT SMX3 (by omega); replace K5 := (K5.set 10 (by simp) _).below hb3; replace K6 := (K6.far (c := wr.heap.size) (i := 10) (by omega) _).below hb3; replace BW := bel_after (BW.setCell (p := ⟨wr.heap.size, 10, none⟩) (Nat.le_refl _) _) (by simp [World.setCell]; omega) hb3; have zz3 : w2.heap.size ≤ w3.heap.size := (by simpa [World.setCell] using hb3.size); clear SMX3 hb3; obtain ⟨_, ka3, kb3⟩ := id K5; obtain ⟨_, kc3, kd3⟩ := id K6; clear ka2 kb2 kc2 kd2)
        | (go_at_call 25; (with_reducible refine Calls.mono (hD _ (by exact (HBtrans hb BW hb.size).setCell (p := ⟨wr.heap.size, 11, none⟩) hb.size _)) ?_); rintro e w4 ⟨⟨v', rfl, r0⟩, hb4⟩; have o3 : OwnI 66 6 StR w3.heap.size w4.heap.size w4 v' x.sg.during := (by have := OwnI.of rmvS r0 (Nat.le_refl _); simpa [World.setCell] using this); clear r0 hD; obtain ⟨da', dc', rfl⟩ := o3.form; have SMX4 := (SmC.set (lo := wr.heap.size + 2) (g := wr.heap.size) (o := 11) (by omega)).trans (SmC.below hb4); replace rE := rE.mv (SMX4.mv (Nat.le_refl _)); replace o1 := o1.keep rmvT SMX4 (by omega); replace o2 := o2.keep rmvS SMX4 (by omega); replace K5 := (K5.set 11 (by simp) _).below hb4; replace K6 := (K6.far (c := wr.heap.size) (i := 11) (by omega) _).below hb4; replace BW := bel_after (BW.setCell (p := ⟨wr.heap.size, 11, none⟩) (Nat.le_refl _) _) (by simp [World.setCell]; omega) hb4; have zz4 : w3.heap.size ≤ w4.heap.size := (by simpa [World.setCell] using hb4.size); clear SMX4 hb4; obtain ⟨_, ka4, kb4⟩ := id K5; obtain ⟨_, kc4, kd4⟩ := id K6; clear ka3 kb3 kc3 kd3)
        | (go_at_call 25; (with_reducible refine Calls.mono (hL _ (by exact (HBtrans hb BW hb.size).setCell (p := ⟨wr.heap.size, 12, none⟩) hb.size _)) ?_); rintro e w5 ⟨⟨v', rfl, r0⟩, hb5⟩; have o4 : OwnI 66 6 StR w4.heap.size w5.heap.size w5 v' x.sg.leave := (by have := OwnI.of rmvS r0 (Nat.le_refl _); simpa [World.setCell] using this); clear r0 hL; obtain ⟨la', lc', rfl⟩ := o4.form; have SMX5 := (SmC.set (lo := wr.heap.size + 2) (g := wr.heap.size) (o := 12) (by omega)).trans (SmC.below hb5); replace rE := rE.mv (SMX5.mv (Nat.le_refl _)); replace o1 := o1.keep rmvT SMX5 (by omega); replace o2 := o2.keep rmvS SMX5 (by omega); replace o3 := o3.keep rmvS SMX5 (by omega); replace K5 := (K5.set 12 (by simp) _).below hb5; replace K6 := (K6.far (c := wr.heap.size) (i := 12) (by omega) _).below hb5; replace BW := bel_after (BW.setCell (p := ⟨wr.heap.size, 12, none⟩) (Nat.le_refl _) _) (by simp [World.setCell]; omega) hb5; have zz5 : w4.heap.size ≤ w5.heap.size := (by simpa [World.setCell] using hb5.size); clear SMX5 hb5; obtain ⟨_, ka5, kb5⟩ := id K5; obtain ⟨_, kc5, kd5⟩ := id K6; clear ka4 kb4 kc4 kd4))
      have N5 : Has ((w5.setCell ⟨wr.heap.size, 13, none⟩ (.slice la' x.sg.leave.length lc')).setCell ⟨wr.heap.size, 14, none⟩ (.slice none 0 0)) wr.heap.size #[.int .i64 x.kind, .int .i64 x.line, .int .i64 x.col, .string x.name, .string x.with_, .int .i64 x.sort, .int .i32 x.n0, .int .i32 x.n1, .int .i32 x.n2, .slice ra x.expr.length rc, .slice ga' x.sg.green.length gc', .slice ea' x.sg.enter.length ec', .slice da' x.sg.during.length dc', .slice la' x.sg.leave.length lc', .slice none 0 0] := by simpa using (K5.set 13 (by simp) (.slice la' x.sg.leave.length lc')).set 14 (by simp) (.slice none 0 0)
      have N6 : Has ((w5.setCell ⟨wr.heap.size, 13, none⟩ (.slice la' x.sg.leave.length lc')).setCell ⟨wr.heap.size, 14, none⟩ (.slice none 0 0)) (wr.heap.size + 1) #[.slice ga x.sg.green.length gc, .slice ea x.sg.enter.length ec, .slice da0 x.sg.during.length dc0, .slice la x.sg.leave.length lc, .slice na x.sg.nexts.length nc] := (K6.far (c := wr.heap.size) (i := 13) (by omega) _).far (c := wr.heap.size) (i := 14) (by omega) _
      have SM5 : SmC (wr.heap.size + 2) w5 ((w5.setCell ⟨wr.heap.size, 13, none⟩ (.slice la' x.sg.leave.length lc')).setCell ⟨wr.heap.size, 14, none⟩ (.slice none 0 0)) := (SmC.set (by omega)).trans (SmC.set (by omega))
      replace rE := rE.mv (SM5.mv (Nat.le_refl _))
      replace o1 := o1.keep rmvT SM5 (by omega)
      replace o2 := o2.keep rmvS SM5 (by omega)
      replace o3 := o3.keep rmvS SM5 (by omega)
      replace o4 := o4.keep rmvS SM5 (by omega)
      have BWV : Below wr.heap.size wr ((w5.setCell ⟨wr.heap.size, 13, none⟩ (.slice la' x.sg.leave.length lc')).setCell ⟨wr.heap.size, 14, none⟩ (.slice none 0 0)) := (BW.setCell (p := ⟨wr.heap.size, 13, none⟩) (Nat.le_refl _) _).setCell (p := ⟨wr.heap.size, 14, none⟩) (Nat.le_refl _) _
      have zV : w5.heap.size ≤ ((w5.setCell ⟨wr.heap.size, 13, none⟩ (.slice la' x.sg.leave.length lc')).setCell ⟨wr.heap.size, 14, none⟩ (.slice none 0 0)).heap.size := by simp [World.setCell]
      have zV' : ((w5.setCell ⟨wr.heap.size, 13, none⟩ (.slice la' x.sg.leave.length lc')).setCell ⟨wr.heap.size, 14, none⟩ (.slice none 0 0)).heap.size ≤ w5.heap.size := by simp [World.setCell]
      clear K5 K6 BW SM5 ka5 kb5 kc5 kd5
      generalize ((w5.setCell ⟨wr.heap.size, 13, none⟩ (.slice la' x.sg.leave.length lc')).setCell ⟨wr.heap.size, 14, none⟩ (.slice none 0 0)) = V at *
      obtain ⟨U, hU⟩ : ∃ U, U = wr := ⟨_, rfl⟩
      subst hU
      go_loopw [7] (fun t7 wr => ∃ (n : Nat) (v5 : Value) (ys : List Value), n ≤ x.sg.nexts.length ∧ t7 = .int .i64 (n : Int) ∧ Hid (wr.ownsRow w5.heap.size 56 4 v5 n ys) ∧ Hid (Els 4 NxR (Sx w5.heap.size v5) wr ys (x.sg.nexts.take n)) ∧ Hid (Has wr U.heap.size #[.int .i64 x.kind, .int .i64 x.line, .int .i64 x.col, .string x.name, .string x.with_, .int .i64 x.sort, .int .i32 x.n0, .int .i32 x.n1, .int .i32 x.n2, .slice ra x.expr.length rc, .slice ga' x.sg.green.length gc', .slice ea' x.sg.enter.length ec', .slice da' x.sg.during.length dc', .slice la' x.sg.leave.length lc', v5]) ∧ Hid (Has wr (U.heap.size + 1) #[.slice ga x.sg.green.length gc, .slice ea x.sg.enter.length ec, .slice da0 x.sg.during.length dc0, .slice la x.sg.leave.length lc, .slice na x.sg.nexts.length nc]) ∧ Hid (SmC (U.heap.size + 2) V wr) ∧ Below U.heap.size U wr) (fun t _ => x.sg.nexts.length - (intOf t).toNat)
      case atStart => exact ⟨0, _, [], by omega, rfl, World.ownsRow_nil _ _ _ _, Els.nil _ _ _ _, N5, N6, SmC.refl _ _, BWV⟩
      case round =>
        clear N5 N6 BWV
        obtain ⟨n, v5, ys, hn, rfl, ow5, el5, M5, M6, SMV, BW⟩ := hrel
        have hbr : Below w.heap.size w wr := HBtrans hb BW hb.size
        obtain ⟨y1, y2, y3⟩ := id M5.out
        obtain ⟨y4, y5, y6⟩ := id M6.out
        have hVw : w5.heap.size ≤ wr.heap.size := Nat.le_trans zV SMV.out.size
        by_cases hlt2 : n < x.sg.nexts.length
        · obtain ⟨g2, o2', rfl, _, hg2, P2⟩ := nk.resolve_left (by intro e; rw [e] at hlt2; simp at hlt2)
          obtain ⟨cs2, _, ⟨v, rfl, vN⟩, p⟩ := P2 n hlt2
          have hF2 := fun (W : World) (hW : Below w.heap.size w W) => copyNodes_any x.sg.nexts[n].cnd _ S1 W (vN.below hW)
          obtain ⟨va2, vc2, rfl, -, -⟩ := Rows.any vN
          have q0 := (hbr.cell (p := ⟨g2, _, none⟩) hg2).trans (p 0 _ rfl)
          have q1 := (hbr.cell (p := ⟨g2, _, none⟩) hg2).trans (p 1 _ rfl)
          have q2 := (hbr.cell (p := ⟨g2, _, none⟩) hg2).trans (p 2 _ rfl)
          have q3 := (hbr.cell (p := ⟨g2, _, none⟩) hg2).trans (p 3 _ rfl)
          have s1 : (n : Int) < (x.sg.nexts.length : Int) := by omega
          have s0 : (0 : Int) ≤ (n : Int) := by omega
          have s2 : n + 1 ≤ x.sg.nexts.length := hlt2
          have hx2 : x.sg.nexts.take (n + 1) = x.sg.nexts.take n ++ [x.sg.nexts[n]] := take_push hlt2
          clear p P2 vN nk p0 p1 p2 p3 p4 p5 p6 p7 p8 p9 p10 p11 p12 p13 p14 f1 f2 f2' f3 f4
          simp only [Nat.add_zero] at q0
          have m1 : ¬ U.heap.size = wr.heap.size := by omega
          have m2 : ¬ U.heap.size + 1 = wr.heap.size := by omega
          generalize x.sg.nexts[n] = y at *
          go_wp2_with (first
            | (go_at_call 15; (with_reducible refine Calls.mono (hF2 _ (by exact hbr.alloc hbr.size _)) ?_); rintro e w6 ⟨⟨v', rfl, r0⟩, hb6⟩; have r6 := r0.mv (S' := fun b => wr.heap.size + 1 ≤ b) (Mv.weak fun b _ hbb => (by simpa using hbb)); clear r0; have q7 := r6; obtain ⟨ya, yc, rfl, -, -⟩ := Rows.any q7; clear q7; have K8 := (Has.new wr _ _ rfl).below hb6; obtain ⟨kz, e1, e2⟩ := id K8; have B6 : Below wr.heap.size wr w6 := bel_after ((Below.refl _ _).alloc (Nat.le_refl _) _) (by simp) hb6; have T5 := M5.out.below B6; have T6 := M6.out.below B6; obtain ⟨_, e3, e4⟩ := id T5; obtain ⟨_, e5, e6⟩ := id T6; have b6s := B6.size; clear hF2 hb6)
            | (at_builtin; refine wpList_append_mine _ rfl _ _ 49 rfl w5.heap.size 56 i3 _ 4 56 Tryd.underlying49 hj hj0 hj1 hj2 rfl (by decide) v5 n ys rfl (own_bel ow5.out ((B6.setCell (p := ⟨wr.heap.size, 1, none⟩) (Nat.le_refl _) _).alloc (by simp [World.setCell]; omega) _)) ⟨w6.heap.size, 0, none⟩ 1 1 [.string y.dst, .slice ya y.cnd.length yc, .int .i64 y.line, .int .i64 y.col] rfl rfl (cells_at (W := w6.setCell _ _) (by simp [World.setCell]) _ _) (all_one rfl) (by decide) (by unfold maxLen; omega) (by omega) (by simp [World.setCell]; omega) ?_; intro g' c' w7 own' hg' hat' _ hcap'; have R5 := ((T5.far (c := wr.heap.size) (i := 1) (by omega) _).alloc _).blk hg'.size (hg'.block _ (by simp [World.setCell]; omega) (by intro e; have := (own_lt ow5.out _ e.symm).1; omega)); have R6 := ((T6.far (c := wr.heap.size) (i := 1) (by omega) _).alloc _).blk hg'.size (hg'.block _ (by simp [World.setCell]; omega) (by intro e; have := (own_lt ow5.out _ e.symm).1; omega)); obtain ⟨_, e7, e8⟩ := id R5))
          go_roundw
          case rel =>
            have BWn : Below wr.heap.size wr ((w6.setCell ⟨wr.heap.size, 1, none⟩ (.slice ya y.cnd.length yc)).alloc (.cells #[.string y.dst, .slice ya y.cnd.length yc, .int .i64 y.line, .int .i64 y.col] 56)) := (B6.setCell (p := ⟨wr.heap.size, 1, none⟩) (Nat.le_refl _) _).alloc (by simp [World.setCell]; omega) _
            have MVa : Mv (Sx w5.heap.size v5) ((w6.setCell ⟨wr.heap.size, 1, none⟩ (.slice ya y.cnd.length yc)).alloc (.cells #[.string y.dst, .slice ya y.cnd.length yc, .int .i64 y.line, .int .i64 y.col] 56)) (Sx w5.heap.size (.slice (some ⟨g', 0, none⟩) (n + 1) c')) w7 := Mv.app hg' hat'
            have MVs : Mv (Sx w5.heap.size (.slice (some ⟨g', 0, none⟩) (n + 1) c')) w7 (Sx w5.heap.size (.slice (some ⟨g', 0, none⟩) (n + 1) c')) (w7.setCell ⟨U.heap.size, 14, none⟩ (.slice (some ⟨g', 0, none⟩) (n + 1) c')) := Mv.set (fun h => absurd h.1 (by omega))
            have MVr := ((Mv.below (S := Sx w5.heap.size v5) BWn).trans MVa).trans MVs
            have rV : Exs (Sx w5.heap.size v5) ((w6.setCell ⟨wr.heap.size, 1, none⟩ (.slice ya y.cnd.length yc)).alloc (.cells #[.string y.dst, .slice ya y.cnd.length yc, .int .i64 y.line, .int .i64 y.col] 56)) (.slice ya y.cnd.length yc) y.cnd := r6.mv ((Mv.set (g := wr.heap.size) (o := 1) (by intro h; have h' : wr.heap.size + 1 ≤ wr.heap.size := h; omega)).trans ((Mv.below ((Below.refl _ _).alloc (Nat.le_refl _) _)).trans (Mv.weak fun b _ (hbb : wr.heap.size + 1 ≤ b) => ⟨by omega, by intro e; have := (own_lt ow5.out b e).2; omega⟩)))
            have HB7 : Below U.heap.size U w7 := grown_bel (HBtrans BW BWn BW.size) hg' (Nat.le_refl _) (fun j hj => (by have := (own_lt ow5.out j hj).1; omega))
            have SMF : SmC (U.heap.size + 2) V (w7.setCell ⟨U.heap.size, 14, none⟩ (.slice (some ⟨g', 0, none⟩) (n + 1) c')) := by
              refine ⟨?_, fun k h1 h2 => ?_⟩
              · have h3 := SMV.out.size; have h4 := BWn.size; have h5 := hg'.size; simp [World.setCell] at h4 h5 ⊢; omega
              · have h3 := SMV.out.size
                rw [show (w7.setCell ⟨U.heap.size, 14, none⟩ (.slice (some ⟨g', 0, none⟩) (n + 1) c')).heap[k]? = w7.heap[k]? from Below.heap_setCell _ _ _ _ (by show k ≠ U.heap.size; omega)]
                rw [hg'.block k (by have := BWn.size; omega) (by intro e; have := (own_lt ow5.out k e.symm).1; exact absurd (show V.heap.size ≤ w5.heap.size from zV') (by omega)), BWn.block k (by omega), SMV.out.block k h1 h2]
            exact ⟨n + 1, _, _, by omega, by go_num, own_keepA own' (fun g hg => by
              have hg2 : g = g' := by injection hg with h; exact h.symm
              subst hg2
              exact Below.heap_setCell _ _ _ _ (by
                show g ≠ U.heap.size
                rcases hat' with h | h
                · have := (own_lt ow5.out _ h).1; omega
                · simp [World.setCell] at h; omega)), by
                  show Els _ _ _ _ _ _
                  rw [hx2]
                  exact Els.push (mx := 0) (Els.mv (mx := 0) el5.out (fun _ _ h => h.mv MVr)) rfl ⟨_, rfl, (rV.mv MVa).mv MVs⟩, R5.set 14 (by simp) _, R6.far (by omega) _, SMF, HB7.setCell (p := ⟨U.heap.size, 14, none⟩) (Nat.le_refl _) _⟩
          case measure => simp [intOf]; omega
        · have s1 : ¬ (n : Int) < (x.sg.nexts.length : Int) := by omega
          obtain rfl : n = x.sg.nexts.length := by omega
          have ow0 := ow5.out
          have el0 := el5.out
          rw [List.take_length] at el0
          obtain ⟨na', nc', rfl⟩ := own_form ow0
          have o5 : OwnI 56 4 NxR w5.heap.size wr.heap.size wr (.slice na' x.sg.nexts.length nc') x.sg.nexts := OwnI.of rmvX ⟨ys, ow0, el0⟩ (Nat.le_refl _)
          have dO : DcO (U.heap.size + 2) wr.heap.size wr [.int .i64 x.kind, .int .i64 x.line, .int .i64 x.col, .string x.name, .string x.with_, .int .i64 x.sort, .int .i32 x.n0, .int .i32 x.n1, .int .i32 x.n2, .slice ra x.expr.length rc, .slice ga' x.sg.green.length gc', .slice ea' x.sg.enter.length ec', .slice da' x.sg.during.length dc', .slice la' x.sg.leave.length lc', .slice na' x.sg.nexts.length nc'] x := ⟨_, ⟨_, _, _, _, _⟩, w1.heap.size, w2.heap.size, w3.heap.size, w4.heap.size, w5.heap.size, rfl, ⟨by omega, by omega, by omega, by omega, by omega, by omega⟩, rE.mv (SMV.out.mv (Nat.le_refl _)), o1.keep rmvT SMV.out (by omega), o2.keep rmvS SMV.out (by omega), o3.keep rmvS SMV.out (by omega), o4.keep rmvS SMV.out (by omega), o5⟩
          have I1 := J1.out.below BW
          have I2 := J2.out.below BW
          have I3 := J3.out.below BW
          obtain ⟨_, l1, l2⟩ := id I3
          have bws := BW.size
          clear nk ow5 el5 ow0 el0 SMV rE o1 o2 o3 o4 o5 p0 p1 p2 p3 p4 p5 p6 p7 p8 p9 p10 p11 p12 p13 p14 f1 f2 f2' f3 f4 J1 J2 J3
          go_wp2_with (at_builtin; refine wpList_append_mine _ rfl _ _ 22 rfl (w.heap.size + 3) 53 i0 _ 15 224 Tryd.underlying22 hi hi0 hi1 hi2 rfl (by decide) vd k xs rfl (own_bel own.out (BW.alloc BW.size _)) ⟨wr.heap.size, 0, none⟩ 1 1 [.int .i64 x.kind, .int .i64 x.line, .int .i64 x.col, .string x.name, .string x.with_, .int .i64 x.sort, .int .i32 x.n0, .int .i32 x.n1, .int .i32 x.n2, .slice ra x.expr.length rc, .slice ga' x.sg.green.length gc', .slice ea' x.sg.enter.length ec', .slice da' x.sg.during.length dc', .slice la' x.sg.leave.length lc', .slice na' x.sg.nexts.length nc'] rfl rfl (cells_at (W := wr) rfl _ _) (all_one rfl) (by decide) (by unfold maxLen; omega) (by omega) (by simp; omega) ?_; intro g' c' w8 own' hg' hat' _ hcap'; have Q1 := (I1.alloc _).blk hg'.size (hg'.block _ (by simp; omega) (by intro e; have := (own_lt own.out _ e.symm).1; omega)); have Q2 := (I2.alloc _).blk hg'.size (hg'.block _ (by simp; omega) (by intro e; have := (own_lt own.out _ e.symm).1; omega)); have Q3 := (I3.alloc _).blk hg'.size (hg'.block _ (by simp; omega) (by intro e; have := (own_lt own.out _ e.symm).1; omega)); obtain ⟨_, l3, l4⟩ := id Q3)
          go_roundw
          case rel =>
            have BWn : Below wr.heap.size wr (wr.alloc (.cells #[.int .i64 x.kind, .int .i64 x.line, .int .i64 x.col, .string x.name, .string x.with_, .int .i64 x.sort, .int .i32 x.n0, .int .i32 x.n1, .int .i32 x.n2, .slice ra x.expr.length rc, .slice ga' x.sg.green.length gc', .slice ea' x.sg.enter.length ec', .slice da' x.sg.during.length dc', .slice la' x.sg.leave.length lc', .slice na' x.sg.nexts.length nc'] 53)) := (Below.refl _ _).alloc (Nat.le_refl _) _
            have hF8 : ∀ j, j < wr.heap.size → vd.ownBlock ≠ some j → j ≠ w.heap.size + 1 + 1 → (w8.setCell ⟨w.heap.size + 1 + 1, 1, none⟩ (.slice (some ⟨g', 0, none⟩) (k + 1) c')).heap[j]? = wr.heap[j]? := by
              intro j h1 h2 h3
              rw [show (w8.setCell ⟨w.heap.size + 1 + 1, 1, none⟩ (.slice (some ⟨g', 0, none⟩) (k + 1) c')).heap[j]? = w8.heap[j]? from Below.heap_setCell _ _ _ _ h3, hg'.block j (by have := BWn.size; omega) (fun e => h2 e.symm), BWn.block j h1]
            have hs8 : wr.heap.size + 1 ≤ (w8.setCell ⟨w.heap.size + 1 + 1, 1, none⟩ (.slice (some ⟨g', 0, none⟩) (k + 1) c')).heap.size := by
              have h5 := hg'.size; simp [World.setCell] at h5 ⊢; omega
            have hat2 : vd.ownBlock = some g' ∨ wr.heap.size + 1 ≤ g' := hat'.imp id (fun h => by simpa using h)
            have hdb : ∀ g, vd.ownBlock = some g → w.heap.size + 3 ≤ g ∧ g < U.heap.size := own_lt own.out
            have HB8 : Below w.heap.size w w8 := grown_bel (HBtrans hbr BWn hbr.size) hg' (Nat.le_refl _) (fun j hj => (by have := (hdb j hj).1; omega))
            obtain ⟨⟨pr1, pr2, pr3⟩, pr4⟩ := pre.out
            have hxl : xs.length = k * 15 := own.out.1
            refine ⟨k + 1, _, _, (fun i => if i = k then U.heap.size + 2 else lo i), (fun i => if i = k then wr.heap.size else hi' i), by omega, by go_num, own_keepA own' (fun g hg => by
              have hg2 : g = g' := by injection hg with h; exact h.symm
              subst hg2
              exact Below.heap_setCell _ _ _ _ (by
                show g ≠ w.heap.size + 1 + 1
                rcases hat2 with h | h
                · have := (hdb _ h).1; omega
                · omega)), ⟨⟨fun i hik => ?_, fun i j hij hjk => ?_, fun i hiL hik => ?_⟩, fun i hik => ?_⟩, Q1.far (by omega) _, Q2.far (by omega) _, Q3.set 1 (by simp) _, HB8.setCell (p := ⟨w.heap.size + 1 + 1, 1, none⟩) (by simp; omega) _⟩
            · by_cases e : i = k
              · simp only [e, if_true]
                refine ⟨by omega, by omega, fun g hg => ?_⟩
                have hg2 : g = g' := by injection hg with h; exact h.symm
                rw [hg2]
                rcases hat2 with h | h
                · left; have := (hdb _ h).2; omega
                · right; omega
              · simp only [e, if_false]
                obtain ⟨a1, a2, a3⟩ := pr1 i (by omega)
                refine ⟨a1, by omega, fun g hg => ?_⟩
                have hg2 : g = g' := by injection hg with h; exact h.symm
                rw [hg2]
                rcases hat2 with h | h
                · exact a3 g' h
                · right; omega
            · have e : i ≠ k := by omega
              simp only [e, if_false]
              by_cases e2 : j = k
              · simp only [e2, if_true]
                have := (pr1 i (by omega)).2.1; omega
              · simp only [e2, if_false]
                exact pr2 i j hij (by omega)
            · by_cases e : i = k
              · subst e
                simp only [if_true]
                refine ⟨[.int .i64 x.kind, .int .i64 x.line, .int .i64 x.col, .string x.name, .string x.with_, .int .i64 x.sort, .int .i32 x.n0, .int .i32 x.n1, .int .i32 x.n2, .slice ra x.expr.length rc, .slice ga' x.sg.green.length gc', .slice ea' x.sg.enter.length ec', .slice da' x.sg.during.length dc', .slice la' x.sg.leave.length lc', .slice na' x.sg.nexts.length nc'], rfl, ?_, fun j hj => ?_⟩
                · rw [hLk]
                  exact dO.far (by omega) (fun q h1 h2 h3 => hF8 q h3 (by intro e; have := (hdb _ e).2; omega) (by omega))
                · rw [List.getElem?_append_right (by omega), hxl]; congr 1; omega
              · simp only [e, if_false]
                obtain ⟨cs, c1, c2, c3⟩ := pr3 i hiL (by omega)
                obtain ⟨a1, a2, a3⟩ := pr1 i (by omega)
                have a4 := pr4 i (by omega)
                refine ⟨cs, c1, c2.far (by omega) (fun q h1 h2 h3 => (hF8 q (by omega) (by intro e; rcases a3 q e with h | h <;> omega) (by omega)).trans (BW.block q h3)), fun j hj => ?_⟩
                rw [List.getElem?_append_left (by omega)]; exact c3 j hj
            · by_cases e : i = k
              · simp only [e, if_true]; omega
              · simp only [e, if_false]; exact pr4 i (by omega)
          case measure => simp [intOf]; omega
    · have t1 : ¬ (k : Int) < (L.length : Int) := by omega
      obtain rfl : k = L.length := by omega
      have own0 := own.out
      obtain ⟨d0a, d0c, rfl⟩ := own_form own0
      clear dk own J1 J2 J3
      go_wp2
      have MVg : SmC (w.heap.size + 2) wr (setCells wr (w.heap.size + 1) 0 [.string pn, .slice d0a L.length d0c]) := SmC.cells (by omega) _ _ _
      obtain ⟨⟨pr1, pr2, pr3⟩, pr4⟩ := pre.out
      refine bodyPost_ret (v := .agg #[.string pn, .slice d0a L.length d0c]) (by simp [results, Tryd.results13, go_sem, f2]) rfl ⟨⟨_, rfl, xs, lo, hi', own_keepA own0 (fun g hg => MVg.block g (by have := (own_lt own0 g hg).1; omega) (own_lt own0 g hg).2), ⟨fun i h => ?_, pr2, fun i h1 h2 => ?_⟩, pr4⟩, below_cells (by omega) [.string pn, .slice d0a L.length d0c] wr 0 hb⟩
      · obtain ⟨a1, a2, a3⟩ := pr1 i h; exact ⟨a1, Nat.le_trans a2 MVg.size, a3⟩
      · obtain ⟨cs, c1, c2, c3⟩ := pr3 i h1 h2
        exact ⟨cs, c1, c2.keep MVg (by have := pr4 i h2; omega), c3⟩
end Go.Proofs.YthjdflcakngpiaaDoor
