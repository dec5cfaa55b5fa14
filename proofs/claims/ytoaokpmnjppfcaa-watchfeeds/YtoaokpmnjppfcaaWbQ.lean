import Derived.Deep.DeepCutAuto
import Derived.Test.YtoaokpmnjppfcaaWbNOP
namespace Go.Proofs.Ytoaokpmnjppfcaa
open Go.RowKit
set_option linter.unusedVariables false
set_option linter.unusedSimpArgs false
set_option maxRecDepth 100000 in
set_option maxHeartbeats 4000000 in
theorem feeds_tt (G G' : List Gp) (C C' : List Cf) (S : List Oq) (vg vc vg' vc' vs : Value) (w : World) (h1 : Fl 5 Gp.cs w vg G) (h2 : Fl 4 Cf.cs w vc C) (h3 : Fl 5 Gp.cs w vg' G') (h4 : Fl 4 Cf.cs w vc' C') (h5 : Fl 3 Oq.cs w vs S) (lG : G.length ≤ 2932031007317) (lC : C.length ≤ 4398046511000) (lG' : G'.length ≤ 2932031007317) (lC' : C'.length ≤ 4398046511000) (lS : S.length ≤ 4398046511000) (hg : gridB G C = true) (hg' : gridB G' C' = true) :
    Calls Try.prog 3 #[.agg #[vg, vc], .agg #[vg', vc'], vs] w fun e w' => e = .returned (.bool true) ∧ Below w.heap.size w w' := by
  have c5 := fun (W : World) (hW : Below w.heap.size w W) => copied_any G C vg vc W (h1.below hW) (h2.below hW) lG lC
  have c5' := fun (W : World) (hW : Below w.heap.size w W) => copied_any G' C' vg' vc' W (h3.below hW) (h4.below hW) lG' lC'
  have c7 := fun (W : World) (hW : Below w.heap.size w W) => newR_good G C vg vc W (h1.below hW) (h2.below hW) lG lC hg
  have c7' := fun (W : World) (hW : Below w.heap.size w W) => newR_good G' C' vg' vc' W (h3.below hW) (h4.below hW) lG' lC' hg'
  have c6 := fun (W : World) (a1 a2 : Option Addr) (c1 c2 B1 B2 : Nat) (o1 : W.ownsRow B1 66 5 (.slice a1 G.length c1) G.length (cellsF Gp.cs G)) (o2 : W.ownsRow B2 68 4 (.slice a2 C.length c2) C.length (cellsF Cf.cs C)) => new_good G C _ _ W (fl_owned gp_len o1) (fl_owned cf_len o2) lG lC hg
  have c6' := fun (W : World) (a1 a2 : Option Addr) (c1 c2 B1 B2 : Nat) (o1 : W.ownsRow B1 66 5 (.slice a1 G'.length c1) G'.length (cellsF Gp.cs G')) (o2 : W.ownsRow B2 68 4 (.slice a2 C'.length c2) C'.length (cellsF Cf.cs C')) => new_good G' C' _ _ W (fl_owned gp_len o1) (fl_owned cf_len o2) lG' lC' hg'
  have c8 := fun (W : World) (a1 a2 : Option Addr) (c1 c2 : Nat) (o1 : W.ownsRow 0 66 5 (.slice a1 G.length c1) G.length (cellsF Gp.cs G)) (o2 : W.ownsRow 0 68 4 (.slice a2 C.length c2) C.length (cellsF Cf.cs C)) ne => blot_any rfl rfl o1 o2 ne lG lC
  have c8' := fun (W : World) (a1 a2 : Option Addr) (c1 c2 : Nat) (o1 : W.ownsRow 0 66 5 (.slice a1 G'.length c1) G'.length (cellsF Gp.cs G')) (o2 : W.ownsRow 0 68 4 (.slice a2 C'.length c2) C'.length (cellsF Cf.cs C')) ne => blot_any rfl rfl o1 o2 ne lG' lC'
  obtain ⟨tj, hj, hjx⟩ := Option.map_eq_some_iff.1 info39
  have hj0 : tj.zero = some (.slice none 0 0) := congrArg (·.1) hjx
  have hj1 : tj.size = 1 := congrArg (·.2.1) hjx
  have hj2 : tj.bytes = 24 := congrArg (·.2.2) hjx
  obtain ⟨ga, gc, rfl, -⟩ := h1.any
  obtain ⟨ca, qc, rfl, -⟩ := h2.any
  obtain ⟨ga', gc', rfl, -⟩ := h3.any
  obtain ⟨ca', qc', rfl, -⟩ := h4.any
  obtain ⟨sa, sc, rfl, kS⟩ := h5.any
  obtain ⟨n, hn⟩ : ∃ n, G.length = n := ⟨_, rfl⟩
  obtain ⟨m, hm⟩ : ∃ m, C.length = m := ⟨_, rfl⟩
  obtain ⟨n', hn'⟩ : ∃ n, G'.length = n := ⟨_, rfl⟩
  obtain ⟨m', hm'⟩ : ∃ m, C'.length = m := ⟨_, rfl⟩
  obtain ⟨NS, hNS⟩ : ∃ m, S.length = m := ⟨_, rfl⟩
  rw [hn, hm] at c5 c7 c6 c8
  rw [hn', hm'] at c5' c7' c6' c8'
  rw [hn, hm, hn', hm', hNS]
  rw [hNS] at lS
  have hNS' : Hid (S.length = NS) := hNS
  have lCh : Hid (C.length ≤ 4398046511000) := lC
  have lCh' : Hid (C'.length ≤ 4398046511000) := lC'
  have kn : Hid (G.length = n) := hn
  have km : Hid (C.length = m) := hm
  have kn' : Hid (G'.length = n') := hn'
  have km' : Hid (C'.length = m') := hm'
  clear h1 h2 h3 h4 h5 hn hm hn' hm' hNS lG lC lG' lC'
  have BE : Below w.heap.size w ((w.alloc (.cells #[.slice ga n gc, .slice ca m qc] 25)).alloc (.cells #[.slice ga' n' gc', .slice ca' m' qc'] 25)) := belA
  have XT : Has ((w.alloc (.cells #[.slice ga n gc, .slice ca m qc] 25)).alloc (.cells #[.slice ga' n' gc', .slice ca' m' qc'] 25)) w.heap.size #[.slice ga n gc, .slice ca m qc] := (Has.new _ _ _ rfl).alloc _
  have XU : Has ((w.alloc (.cells #[.slice ga n gc, .slice ca m qc] 25)).alloc (.cells #[.slice ga' n' gc', .slice ca' m' qc'] 25)) (w.heap.size + 1) #[.slice ga' n' gc', .slice ca' m' qc'] := Has.new _ _ _ (by simp)
  go_enter Try.func3, Try.ntmps3
  go_upto_region 1 with fail
  generalize ((w.alloc (.cells #[.slice ga n gc, .slice ca m qc] 25)).alloc (.cells #[.slice ga' n' gc', .slice ca' m' qc'] 25)) = V0 at *
  obtain ⟨_, i1, _⟩ := id XT
  go_upto_region 2 with (go_at_call 5; (with_reducible refine Calls.mono (c5 _ BE) ?_); rintro e w1 ⟨⟨a1, c1, a2, c2, rfl, hCp⟩, hb⟩)
  have oA1 := hCp.g
  have oA2 := hCp.c
  have nA := hCp.ne
  rw [kn.out] at oA1
  rw [km.out] at oA2
  have qA1 := fun q hq => own_lt oA1 q hq
  have qA2 := fun q hq => own_lt oA2 q hq
  have zV0 := XU.1
  have zA := hb.size
  replace BE := BE.trans (hb.mono BE.size)
  replace XT := XT.below hb
  replace XU := XU.below hb
  clear hb hCp i1 c5
  have hbx : Below w1.heap.size w1 (w1.alloc (.cells #[.slice a1 n c1, .slice a2 m c2] 25)) := belN1
  have XA : Has (w1.alloc (.cells #[.slice a1 n c1, .slice a2 m c2] 25)) w1.heap.size #[.slice a1 n c1, .slice a2 m c2] := Has.new _ _ _ rfl
  replace BE := BE.trans (hbx.mono BE.size)
  replace XT := XT.below hbx
  replace XU := XU.below hbx
  replace oA1 := own_bel oA1 hbx
  replace oA2 := own_bel oA2 hbx
  clear hbx
  have zA1 : (w1.alloc (.cells #[.slice a1 n c1, .slice a2 m c2] 25)).heap.size = w1.heap.size + 1 := by simp
  generalize w1.heap.size = pA at *
  generalize (w1.alloc (.cells #[.slice a1 n c1, .slice a2 m c2] 25)) = V1 at *
  obtain ⟨_, i1, _⟩ := id XU
  go_upto_region 3 with (go_at_call 5; (with_reducible refine Calls.mono (c5' _ BE) ?_); rintro e w2 ⟨⟨a3, c3, a4, c4, rfl, hCp⟩, hb⟩)
  have oB1 := hCp.g
  have oB2 := hCp.c
  have nB := hCp.ne
  rw [kn'.out] at oB1
  rw [km'.out] at oB2
  have qB1 := fun q hq => own_lt oB1 q hq
  have qB2 := fun q hq => own_lt oB2 q hq
  have zB := hb.size
  replace BE := BE.trans (hb.mono BE.size)
  replace XT := XT.below hb
  replace XU := XU.below hb
  replace oA1 := own_bel oA1 hb
  replace oA2 := own_bel oA2 hb
  replace XA := XA.below hb
  clear hb hCp i1 c5'
  have hbx : Below w2.heap.size w2 (w2.alloc (.cells #[.slice a3 n' c3, .slice a4 m' c4] 25)) := belN1
  have XB : Has (w2.alloc (.cells #[.slice a3 n' c3, .slice a4 m' c4] 25)) w2.heap.size #[.slice a3 n' c3, .slice a4 m' c4] := Has.new _ _ _ rfl
  replace BE := BE.trans (hbx.mono BE.size)
  replace XT := XT.below hbx
  replace XU := XU.below hbx
  replace oA1 := own_bel oA1 hbx
  replace oA2 := own_bel oA2 hbx
  replace XA := XA.below hbx
  replace oB1 := own_bel oB1 hbx
  replace oB2 := own_bel oB2 hbx
  clear hbx
  have zB1 : (w2.alloc (.cells #[.slice a3 n' c3, .slice a4 m' c4] 25)).heap.size = w2.heap.size + 1 := by simp
  generalize w2.heap.size = pB at *
  generalize (w2.alloc (.cells #[.slice a3 n' c3, .slice a4 m' c4] 25)) = V2 at *
  obtain ⟨_, i1, _⟩ := id XA
  go_upto_region 4 with (go_at_call 6; (with_reducible refine Calls.mono (c6 _ _ _ _ _ _ _ oA1 oA2) ?_); rintro e w3 ⟨⟨b1, B1, mg1, mc1, rfl, M1⟩, hb⟩)
  replace BE := BE.trans (hb.mono BE.size)
  replace XT := XT.below hb
  replace XU := XU.below hb
  replace oA1 := own_bel oA1 hb
  replace oA2 := own_bel oA2 hb
  replace XA := XA.below hb
  replace oB1 := own_bel oB1 hb
  replace oB2 := own_bel oB2 hb
  replace XB := XB.below hb
  have s3 := hb.size
  clear hb i1 c6
  obtain ⟨_, i1, _⟩ := id XB
  go_upto_region 5 with (go_at_call 6; (with_reducible refine Calls.mono (c6' _ _ _ _ _ _ _ oB1 oB2) ?_); rintro e w4 ⟨⟨b3, B3, mg2, mc2, rfl, M2⟩, hb⟩)
  replace BE := BE.trans (hb.mono BE.size)
  replace XT := XT.below hb
  replace XU := XU.below hb
  replace oA1 := own_bel oA1 hb
  replace oA2 := own_bel oA2 hb
  replace XA := XA.below hb
  replace oB1 := own_bel oB1 hb
  replace oB2 := own_bel oB2 hb
  replace XB := XB.below hb
  replace M1 := M1.below hb
  have s4 := hb.size
  clear hb i1 c6'
  obtain ⟨_, i1, _⟩ := id XT
  go_upto_region 6 with (go_at_call 7; (with_reducible refine Calls.mono (c7 _ BE) ?_); rintro e w5 ⟨⟨b2, rb1, rg1, rc1, rn1, rfl, R1, f1⟩, hb⟩)
  replace BE := BE.trans (hb.mono BE.size)
  replace XT := XT.below hb
  replace XU := XU.below hb
  replace oA1 := own_bel oA1 hb
  replace oA2 := own_bel oA2 hb
  replace XA := XA.below hb
  replace oB1 := own_bel oB1 hb
  replace oB2 := own_bel oB2 hb
  replace XB := XB.below hb
  replace M1 := M1.below hb
  replace M2 := M2.below hb
  have s5 := hb.size
  clear hb i1 c7
  obtain ⟨_, i1, _⟩ := id XU
  go_upto_region 7 with (go_at_call 7; (with_reducible refine Calls.mono (c7' _ BE) ?_); rintro e w6 ⟨⟨b4, rb2, rg2, rc2, rn2, rfl, R2, f2⟩, hb⟩)
  replace BE := BE.trans (hb.mono BE.size)
  replace XT := XT.below hb
  replace XU := XU.below hb
  replace oA1 := own_bel oA1 hb
  replace oA2 := own_bel oA2 hb
  replace XA := XA.below hb
  replace oB1 := own_bel oB1 hb
  replace oB2 := own_bel oB2 hb
  replace XB := XB.below hb
  replace M1 := M1.below hb
  replace M2 := M2.below hb
  replace R1 := R1.below hb
  have s6 := hb.size
  clear hb i1 c7'
  obtain ⟨_, i1, _⟩ := id XA
  obtain ⟨_, i2, _⟩ := id XB
  have sB := XB.1
  have sA := XA.1
  have sw := BE.size
  go_upto_region 10 with (go_at_call 8; (with_reducible refine Calls.mono (c8 _ _ _ _ _ (own_base oA1 (Nat.zero_le _)) (own_base oA2 (Nat.zero_le _)) nA) ?_); rintro e w7 ⟨rfl, oo1⟩)
  have dA : ∀ q, ((Value.slice a1 n c1).ownBlock = some q ∨ (Value.slice a2 m c2).ownBlock = some q) → w.heap.size ≤ q ∧ q < pA := fun q e => e.elim (fun e => by have := qA1 q e; omega) (fun e => by have := qA2 q e; omega)
  have dB : ∀ q, ((Value.slice a3 n' c3).ownBlock = some q ∨ (Value.slice a4 m' c4).ownBlock = some q) → pA < q ∧ q < pB := fun q e => e.elim (fun e => by have := qB1 q e; omega) (fun e => by have := qB2 q e; omega)
  have XB7 := XB.only oo1 (fun e => by have := dA _ e; omega)
  have oB17 := own_only2 oB1 oo1 (fun q hq e => by have := dA _ e; have := dB q (.inl hq); omega)
  have oB27 := own_only2 oB2 oo1 (fun q hq e => by have := dA _ e; have := dB q (.inr hq); omega)
  clear i1 i2
  obtain ⟨_, i1, _⟩ := id XB7
  go_upto_region 11 with (go_at_call 8; (with_reducible refine Calls.mono (c8' _ _ _ _ _ (own_base oB17 (Nat.zero_le _)) (own_base oB27 (Nat.zero_le _)) nB) ?_); rintro e w8 ⟨rfl, oo2⟩)
  have oo : Only (fun q => w.heap.size ≤ q ∧ q < pB) w6 w8 := (oo1.mono (fun q e => by have := dA q e; omega)).trans (oo2.mono (fun q e => by have := dB q e; omega))
  have z8 := oo.size
  have L0 : LI true true w w8 (Rg V2.heap.size w3.heap.size w4.heap.size w5.heap.size) (Rg w3.heap.size w4.heap.size w5.heap.size w6.heap.size) b1 b2 b3 b4 G G' C C' (st0 []) (st0 []) 0 (.slice none 0 0) [] := by
    refine ⟨fun z => ?_, fun z => ?_, ?_, ?_, ?_, Nat.le_refl _, World.ownsRow_nil _ _ _ _, (fun q e => by cases e), (fun e he => by cases he), bel_only BE oo (Nat.le_refl _) (fun q hq c => by omega)⟩
    · exact pr_init (M1.move oo (fun q a b c => by omega) (fun q e => by cases e)) (R1.move oo (fun q e c => by have := f1 q (.inl e); omega) (fun q e c => by have := f1 q (.inr e); omega)) f1 (by omega) (by omega)
    · exact pr_init (M2.move oo (fun q a b c => by omega) (fun q e => by cases e)) (R2.move oo (fun q e c => by have := f2 q (.inl e); omega) (fun q e c => by have := f2 q (.inr e); omega)) f2 (by omega) (by omega)
    · intro q hq
      rcases hq with e | e <;> omega
    · intro q hq
      rcases hq with e | e <;> omega
    · intro q hq hc
      rcases hq with e | e <;> rcases hc with c | c <;> omega
  clear BE XT XU oA1 oA2 XA oB1 oB2 XB M1 M2 R1 R2 c8 c8' nA nB qA1 qA2 qB1 qB2 dA dB oo1 oo2 oo XB7 oB17 oB27 i1 s3 s4 s5 s6 z8 sB sA sw zA zA1 zB zB1 zV0 f1 f2
  go_wp2
  go_loopg [17, 18] NS (fun gk vL v wr => ∃ (i : Nat) (LG : List En) (F1 F2 : Nat → Prop) (st1 st2 : Sta) (la : Option Addr) (lc : Nat), i + gk = NS ∧ v = .int .i64 (i : Int) ∧ vL = .slice la LG.length lc ∧ Hid (LI true true w wr F1 F2 b1 b2 b3 b4 G G' C C' st1 st2 i (.slice la LG.length lc) LG))
  case atStart => exact ⟨0, [], _, _, _, _, none, 0, by omega, rfl, rfl, L0⟩
  case round =>
    clear L0
    obtain ⟨i, LG, F1, F2, st1, st2, la, lc, hi, rfl, rfl, hL⟩ := hrel
    cases gk with
    | zero =>
      have HB : Below wr.heap.size wr wr := Below.refl _ _
      have hbe := hL.out.be
      have p1 := hL.out.p1 rfl
      have ln1 := p1.ln
      have hl1 := fun (W : World) (hW : Below wr.heap.size wr W) => (pair_log (p1.below hW) (by omega)).1
      have hr1 := fun (W : World) (hW : Below wr.heap.size wr W) => (pair_log (p1.below hW) (by omega)).2
      obtain ⟨l1, hl1e⟩ : ∃ l, st1.lg.length = l := ⟨_, rfl⟩
      have hs1 := fun a1 a2 c1 c2 B1 B2 W => same_any st1.lg l1 hl1e a1 a2 c1 c2 B1 B2 W (by omega)
      rw [hl1e] at hl1 hr1
      clear p1 ln1 hl1e
      have p2 := hL.out.p2 rfl
      have ln2 := p2.ln
      have hl2 := fun (W : World) (hW : Below wr.heap.size wr W) => (pair_log (p2.below hW) (by omega)).1
      have hr2 := fun (W : World) (hW : Below wr.heap.size wr W) => (pair_log (p2.below hW) (by omega)).2
      obtain ⟨l2, hl2e⟩ : ∃ l, st2.lg.length = l := ⟨_, rfl⟩
      have hs2 := fun a1 a2 c1 c2 B1 B2 W => same_any st2.lg l2 hl2e a1 a2 c1 c2 B1 B2 W (by omega)
      rw [hl2e] at hl2 hr2
      clear p2 ln2 hl2e
      have hin : ¬ ((i : Int) < (NS : Int)) := by omega
      obtain rfl : i = NS := by omega
      go_wp2_with (first
          | (go_at_call 11; (with_reducible refine Calls.mono (hl1 _ HB) ?_); rintro e x1 ⟨⟨s1, t1, rfl, oL1⟩, hb⟩; replace HB := HB.trans (hb.mono HB.size))
          | (go_at_call 12; (with_reducible refine Calls.mono (hr1 _ HB) ?_); rintro e x2 ⟨⟨s2, t2, rfl, oR1⟩, hb'⟩; replace HB := HB.trans (hb'.mono HB.size); replace oL1 := own_bel oL1 hb')
          | (go_at_call 10; (with_reducible refine Calls.mono (hs1 _ _ _ _ _ _ _ oL1 oR1) ?_); rintro e x3 ⟨rfl, hb''⟩; replace HB := HB.trans (hb''.mono HB.size); clear oL1 oR1 hb hb' hb'')
          | (go_at_call 11; (with_reducible refine Calls.mono (hl2 _ HB) ?_); rintro e x1 ⟨⟨s1, t1, rfl, oL2⟩, hb⟩; replace HB := HB.trans (hb.mono HB.size))
          | (go_at_call 12; (with_reducible refine Calls.mono (hr2 _ HB) ?_); rintro e x2 ⟨⟨s2, t2, rfl, oR2⟩, hb'⟩; replace HB := HB.trans (hb'.mono HB.size); replace oL2 := own_bel oL2 hb')
          | (go_at_call 10; (with_reducible refine Calls.mono (hs2 _ _ _ _ _ _ _ oL2 oR2) ?_); rintro e x3 ⟨rfl, hb''⟩; replace HB := HB.trans (hb''.mono HB.size); clear oL2 oR2 hb hb' hb''))
      go_ret
      exact ⟨rfl, hbe.trans (HB.mono hbe.size)⟩
    | succ gk0 =>
      have hin : (i : Int) < (NS : Int) := by omega
      have hiS : i < S.length := by rw [hNS'.out]; omega
      have hwi : IntKind.i64.wrap ((i : Int) + 1) = (i : Int) + 1 := wrap64 _ (by omega)
      have hwm : IntKind.i64.wrap (1000 + (i : Int)) = 1000 + (i : Int) := wrap64 _ (by omega)
      have hbe := hL.out.be
      obtain ⟨sg, so, esa, hsg, P⟩ := kS.resolve_left (by intro e; rw [e] at hiS; simp at hiS)
      subst esa
      have p0 := P i hiS 0 _ rfl
      have p1 := P i hiS 1 _ rfl
      have p2 := P i hiS 2 _ rfl
      simp only [Nat.add_zero] at p0
      generalize S[i] = o at p0 p1 p2
      obtain ⟨ok, on, oh⟩ := o
      dsimp only at p0 p1 p2
      have y0 := (hbe.cell (p := ⟨sg, so + i * 3, none⟩) hsg).trans p0
      have y1 := (hbe.cell (p := ⟨sg, so + i * 3 + 1, none⟩) hsg).trans p1
      have y2 := (hbe.cell (p := ⟨sg, so + i * 3 + 2, none⟩) hsg).trans p2
      clear P p0 p1 p2 kS
      go_upto_region 17 with fail
      have hkd := kd_ok ok
      have ekd : (RowKit.wrap64 (ok.tmod 8 + 8)).tmod 8 = kdF ok := by
        unfold kdF
        rw [wrap64_id (ok.tmod 8 + 8) (by
          have h1 := Int.tmod_lt_of_pos ok (b := 8) (by decide)
          have h2 := Int.tmod_lt_of_pos (-ok) (b := 8) (by decide)
          rw [Int.neg_tmod] at h2
          omega)]
      rw [ekd]
      generalize kdF ok = kd at *
      have XO : Has (wr.alloc (.cells #[.int .i64 kd, .int .i64 on, .string oh] 38)) wr.heap.size #[.int .i64 kd, .int .i64 on, .string oh] := Has.new _ _ _ rfl
      have hL1 := hL.out.below (belN1 (o1 := .cells #[.int .i64 kd, .int .i64 on, .string oh] 38))
      have hll := hL.out.ll
      clear hL y0 y1 y2 ekd
      generalize wr.heap.size = pO at *
      generalize (wr.alloc (.cells #[.int .i64 kd, .int .i64 on, .string oh] 38)) = V3 at *
      obtain ⟨_, i1, _⟩ := id XO
      by_cases hpar : on.tmod 2 = 0
      · have par1 : (on.tmod 2 == 0) = true := by simp [hpar]
        have par2 : (on.tmod 2 != 0) = false := by simp [hpar]
        clear hpar
        have h9 := step_any (hL1.p1 rfl) kd on (1000 + (i : Int)) oh hkd hg lCh.out (by omega)
        go_upto_region 23 with (go_at_call 9; (with_reducible refine Calls.mono h9 ?_); rintro e w9 ⟨F9, st9, v9, rfl, hP, hF, ho, hv, hnv⟩)
        obtain ⟨hL2, hNE⟩ := hL1.step hP hF ho hv hnv
        clear h9 hP hF ho hv hnv hL1 XO i1 hkd
        obtain ⟨xa, xn, xc, ev, hNE9⟩ := hNE.form
        subst ev
        clear hNE
        go_upto_if 128 with fail
        go_cut [17] (fun s17 wx => ∃ (LG' : List En) (la' : Option Addr) (lc' : Nat), s17 = .slice la' LG'.length lc' ∧ LI true true w wx F9 F2 b1 b2 b3 b4 G G' C C' st9 st2 (i + 1) (.slice la' LG'.length lc') LG')
        case first =>
          rcases hNE9.out with e | ⟨n1, a', c', q1, q2, q3, q4⟩
          · injection e with e1 e2 e3
            subst e1 e2 e3
            go_wp2
            go_meet
            exact ⟨LG, la, lc, rfl, hL2⟩
          · injection q2 with e1 e2 e3
            subst e1 e2 e3
            have gt0 : (0 : Int) < ((n1 + 1 : Nat) : Int) := by omega
            have hown := hL2.own
            have hlW := hL2.be.size
            go_wp2_with (at_builtin; (refine wpList_append_mine _ rfl _ _ 36 rfl w.heap.size 39 tj _ 1 24 Try.underlying36 hj hj0 hj1 hj2 rfl (by decide) (.slice la LG.length lc) LG.length _ rfl (own_bel hown belN1) ⟨w9.heap.size, 0, none⟩ 1 1 [.slice xa (n1 + 1) xc] rfl rfl (cells_at (W := w9) rfl _ _) (all_one rfl) (by decide) (by unfold maxLen; omega) (by omega) (by simp; omega) ?_); intro g' cap' w4 o1 o2 o3 o4 o5)
            go_meet
            have hadd := hL2.add hll (by omega) q1 ⟨_, _, rfl⟩ q3 q4 (belN1 (o1 := .cells #[.slice xa (n1 + 1) xc] 39)) (by simp) o1 o2 o3
            have hlen : (LG ++ [(⟨.slice xa (n1 + 1) xc, n1, 1000 + (i : Int)⟩ : En)]).length = LG.length + 1 := by simp
            exact ⟨LG ++ [⟨.slice xa (n1 + 1) xc, n1, 1000 + (i : Int)⟩], some ⟨g', 0, none⟩, cap', by rw [hlen], by rw [hlen]; exact hadd⟩
        case rest =>
        clear hL2 hNE9 hll
        obtain ⟨LG', la', lc', rfl, hL3⟩ := hcut
        have hnn := hL3.ll
        obtain ⟨nL, hnL⟩ : ∃ l, LG'.length = l := ⟨_, rfl⟩
        have hnL' : Hid (LG'.length = nL) := hnL
        have hL4 : Hid (LI true true w wc F9 F2 b1 b2 b3 b4 G G' C C' st9 st2 (i + 1) (.slice la' LG'.length lc') LG') := hL3
        rw [hnL] at hnn ⊢
        clear hL3 hnL
        go_wp2
        go_loopg [22] nL (fun gk v wx => ∃ k : Nat, k + gk = nL ∧ v = .int .i64 (k : Int) ∧ Hid (LI true true w wx F9 F2 b1 b2 b3 b4 G G' C C' st9 st2 (i + 1) (.slice la' LG'.length lc') LG'))
        case atStart => exact ⟨0, by omega, rfl, hL4⟩
        case round =>
          clear hL4
          obtain ⟨k, hk, rfl, hS⟩ := hrel
          cases gk with
          | zero =>
            have hkn : ¬ ((k : Int) < (nL : Int)) := by omega
            go_wp2
            go_roundg gk0
            case measure => omega
            case rel => exact ⟨i + 1, LG', F9, F2, st9, st2, la', lc', by omega, by push_cast; rfl, by rw [hnL'.out], hS⟩
          | succ g1 =>
            have hki : (k : Int) < (nL : Int) := by omega
            have hkL : k < LG'.length := by rw [hnL'.out]; omega
            have hwk : IntKind.i64.wrap ((k : Int) + 1) = (k : Int) + 1 := wrap64 _ (by omega)
            obtain ⟨gL, eL, qL, -, -, zL⟩ := own_block hS.out.own (by omega)
            injection qL with qL _ qL3
            subst qL3
            subst qL
            obtain ⟨hne, hme, ⟨ea, ec, eev⟩, hoe, -⟩ := hS.out.es LG'[k] (List.getElem_mem hkL)
            have rdk : (cellsF En.cs LG')[k]? = some LG'[k].v := by
              have := cellsF_get en_len LG' k 0 hkL (by decide)
              rw [Nat.mul_one, Nat.add_zero] at this
              rw [this]; rfl
            have cL := own_reads hS.out.own rfl k _ rdk
            generalize LG'[k] = en0 at hne hme eev hoe cL
            obtain ⟨ev, en, em⟩ := en0
            dsimp only at hne hme eev hoe cL
            subst eev
            obtain ⟨ge, eE, qE, -, -, zE⟩ := own_block hoe (by omega)
            injection qE with qE _ qE3
            subst qE3
            subst qE
            have rows : ∀ j, j < en + 1 → ∀ t u, (Al.cs ⟨em, 0, 0, 0⟩)[t]? = some u → wr.cell? ⟨ge, j * 4 + t, none⟩ = some u := fun j hj t u hu => by
              have ht : t < 4 := by have := (List.getElem?_eq_some_iff.1 hu).1; rwa [al_len] at this
              refine own_reads hoe rfl _ _ ?_
              rw [cellsF_get al_len (List.replicate (en + 1) ⟨em, 0, 0, 0⟩) j t (by simpa using hj) ht, List.getElem_replicate]
              exact hu
            obtain ⟨eN, heN⟩ : ∃ l, en + 1 = l := ⟨_, rfl⟩
            have heN' : Hid (en + 1 = eN) := heN
            have hc : ∀ W : World, Below wr.heap.size wr W → W.cell? ⟨gL, k, none⟩ = some (.slice (some ⟨ge, 0, none⟩) eN ec) := fun W hW => by rw [← heN]; exact (hW.cell (p := ⟨gL, k, none⟩) zL).trans cL
            have hr0 : ∀ W : World, Below wr.heap.size wr W → ∀ j, j < eN → W.cell? ⟨ge, j * 4, none⟩ = some (.int .i64 em) ∧ W.cell? ⟨ge, j * 4 + 1, none⟩ = some (.int .i64 0) ∧ W.cell? ⟨ge, j * 4 + 2, none⟩ = some (.int .i64 0) ∧ W.cell? ⟨ge, j * 4 + 3, none⟩ = some (.int .i64 0) := fun W hW j hj => ⟨(hW.cell (p := ⟨ge, _, none⟩) zE).trans (rows j (by omega) 0 _ rfl), (hW.cell (p := ⟨ge, _, none⟩) zE).trans (rows j (by omega) 1 _ rfl), (hW.cell (p := ⟨ge, _, none⟩) zE).trans (rows j (by omega) 2 _ rfl), (hW.cell (p := ⟨ge, _, none⟩) zE).trans (rows j (by omega) 3 _ rfl)⟩
            have keep : ∀ j, j < eN → ∀ W : World, Below wr.heap.size wr W → W.cell? ⟨gL, k, none⟩ = some (.slice (some ⟨ge, 0, none⟩) eN ec) ∧ W.cell? ⟨ge, j * 4, none⟩ = some (.int .i64 em) ∧ W.cell? ⟨ge, j * 4 + 1, none⟩ = some (.int .i64 0) ∧ W.cell? ⟨ge, j * 4 + 2, none⟩ = some (.int .i64 0) ∧ W.cell? ⟨ge, j * 4 + 3, none⟩ = some (.int .i64 0) ∧ W.cell? ⟨ge, en * 4, none⟩ = some (.int .i64 em) ∧ W.cell? ⟨ge, en * 4 + 1, none⟩ = some (.int .i64 0) ∧ W.cell? ⟨ge, en * 4 + 2, none⟩ = some (.int .i64 0) ∧ W.cell? ⟨ge, en * 4 + 3, none⟩ = some (.int .i64 0) := fun j hj W hW => by
              obtain ⟨u0, u1, u2, u3⟩ := hr0 W hW j hj
              obtain ⟨t0, t1, t2, t3⟩ := hr0 W hW en (by omega)
              exact ⟨hc W hW, u0, u1, u2, u3, t0, t1, t2, t3⟩
            have hw1 : IntKind.i64.wrap ((eN : Int) - 1) = (en : Int) := by rw [wrap64 _ (by omega)]; omega
            have hw2 : (en : Int) < (eN : Int) := by omega
            have hem : ¬ (em < 1000) := by omega
            have hem2 : decide (em < 1000) = false := decide_eq_false hem
            have c0 := hc _ (Below.refl _ _)
            clear rows hoe cL rdk heN hr0
            go_wp2
            go_loopg [23] eN (fun gk v wy => ∃ j : Nat, j + gk = eN ∧ v = .int .i64 (j : Int) ∧ Hid (Below wr.heap.size wr wy))
            case atStart => exact ⟨0, by omega, rfl, Below.refl _ _⟩
            case round =>
              clear c0
              obtain ⟨j, hj', rfl, hB⟩ := hrel
              have c0 := hc _ hB.out
              cases gk with
              | zero =>
                have hjn : ¬ ((j : Int) < (eN : Int)) := by omega
                go_wp2
                go_roundg g1
                case measure => omega
                case rel => exact ⟨k + 1, by omega, by push_cast; rfl, hS.out.below hB.out⟩
              | succ g2 =>
                have hji : (j : Int) < (eN : Int) := by omega
                have hjlt : j < eN := by omega
                have hwj : IntKind.i64.wrap ((j : Int) + 1) = (j : Int) + 1 := wrap64 _ (by have := heN'.out; omega)
                obtain ⟨-, u0, u1, u2, u3, t0, t1, t2, t3⟩ := keep j (by omega) _ hB.out
                go_upto_region 33 with fail
                refine wp_region_noPanic ?_
                refine wp_region_held_drew (S := fun w' => w'.cell? ⟨gL, k, none⟩ = some (.slice (some ⟨ge, 0, none⟩) eN ec) ∧ w'.cell? ⟨ge, j * 4, none⟩ = some (.int .i64 em) ∧ w'.cell? ⟨ge, j * 4 + 1, none⟩ = some (.int .i64 0) ∧ w'.cell? ⟨ge, j * 4 + 2, none⟩ = some (.int .i64 0) ∧ w'.cell? ⟨ge, j * 4 + 3, none⟩ = some (.int .i64 0) ∧ w'.cell? ⟨ge, en * 4, none⟩ = some (.int .i64 em) ∧ w'.cell? ⟨ge, en * 4 + 1, none⟩ = some (.int .i64 0) ∧ w'.cell? ⟨ge, en * 4 + 2, none⟩ = some (.int .i64 0) ∧ w'.cell? ⟨ge, en * 4 + 3, none⟩ = some (.int .i64 0)) (by kernel_rfl) ?_ (fun hHeld => ?_)
                · (try dsimp only)
                  exact keep j hjlt _ hB.out.drew
                refine wpAnyH_take (i := 0) (oi := { dst := some 148, op := Op.move (Operand.tmp 17), type := 36, pos := "law.go:124", after := #[], guard := none }) (v := ?_) rfl (by kernel_rfl) (by kernel_rfl) (by kernel_rfl) (fun _ _ _ h => h) (Or.inl ⟨by rfl, ?_⟩) (by assumption) ?_
                rotate_left
                · intro wz hSz; (try dsimp only at hSz); go_simp; all_goals (with_reducible rfl)
                (try simp only [Act.put, List.setIfInBounds_toArray, List.set_cons_zero, List.set_cons_succ])
                refine wpAnyH_take (i := 1) (oi := { dst := some 149, op := Op.move (Operand.tmp 22), type := 3, pos := "law.go:124", after := #[], guard := none }) (v := ?_) rfl (by kernel_rfl) (by kernel_rfl) (by kernel_rfl) (fun _ _ _ h => h) (Or.inl ⟨by rfl, ?_⟩) (by assumption) ?_
                rotate_left
                · intro wz hSz; (try dsimp only at hSz); go_simp; all_goals (with_reducible rfl)
                (try simp only [Act.put, List.setIfInBounds_toArray, List.set_cons_zero, List.set_cons_succ])
                refine wpAnyH_take (i := 2) (oi := { dst := some 150, op := Op.indexAddr 36 (Operand.tmp 148) (Operand.tmp 149), type := 0, pos := "law.go:124", after := #[{ on := 0, ground := Ground.data }, { on := 1, ground := Ground.data }], guard := none }) (v := ?_) rfl (by kernel_rfl) (by kernel_rfl) (by kernel_rfl) (fun _ _ _ h => h) (Or.inl ⟨by rfl, ?_⟩) (by assumption) ?_
                rotate_left
                · intro wz hSz; (try dsimp only at hSz); go_simp; all_goals (with_reducible rfl)
                (try simp only [Act.put, List.setIfInBounds_toArray, List.set_cons_zero, List.set_cons_succ])
                refine wpAnyH_take (i := 3) (oi := { dst := some 151, op := Op.load 39 (Operand.tmp 150), type := 39, pos := "law.go:124", after := #[{ on := 2, ground := Ground.data }], guard := none }) (v := ?_) rfl (by kernel_rfl) (by kernel_rfl) (by kernel_rfl) (fun _ _ _ h => h) (Or.inl ⟨by rfl, ?_⟩) (by assumption) ?_
                rotate_left
                · intro wz hSz; (try dsimp only at hSz); go_simp; all_goals (with_reducible rfl)
                (try simp only [Act.put, List.setIfInBounds_toArray, List.set_cons_zero, List.set_cons_succ])
                refine wpAnyH_take (i := 4) (oi := { dst := some 152, op := Op.move (Operand.tmp 23), type := 3, pos := "law.go:124", after := #[], guard := none }) (v := ?_) rfl (by kernel_rfl) (by kernel_rfl) (by kernel_rfl) (fun _ _ _ h => h) (Or.inl ⟨by rfl, ?_⟩) (by assumption) ?_
                rotate_left
                · intro wz hSz; (try dsimp only at hSz); go_simp; all_goals (with_reducible rfl)
                (try simp only [Act.put, List.setIfInBounds_toArray, List.set_cons_zero, List.set_cons_succ])
                refine wpAnyH_take (i := 5) (oi := { dst := some 153, op := Op.indexAddr 39 (Operand.tmp 151) (Operand.tmp 152), type := 0, pos := "law.go:124", after := #[{ on := 3, ground := Ground.data }, { on := 4, ground := Ground.data }], guard := none }) (v := ?_) rfl (by kernel_rfl) (by kernel_rfl) (by kernel_rfl) (fun _ _ _ h => h) (Or.inl ⟨by rfl, ?_⟩) (by assumption) ?_
                rotate_left
                · intro wz hSz; (try dsimp only at hSz); go_simp; all_goals (with_reducible rfl)
                (try simp only [Act.put, List.setIfInBounds_toArray, List.set_cons_zero, List.set_cons_succ])
                refine wpAnyH_take (i := 6) (oi := { dst := some 154, op := Op.load 43 (Operand.tmp 153), type := 43, pos := "law.go:124", after := #[{ on := 5, ground := Ground.data }], guard := none }) (v := ?_) rfl (by kernel_rfl) (by kernel_rfl) (by kernel_rfl) (fun _ _ _ h => h) (Or.inl ⟨by rfl, ?_⟩) (by assumption) ?_
                rotate_left
                · intro wz hSz; (try dsimp only at hSz); go_simp; all_goals (with_reducible rfl)
                (try simp only [Act.put, List.setIfInBounds_toArray, List.set_cons_zero, List.set_cons_succ])
                refine wpAnyH_take (i := 7) (oi := { dst := some 155, op := Op.move (Operand.tmp 17), type := 36, pos := "law.go:124", after := #[], guard := none }) (v := ?_) rfl (by kernel_rfl) (by kernel_rfl) (by kernel_rfl) (fun _ _ _ h => h) (Or.inl ⟨by rfl, ?_⟩) (by assumption) ?_
                rotate_left
                · intro wz hSz; (try dsimp only at hSz); go_simp; all_goals (with_reducible rfl)
                (try simp only [Act.put, List.setIfInBounds_toArray, List.set_cons_zero, List.set_cons_succ])
                refine wpAnyH_take (i := 8) (oi := { dst := some 156, op := Op.move (Operand.tmp 22), type := 3, pos := "law.go:124", after := #[], guard := none }) (v := ?_) rfl (by kernel_rfl) (by kernel_rfl) (by kernel_rfl) (fun _ _ _ h => h) (Or.inl ⟨by rfl, ?_⟩) (by assumption) ?_
                rotate_left
                · intro wz hSz; (try dsimp only at hSz); go_simp; all_goals (with_reducible rfl)
                (try simp only [Act.put, List.setIfInBounds_toArray, List.set_cons_zero, List.set_cons_succ])
                refine wpAnyH_take (i := 9) (oi := { dst := some 157, op := Op.indexAddr 36 (Operand.tmp 155) (Operand.tmp 156), type := 0, pos := "law.go:124", after := #[{ on := 7, ground := Ground.data }, { on := 8, ground := Ground.data }], guard := none }) (v := ?_) rfl (by kernel_rfl) (by kernel_rfl) (by kernel_rfl) (fun _ _ _ h => h) (Or.inl ⟨by rfl, ?_⟩) (by assumption) ?_
                rotate_left
                · intro wz hSz; (try dsimp only at hSz); go_simp; all_goals (with_reducible rfl)
                (try simp only [Act.put, List.setIfInBounds_toArray, List.set_cons_zero, List.set_cons_succ])
                refine wpAnyH_take (i := 10) (oi := { dst := some 158, op := Op.load 39 (Operand.tmp 157), type := 39, pos := "law.go:124", after := #[{ on := 9, ground := Ground.data }], guard := none }) (v := ?_) rfl (by kernel_rfl) (by kernel_rfl) (by kernel_rfl) (fun _ _ _ h => h) (Or.inl ⟨by rfl, ?_⟩) (by assumption) ?_
                rotate_left
                · intro wz hSz; (try dsimp only at hSz); go_simp; all_goals (with_reducible rfl)
                (try simp only [Act.put, List.setIfInBounds_toArray, List.set_cons_zero, List.set_cons_succ])
                refine wpAnyH_take (i := 11) (oi := { dst := some 159, op := Op.move (Operand.tmp 17), type := 36, pos := "law.go:124", after := #[], guard := none }) (v := ?_) rfl (by kernel_rfl) (by kernel_rfl) (by kernel_rfl) (fun _ _ _ h => h) (Or.inl ⟨by rfl, ?_⟩) (by assumption) ?_
                rotate_left
                · intro wz hSz; (try dsimp only at hSz); go_simp; all_goals (with_reducible rfl)
                (try simp only [Act.put, List.setIfInBounds_toArray, List.set_cons_zero, List.set_cons_succ])
                refine wpAnyH_take (i := 12) (oi := { dst := some 160, op := Op.move (Operand.tmp 22), type := 3, pos := "law.go:124", after := #[], guard := none }) (v := ?_) rfl (by kernel_rfl) (by kernel_rfl) (by kernel_rfl) (fun _ _ _ h => h) (Or.inl ⟨by rfl, ?_⟩) (by assumption) ?_
                rotate_left
                · intro wz hSz; (try dsimp only at hSz); go_simp; all_goals (with_reducible rfl)
                (try simp only [Act.put, List.setIfInBounds_toArray, List.set_cons_zero, List.set_cons_succ])
                refine wpAnyH_take (i := 13) (oi := { dst := some 161, op := Op.indexAddr 36 (Operand.tmp 159) (Operand.tmp 160), type := 0, pos := "law.go:124", after := #[{ on := 11, ground := Ground.data }, { on := 12, ground := Ground.data }], guard := none }) (v := ?_) rfl (by kernel_rfl) (by kernel_rfl) (by kernel_rfl) (fun _ _ _ h => h) (Or.inl ⟨by rfl, ?_⟩) (by assumption) ?_
                rotate_left
                · intro wz hSz; (try dsimp only at hSz); go_simp; all_goals (with_reducible rfl)
                (try simp only [Act.put, List.setIfInBounds_toArray, List.set_cons_zero, List.set_cons_succ])
                refine wpAnyH_take (i := 14) (oi := { dst := some 162, op := Op.load 39 (Operand.tmp 161), type := 39, pos := "law.go:124", after := #[{ on := 13, ground := Ground.data }], guard := none }) (v := ?_) rfl (by kernel_rfl) (by kernel_rfl) (by kernel_rfl) (fun _ _ _ h => h) (Or.inl ⟨by rfl, ?_⟩) (by assumption) ?_
                rotate_left
                · intro wz hSz; (try dsimp only at hSz); go_simp; all_goals (with_reducible rfl)
                (try simp only [Act.put, List.setIfInBounds_toArray, List.set_cons_zero, List.set_cons_succ])
                refine wpAnyH_take (i := 15) (oi := { dst := some 163, op := Op.call { callee := Callee.builtin Builtin.len, args := #[Operand.tmp 162], argTypes := #[39] }, type := 3, pos := "law.go:124", after := #[{ on := 14, ground := Ground.data }], guard := none }) (v := ?_) rfl (by kernel_rfl) (by kernel_rfl) (by kernel_rfl) (fun _ _ _ h => h) (Or.inl ⟨by rfl, ?_⟩) (by assumption) ?_
                rotate_left
                · intro wz hSz; (try dsimp only at hSz); go_simp; all_goals (with_reducible rfl)
                (try simp only [Act.put, List.setIfInBounds_toArray, List.set_cons_zero, List.set_cons_succ])
                refine wpAnyH_take (i := 16) (oi := { dst := some 164, op := Op.binOp BinOp.sub 3 (Operand.tmp 163) (Operand.const (Value.int IntKind.i64 1)) 3, type := 3, pos := "law.go:124", after := #[{ on := 15, ground := Ground.data }], guard := none }) (v := ?_) rfl (by kernel_rfl) (by kernel_rfl) (by kernel_rfl) (fun _ _ _ h => h) (Or.inl ⟨by rfl, ?_⟩) (by assumption) ?_
                rotate_left
                · intro wz hSz; (try dsimp only at hSz); go_simp; all_goals (with_reducible rfl)
                (try simp only [Act.put, List.setIfInBounds_toArray, List.set_cons_zero, List.set_cons_succ])
                refine wpAnyH_take (i := 17) (oi := { dst := some 165, op := Op.indexAddr 39 (Operand.tmp 158) (Operand.tmp 164), type := 0, pos := "law.go:124", after := #[{ on := 10, ground := Ground.data }, { on := 16, ground := Ground.data }], guard := none }) (v := ?_) rfl (by kernel_rfl) (by kernel_rfl) (by kernel_rfl) (fun _ _ _ h => h) (Or.inl ⟨by rfl, ?_⟩) (by assumption) ?_
                rotate_left
                · intro wz hSz; (try dsimp only at hSz); go_simp; all_goals (with_reducible rfl)
                (try simp only [Act.put, List.setIfInBounds_toArray, List.set_cons_zero, List.set_cons_succ])
                refine wpAnyH_take (i := 18) (oi := { dst := some 166, op := Op.load 43 (Operand.tmp 165), type := 43, pos := "law.go:124", after := #[{ on := 17, ground := Ground.data }], guard := none }) (v := ?_) rfl (by kernel_rfl) (by kernel_rfl) (by kernel_rfl) (fun _ _ _ h => h) (Or.inl ⟨by rfl, ?_⟩) (by assumption) ?_
                rotate_left
                · intro wz hSz; (try dsimp only at hSz); go_simp; all_goals (with_reducible rfl)
                (try simp only [Act.put, List.setIfInBounds_toArray, List.set_cons_zero, List.set_cons_succ])
                refine wpAnyH_take (i := 19) (oi := { dst := some 167, op := Op.binOp BinOp.neq 43 (Operand.tmp 154) (Operand.tmp 166) 43, type := 4, pos := "law.go:124", after := #[{ on := 6, ground := Ground.data }, { on := 18, ground := Ground.data }], guard := none }) (v := ?_) rfl (by kernel_rfl) (by kernel_rfl) (by kernel_rfl) (fun _ _ _ h => h) (Or.inl ⟨by rfl, ?_⟩) (by assumption) ?_
                rotate_left
                · intro wz hSz; (try dsimp only at hSz); go_simp; all_goals (with_reducible rfl)
                (try simp only [Act.put, List.setIfInBounds_toArray, List.set_cons_zero, List.set_cons_succ])
                refine wpAnyH_take (i := 20) (oi := { dst := some 168, op := Op.move (Operand.tmp 167), type := 4, pos := "law.go:124", after := #[{ on := 19, ground := Ground.data }], guard := none }) (v := ?_) rfl (by kernel_rfl) (by kernel_rfl) (by kernel_rfl) (fun _ _ _ h => h) (Or.inl ⟨by rfl, ?_⟩) (by assumption) ?_
                rotate_left
                · intro wz hSz; (try dsimp only at hSz); go_simp; all_goals (with_reducible rfl)
                (try simp only [Act.put, List.setIfInBounds_toArray, List.set_cons_zero, List.set_cons_succ])
                refine wpAnyH_take (i := 21) (oi := { dst := some 169, op := Op.move (Operand.tmp 17), type := 36, pos := "law.go:124", after := #[{ on := 20, ground := Ground.guard }], guard := some (20, false) }) (v := ?_) rfl (by kernel_rfl) (by kernel_rfl) (by kernel_rfl) (fun _ _ _ h => h) (Or.inl ⟨by rfl, ?_⟩) (by assumption) ?_
                rotate_left
                · intro wz hSz; (try dsimp only at hSz); go_simp; all_goals (with_reducible rfl)
                (try simp only [Act.put, List.setIfInBounds_toArray, List.set_cons_zero, List.set_cons_succ])
                refine wpAnyH_take (i := 22) (oi := { dst := some 170, op := Op.move (Operand.tmp 22), type := 3, pos := "law.go:124", after := #[{ on := 20, ground := Ground.guard }], guard := some (20, false) }) (v := ?_) rfl (by kernel_rfl) (by kernel_rfl) (by kernel_rfl) (fun _ _ _ h => h) (Or.inl ⟨by rfl, ?_⟩) (by assumption) ?_
                rotate_left
                · intro wz hSz; (try dsimp only at hSz); go_simp; all_goals (with_reducible rfl)
                (try simp only [Act.put, List.setIfInBounds_toArray, List.set_cons_zero, List.set_cons_succ])
                refine wpAnyH_take (i := 23) (oi := { dst := some 171, op := Op.indexAddr 36 (Operand.tmp 169) (Operand.tmp 170), type := 0, pos := "law.go:124", after := #[{ on := 21, ground := Ground.data }, { on := 22, ground := Ground.data }, { on := 20, ground := Ground.guard }], guard := some (20, false) }) (v := ?_) rfl (by kernel_rfl) (by kernel_rfl) (by kernel_rfl) (fun _ _ _ h => h) (Or.inl ⟨by rfl, ?_⟩) (by assumption) ?_
                rotate_left
                · intro wz hSz; (try dsimp only at hSz); go_simp; all_goals (with_reducible rfl)
                (try simp only [Act.put, List.setIfInBounds_toArray, List.set_cons_zero, List.set_cons_succ])
                refine wpAnyH_take (i := 24) (oi := { dst := some 172, op := Op.load 39 (Operand.tmp 171), type := 39, pos := "law.go:124", after := #[{ on := 23, ground := Ground.data }, { on := 20, ground := Ground.guard }], guard := some (20, false) }) (v := ?_) rfl (by kernel_rfl) (by kernel_rfl) (by kernel_rfl) (fun _ _ _ h => h) (Or.inl ⟨by rfl, ?_⟩) (by assumption) ?_
                rotate_left
                · intro wz hSz; (try dsimp only at hSz); go_simp; all_goals (with_reducible rfl)
                (try simp only [Act.put, List.setIfInBounds_toArray, List.set_cons_zero, List.set_cons_succ])
                refine wpAnyH_take (i := 25) (oi := { dst := some 173, op := Op.move (Operand.tmp 23), type := 3, pos := "law.go:124", after := #[{ on := 20, ground := Ground.guard }], guard := some (20, false) }) (v := ?_) rfl (by kernel_rfl) (by kernel_rfl) (by kernel_rfl) (fun _ _ _ h => h) (Or.inl ⟨by rfl, ?_⟩) (by assumption) ?_
                rotate_left
                · intro wz hSz; (try dsimp only at hSz); go_simp; all_goals (with_reducible rfl)
                (try simp only [Act.put, List.setIfInBounds_toArray, List.set_cons_zero, List.set_cons_succ])
                refine wpAnyH_take (i := 26) (oi := { dst := some 174, op := Op.indexAddr 39 (Operand.tmp 172) (Operand.tmp 173), type := 0, pos := "law.go:124", after := #[{ on := 24, ground := Ground.data }, { on := 25, ground := Ground.data }, { on := 20, ground := Ground.guard }], guard := some (20, false) }) (v := ?_) rfl (by kernel_rfl) (by kernel_rfl) (by kernel_rfl) (fun _ _ _ h => h) (Or.inl ⟨by rfl, ?_⟩) (by assumption) ?_
                rotate_left
                · intro wz hSz; (try dsimp only at hSz); go_simp; all_goals (with_reducible rfl)
                (try simp only [Act.put, List.setIfInBounds_toArray, List.set_cons_zero, List.set_cons_succ])
                refine wpAnyH_take (i := 27) (oi := { dst := some 175, op := Op.fieldAddr 43 (Operand.tmp 174) 0, type := 0, pos := "law.go:124", after := #[{ on := 26, ground := Ground.data }, { on := 20, ground := Ground.guard }], guard := some (20, false) }) (v := ?_) rfl (by kernel_rfl) (by kernel_rfl) (by kernel_rfl) (fun _ _ _ h => h) (Or.inl ⟨by rfl, ?_⟩) (by assumption) ?_
                rotate_left
                · intro wz hSz; (try dsimp only at hSz); go_simp; all_goals (with_reducible rfl)
                (try simp only [Act.put, List.setIfInBounds_toArray, List.set_cons_zero, List.set_cons_succ])
                refine wpAnyH_take (i := 28) (oi := { dst := some 176, op := Op.load 3 (Operand.tmp 175), type := 3, pos := "law.go:124", after := #[{ on := 27, ground := Ground.data }, { on := 20, ground := Ground.guard }], guard := some (20, false) }) (v := ?_) rfl (by kernel_rfl) (by kernel_rfl) (by kernel_rfl) (fun _ _ _ h => h) (Or.inl ⟨by rfl, ?_⟩) (by assumption) ?_
                rotate_left
                · intro wz hSz; (try dsimp only at hSz); go_simp; all_goals (with_reducible rfl)
                (try simp only [Act.put, List.setIfInBounds_toArray, List.set_cons_zero, List.set_cons_succ])
                refine wpAnyH_take (i := 29) (oi := { dst := some 177, op := Op.binOp BinOp.lss 3 (Operand.tmp 176) (Operand.const (Value.int IntKind.i64 1000)) 3, type := 4, pos := "law.go:124", after := #[{ on := 28, ground := Ground.data }, { on := 20, ground := Ground.guard }], guard := some (20, false) }) (v := ?_) rfl (by kernel_rfl) (by kernel_rfl) (by kernel_rfl) (fun _ _ _ h => h) (Or.inl ⟨by rfl, ?_⟩) (by assumption) ?_
                rotate_left
                · intro wz hSz; (try dsimp only at hSz); go_simp; all_goals (with_reducible rfl)
                (try simp only [Act.put, List.setIfInBounds_toArray, List.set_cons_zero, List.set_cons_succ])
                refine wpAnyH_take (i := 30) (oi := { dst := some 178, op := Op.pick (Operand.tmp 168) (Operand.const (Value.bool true)) (Operand.tmp 177), type := 4, pos := "law.go:124", after := #[{ on := 20, ground := Ground.data }, { on := 29, ground := Ground.data }], guard := none }) (v := ?_) rfl (by kernel_rfl) (by kernel_rfl) (by kernel_rfl) (fun _ _ _ h => h) (Or.inl ⟨by rfl, ?_⟩) (by assumption) ?_
                rotate_left
                · intro wz hSz; (try dsimp only at hSz); go_simp; all_goals (with_reducible rfl)
                (try simp only [Act.put, List.setIfInBounds_toArray, List.set_cons_zero, List.set_cons_succ])
                refine wpAnyH_done (by kernel_rfl) ?_ _
                refine NoPanic.normal ?_
                go_wp2_with fail
                go_roundg g2
                case measure => omega
                case rel => exact ⟨j + 1, by omega, by push_cast; rfl, hB.out.drew⟩
      · have par1 : (on.tmod 2 == 0) = false := beq_eq_false_iff_ne.2 hpar
        have par2 : (on.tmod 2 != 0) = true := by simpa using hpar
        clear hpar
        have h9 := step_any (hL1.p2 rfl) kd on (1000 + (i : Int)) oh hkd hg' lCh'.out (by omega)
        go_upto_region 23 with (go_at_call 9; (with_reducible refine Calls.mono h9 ?_); rintro e w9 ⟨F9, st9, v9, rfl, hP, hF, ho, hv, hnv⟩)
        obtain ⟨hL2', hNE'⟩ := hL1.swap.step hP hF ho hv hnv
        have hL2 := hL2'.swap
        have hNE := hNE'.swap
        clear hL2' hNE'
        clear h9 hP hF ho hv hnv hL1 XO i1 hkd
        obtain ⟨xa, xn, xc, ev, hNE9⟩ := hNE.form
        subst ev
        clear hNE
        go_upto_if 128 with fail
        go_cut [17] (fun s17 wx => ∃ (LG' : List En) (la' : Option Addr) (lc' : Nat), s17 = .slice la' LG'.length lc' ∧ LI true true w wx F1 F9 b1 b2 b3 b4 G G' C C' st1 st9 (i + 1) (.slice la' LG'.length lc') LG')
        case first =>
          rcases hNE9.out with e | ⟨n1, a', c', q1, q2, q3, q4⟩
          · injection e with e1 e2 e3
            subst e1 e2 e3
            go_wp2
            go_meet
            exact ⟨LG, la, lc, rfl, hL2⟩
          · injection q2 with e1 e2 e3
            subst e1 e2 e3
            have gt0 : (0 : Int) < ((n1 + 1 : Nat) : Int) := by omega
            have hown := hL2.own
            have hlW := hL2.be.size
            go_wp2_with (at_builtin; (refine wpList_append_mine _ rfl _ _ 36 rfl w.heap.size 39 tj _ 1 24 Try.underlying36 hj hj0 hj1 hj2 rfl (by decide) (.slice la LG.length lc) LG.length _ rfl (own_bel hown belN1) ⟨w9.heap.size, 0, none⟩ 1 1 [.slice xa (n1 + 1) xc] rfl rfl (cells_at (W := w9) rfl _ _) (all_one rfl) (by decide) (by unfold maxLen; omega) (by omega) (by simp; omega) ?_); intro g' cap' w4 o1 o2 o3 o4 o5)
            go_meet
            have hadd := hL2.add hll (by omega) q1 ⟨_, _, rfl⟩ q3 q4 (belN1 (o1 := .cells #[.slice xa (n1 + 1) xc] 39)) (by simp) o1 o2 o3
            have hlen : (LG ++ [(⟨.slice xa (n1 + 1) xc, n1, 1000 + (i : Int)⟩ : En)]).length = LG.length + 1 := by simp
            exact ⟨LG ++ [⟨.slice xa (n1 + 1) xc, n1, 1000 + (i : Int)⟩], some ⟨g', 0, none⟩, cap', by rw [hlen], by rw [hlen]; exact hadd⟩
        case rest =>
        clear hL2 hNE9 hll
        obtain ⟨LG', la', lc', rfl, hL3⟩ := hcut
        have hnn := hL3.ll
        obtain ⟨nL, hnL⟩ : ∃ l, LG'.length = l := ⟨_, rfl⟩
        have hnL' : Hid (LG'.length = nL) := hnL
        have hL4 : Hid (LI true true w wc F1 F9 b1 b2 b3 b4 G G' C C' st1 st9 (i + 1) (.slice la' LG'.length lc') LG') := hL3
        rw [hnL] at hnn ⊢
        clear hL3 hnL
        go_wp2
        go_loopg [22] nL (fun gk v wx => ∃ k : Nat, k + gk = nL ∧ v = .int .i64 (k : Int) ∧ Hid (LI true true w wx F1 F9 b1 b2 b3 b4 G G' C C' st1 st9 (i + 1) (.slice la' LG'.length lc') LG'))
        case atStart => exact ⟨0, by omega, rfl, hL4⟩
        case round =>
          clear hL4
          obtain ⟨k, hk, rfl, hS⟩ := hrel
          cases gk with
          | zero =>
            have hkn : ¬ ((k : Int) < (nL : Int)) := by omega
            go_wp2
            go_roundg gk0
            case measure => omega
            case rel => exact ⟨i + 1, LG', F1, F9, st1, st9, la', lc', by omega, by push_cast; rfl, by rw [hnL'.out], hS⟩
          | succ g1 =>
            have hki : (k : Int) < (nL : Int) := by omega
            have hkL : k < LG'.length := by rw [hnL'.out]; omega
            have hwk : IntKind.i64.wrap ((k : Int) + 1) = (k : Int) + 1 := wrap64 _ (by omega)
            obtain ⟨gL, eL, qL, -, -, zL⟩ := own_block hS.out.own (by omega)
            injection qL with qL _ qL3
            subst qL3
            subst qL
            obtain ⟨hne, hme, ⟨ea, ec, eev⟩, hoe, -⟩ := hS.out.es LG'[k] (List.getElem_mem hkL)
            have rdk : (cellsF En.cs LG')[k]? = some LG'[k].v := by
              have := cellsF_get en_len LG' k 0 hkL (by decide)
              rw [Nat.mul_one, Nat.add_zero] at this
              rw [this]; rfl
            have cL := own_reads hS.out.own rfl k _ rdk
            generalize LG'[k] = en0 at hne hme eev hoe cL
            obtain ⟨ev, en, em⟩ := en0
            dsimp only at hne hme eev hoe cL
            subst eev
            obtain ⟨ge, eE, qE, -, -, zE⟩ := own_block hoe (by omega)
            injection qE with qE _ qE3
            subst qE3
            subst qE
            have rows : ∀ j, j < en + 1 → ∀ t u, (Al.cs ⟨em, 0, 0, 0⟩)[t]? = some u → wr.cell? ⟨ge, j * 4 + t, none⟩ = some u := fun j hj t u hu => by
              have ht : t < 4 := by have := (List.getElem?_eq_some_iff.1 hu).1; rwa [al_len] at this
              refine own_reads hoe rfl _ _ ?_
              rw [cellsF_get al_len (List.replicate (en + 1) ⟨em, 0, 0, 0⟩) j t (by simpa using hj) ht, List.getElem_replicate]
              exact hu
            obtain ⟨eN, heN⟩ : ∃ l, en + 1 = l := ⟨_, rfl⟩
            have heN' : Hid (en + 1 = eN) := heN
            have hc : ∀ W : World, Below wr.heap.size wr W → W.cell? ⟨gL, k, none⟩ = some (.slice (some ⟨ge, 0, none⟩) eN ec) := fun W hW => by rw [← heN]; exact (hW.cell (p := ⟨gL, k, none⟩) zL).trans cL
            have hr0 : ∀ W : World, Below wr.heap.size wr W → ∀ j, j < eN → W.cell? ⟨ge, j * 4, none⟩ = some (.int .i64 em) ∧ W.cell? ⟨ge, j * 4 + 1, none⟩ = some (.int .i64 0) ∧ W.cell? ⟨ge, j * 4 + 2, none⟩ = some (.int .i64 0) ∧ W.cell? ⟨ge, j * 4 + 3, none⟩ = some (.int .i64 0) := fun W hW j hj => ⟨(hW.cell (p := ⟨ge, _, none⟩) zE).trans (rows j (by omega) 0 _ rfl), (hW.cell (p := ⟨ge, _, none⟩) zE).trans (rows j (by omega) 1 _ rfl), (hW.cell (p := ⟨ge, _, none⟩) zE).trans (rows j (by omega) 2 _ rfl), (hW.cell (p := ⟨ge, _, none⟩) zE).trans (rows j (by omega) 3 _ rfl)⟩
            have keep : ∀ j, j < eN → ∀ W : World, Below wr.heap.size wr W → W.cell? ⟨gL, k, none⟩ = some (.slice (some ⟨ge, 0, none⟩) eN ec) ∧ W.cell? ⟨ge, j * 4, none⟩ = some (.int .i64 em) ∧ W.cell? ⟨ge, j * 4 + 1, none⟩ = some (.int .i64 0) ∧ W.cell? ⟨ge, j * 4 + 2, none⟩ = some (.int .i64 0) ∧ W.cell? ⟨ge, j * 4 + 3, none⟩ = some (.int .i64 0) ∧ W.cell? ⟨ge, en * 4, none⟩ = some (.int .i64 em) ∧ W.cell? ⟨ge, en * 4 + 1, none⟩ = some (.int .i64 0) ∧ W.cell? ⟨ge, en * 4 + 2, none⟩ = some (.int .i64 0) ∧ W.cell? ⟨ge, en * 4 + 3, none⟩ = some (.int .i64 0) := fun j hj W hW => by
              obtain ⟨u0, u1, u2, u3⟩ := hr0 W hW j hj
              obtain ⟨t0, t1, t2, t3⟩ := hr0 W hW en (by omega)
              exact ⟨hc W hW, u0, u1, u2, u3, t0, t1, t2, t3⟩
            have hw1 : IntKind.i64.wrap ((eN : Int) - 1) = (en : Int) := by rw [wrap64 _ (by omega)]; omega
            have hw2 : (en : Int) < (eN : Int) := by omega
            have hem : ¬ (em < 1000) := by omega
            have hem2 : decide (em < 1000) = false := decide_eq_false hem
            have c0 := hc _ (Below.refl _ _)
            clear rows hoe cL rdk heN hr0
            go_wp2
            go_loopg [23] eN (fun gk v wy => ∃ j : Nat, j + gk = eN ∧ v = .int .i64 (j : Int) ∧ Hid (Below wr.heap.size wr wy))
            case atStart => exact ⟨0, by omega, rfl, Below.refl _ _⟩
            case round =>
              clear c0
              obtain ⟨j, hj', rfl, hB⟩ := hrel
              have c0 := hc _ hB.out
              cases gk with
              | zero =>
                have hjn : ¬ ((j : Int) < (eN : Int)) := by omega
                go_wp2
                go_roundg g1
                case measure => omega
                case rel => exact ⟨k + 1, by omega, by push_cast; rfl, hS.out.below hB.out⟩
              | succ g2 =>
                have hji : (j : Int) < (eN : Int) := by omega
                have hjlt : j < eN := by omega
                have hwj : IntKind.i64.wrap ((j : Int) + 1) = (j : Int) + 1 := wrap64 _ (by have := heN'.out; omega)
                obtain ⟨-, u0, u1, u2, u3, t0, t1, t2, t3⟩ := keep j (by omega) _ hB.out
                go_upto_region 33 with fail
                refine wp_region_noPanic ?_
                refine wp_region_held_drew (S := fun w' => w'.cell? ⟨gL, k, none⟩ = some (.slice (some ⟨ge, 0, none⟩) eN ec) ∧ w'.cell? ⟨ge, j * 4, none⟩ = some (.int .i64 em) ∧ w'.cell? ⟨ge, j * 4 + 1, none⟩ = some (.int .i64 0) ∧ w'.cell? ⟨ge, j * 4 + 2, none⟩ = some (.int .i64 0) ∧ w'.cell? ⟨ge, j * 4 + 3, none⟩ = some (.int .i64 0) ∧ w'.cell? ⟨ge, en * 4, none⟩ = some (.int .i64 em) ∧ w'.cell? ⟨ge, en * 4 + 1, none⟩ = some (.int .i64 0) ∧ w'.cell? ⟨ge, en * 4 + 2, none⟩ = some (.int .i64 0) ∧ w'.cell? ⟨ge, en * 4 + 3, none⟩ = some (.int .i64 0)) (by kernel_rfl) ?_ (fun hHeld => ?_)
                · (try dsimp only)
                  exact keep j hjlt _ hB.out.drew
                refine wpAnyH_take (i := 0) (oi := { dst := some 148, op := Op.move (Operand.tmp 17), type := 36, pos := "law.go:124", after := #[], guard := none }) (v := ?_) rfl (by kernel_rfl) (by kernel_rfl) (by kernel_rfl) (fun _ _ _ h => h) (Or.inl ⟨by rfl, ?_⟩) (by assumption) ?_
                rotate_left
                · intro wz hSz; (try dsimp only at hSz); go_simp; all_goals (with_reducible rfl)
                (try simp only [Act.put, List.setIfInBounds_toArray, List.set_cons_zero, List.set_cons_succ])
                refine wpAnyH_take (i := 1) (oi := { dst := some 149, op := Op.move (Operand.tmp 22), type := 3, pos := "law.go:124", after := #[], guard := none }) (v := ?_) rfl (by kernel_rfl) (by kernel_rfl) (by kernel_rfl) (fun _ _ _ h => h) (Or.inl ⟨by rfl, ?_⟩) (by assumption) ?_
                rotate_left
                · intro wz hSz; (try dsimp only at hSz); go_simp; all_goals (with_reducible rfl)
                (try simp only [Act.put, List.setIfInBounds_toArray, List.set_cons_zero, List.set_cons_succ])
                refine wpAnyH_take (i := 2) (oi := { dst := some 150, op := Op.indexAddr 36 (Operand.tmp 148) (Operand.tmp 149), type := 0, pos := "law.go:124", after := #[{ on := 0, ground := Ground.data }, { on := 1, ground := Ground.data }], guard := none }) (v := ?_) rfl (by kernel_rfl) (by kernel_rfl) (by kernel_rfl) (fun _ _ _ h => h) (Or.inl ⟨by rfl, ?_⟩) (by assumption) ?_
                rotate_left
                · intro wz hSz; (try dsimp only at hSz); go_simp; all_goals (with_reducible rfl)
                (try simp only [Act.put, List.setIfInBounds_toArray, List.set_cons_zero, List.set_cons_succ])
                refine wpAnyH_take (i := 3) (oi := { dst := some 151, op := Op.load 39 (Operand.tmp 150), type := 39, pos := "law.go:124", after := #[{ on := 2, ground := Ground.data }], guard := none }) (v := ?_) rfl (by kernel_rfl) (by kernel_rfl) (by kernel_rfl) (fun _ _ _ h => h) (Or.inl ⟨by rfl, ?_⟩) (by assumption) ?_
                rotate_left
                · intro wz hSz; (try dsimp only at hSz); go_simp; all_goals (with_reducible rfl)
                (try simp only [Act.put, List.setIfInBounds_toArray, List.set_cons_zero, List.set_cons_succ])
                refine wpAnyH_take (i := 4) (oi := { dst := some 152, op := Op.move (Operand.tmp 23), type := 3, pos := "law.go:124", after := #[], guard := none }) (v := ?_) rfl (by kernel_rfl) (by kernel_rfl) (by kernel_rfl) (fun _ _ _ h => h) (Or.inl ⟨by rfl, ?_⟩) (by assumption) ?_
                rotate_left
                · intro wz hSz; (try dsimp only at hSz); go_simp; all_goals (with_reducible rfl)
                (try simp only [Act.put, List.setIfInBounds_toArray, List.set_cons_zero, List.set_cons_succ])
                refine wpAnyH_take (i := 5) (oi := { dst := some 153, op := Op.indexAddr 39 (Operand.tmp 151) (Operand.tmp 152), type := 0, pos := "law.go:124", after := #[{ on := 3, ground := Ground.data }, { on := 4, ground := Ground.data }], guard := none }) (v := ?_) rfl (by kernel_rfl) (by kernel_rfl) (by kernel_rfl) (fun _ _ _ h => h) (Or.inl ⟨by rfl, ?_⟩) (by assumption) ?_
                rotate_left
                · intro wz hSz; (try dsimp only at hSz); go_simp; all_goals (with_reducible rfl)
                (try simp only [Act.put, List.setIfInBounds_toArray, List.set_cons_zero, List.set_cons_succ])
                refine wpAnyH_take (i := 6) (oi := { dst := some 154, op := Op.load 43 (Operand.tmp 153), type := 43, pos := "law.go:124", after := #[{ on := 5, ground := Ground.data }], guard := none }) (v := ?_) rfl (by kernel_rfl) (by kernel_rfl) (by kernel_rfl) (fun _ _ _ h => h) (Or.inl ⟨by rfl, ?_⟩) (by assumption) ?_
                rotate_left
                · intro wz hSz; (try dsimp only at hSz); go_simp; all_goals (with_reducible rfl)
                (try simp only [Act.put, List.setIfInBounds_toArray, List.set_cons_zero, List.set_cons_succ])
                refine wpAnyH_take (i := 7) (oi := { dst := some 155, op := Op.move (Operand.tmp 17), type := 36, pos := "law.go:124", after := #[], guard := none }) (v := ?_) rfl (by kernel_rfl) (by kernel_rfl) (by kernel_rfl) (fun _ _ _ h => h) (Or.inl ⟨by rfl, ?_⟩) (by assumption) ?_
                rotate_left
                · intro wz hSz; (try dsimp only at hSz); go_simp; all_goals (with_reducible rfl)
                (try simp only [Act.put, List.setIfInBounds_toArray, List.set_cons_zero, List.set_cons_succ])
                refine wpAnyH_take (i := 8) (oi := { dst := some 156, op := Op.move (Operand.tmp 22), type := 3, pos := "law.go:124", after := #[], guard := none }) (v := ?_) rfl (by kernel_rfl) (by kernel_rfl) (by kernel_rfl) (fun _ _ _ h => h) (Or.inl ⟨by rfl, ?_⟩) (by assumption) ?_
                rotate_left
                · intro wz hSz; (try dsimp only at hSz); go_simp; all_goals (with_reducible rfl)
                (try simp only [Act.put, List.setIfInBounds_toArray, List.set_cons_zero, List.set_cons_succ])
                refine wpAnyH_take (i := 9) (oi := { dst := some 157, op := Op.indexAddr 36 (Operand.tmp 155) (Operand.tmp 156), type := 0, pos := "law.go:124", after := #[{ on := 7, ground := Ground.data }, { on := 8, ground := Ground.data }], guard := none }) (v := ?_) rfl (by kernel_rfl) (by kernel_rfl) (by kernel_rfl) (fun _ _ _ h => h) (Or.inl ⟨by rfl, ?_⟩) (by assumption) ?_
                rotate_left
                · intro wz hSz; (try dsimp only at hSz); go_simp; all_goals (with_reducible rfl)
                (try simp only [Act.put, List.setIfInBounds_toArray, List.set_cons_zero, List.set_cons_succ])
                refine wpAnyH_take (i := 10) (oi := { dst := some 158, op := Op.load 39 (Operand.tmp 157), type := 39, pos := "law.go:124", after := #[{ on := 9, ground := Ground.data }], guard := none }) (v := ?_) rfl (by kernel_rfl) (by kernel_rfl) (by kernel_rfl) (fun _ _ _ h => h) (Or.inl ⟨by rfl, ?_⟩) (by assumption) ?_
                rotate_left
                · intro wz hSz; (try dsimp only at hSz); go_simp; all_goals (with_reducible rfl)
                (try simp only [Act.put, List.setIfInBounds_toArray, List.set_cons_zero, List.set_cons_succ])
                refine wpAnyH_take (i := 11) (oi := { dst := some 159, op := Op.move (Operand.tmp 17), type := 36, pos := "law.go:124", after := #[], guard := none }) (v := ?_) rfl (by kernel_rfl) (by kernel_rfl) (by kernel_rfl) (fun _ _ _ h => h) (Or.inl ⟨by rfl, ?_⟩) (by assumption) ?_
                rotate_left
                · intro wz hSz; (try dsimp only at hSz); go_simp; all_goals (with_reducible rfl)
                (try simp only [Act.put, List.setIfInBounds_toArray, List.set_cons_zero, List.set_cons_succ])
                refine wpAnyH_take (i := 12) (oi := { dst := some 160, op := Op.move (Operand.tmp 22), type := 3, pos := "law.go:124", after := #[], guard := none }) (v := ?_) rfl (by kernel_rfl) (by kernel_rfl) (by kernel_rfl) (fun _ _ _ h => h) (Or.inl ⟨by rfl, ?_⟩) (by assumption) ?_
                rotate_left
                · intro wz hSz; (try dsimp only at hSz); go_simp; all_goals (with_reducible rfl)
                (try simp only [Act.put, List.setIfInBounds_toArray, List.set_cons_zero, List.set_cons_succ])
                refine wpAnyH_take (i := 13) (oi := { dst := some 161, op := Op.indexAddr 36 (Operand.tmp 159) (Operand.tmp 160), type := 0, pos := "law.go:124", after := #[{ on := 11, ground := Ground.data }, { on := 12, ground := Ground.data }], guard := none }) (v := ?_) rfl (by kernel_rfl) (by kernel_rfl) (by kernel_rfl) (fun _ _ _ h => h) (Or.inl ⟨by rfl, ?_⟩) (by assumption) ?_
                rotate_left
                · intro wz hSz; (try dsimp only at hSz); go_simp; all_goals (with_reducible rfl)
                (try simp only [Act.put, List.setIfInBounds_toArray, List.set_cons_zero, List.set_cons_succ])
                refine wpAnyH_take (i := 14) (oi := { dst := some 162, op := Op.load 39 (Operand.tmp 161), type := 39, pos := "law.go:124", after := #[{ on := 13, ground := Ground.data }], guard := none }) (v := ?_) rfl (by kernel_rfl) (by kernel_rfl) (by kernel_rfl) (fun _ _ _ h => h) (Or.inl ⟨by rfl, ?_⟩) (by assumption) ?_
                rotate_left
                · intro wz hSz; (try dsimp only at hSz); go_simp; all_goals (with_reducible rfl)
                (try simp only [Act.put, List.setIfInBounds_toArray, List.set_cons_zero, List.set_cons_succ])
                refine wpAnyH_take (i := 15) (oi := { dst := some 163, op := Op.call { callee := Callee.builtin Builtin.len, args := #[Operand.tmp 162], argTypes := #[39] }, type := 3, pos := "law.go:124", after := #[{ on := 14, ground := Ground.data }], guard := none }) (v := ?_) rfl (by kernel_rfl) (by kernel_rfl) (by kernel_rfl) (fun _ _ _ h => h) (Or.inl ⟨by rfl, ?_⟩) (by assumption) ?_
                rotate_left
                · intro wz hSz; (try dsimp only at hSz); go_simp; all_goals (with_reducible rfl)
                (try simp only [Act.put, List.setIfInBounds_toArray, List.set_cons_zero, List.set_cons_succ])
                refine wpAnyH_take (i := 16) (oi := { dst := some 164, op := Op.binOp BinOp.sub 3 (Operand.tmp 163) (Operand.const (Value.int IntKind.i64 1)) 3, type := 3, pos := "law.go:124", after := #[{ on := 15, ground := Ground.data }], guard := none }) (v := ?_) rfl (by kernel_rfl) (by kernel_rfl) (by kernel_rfl) (fun _ _ _ h => h) (Or.inl ⟨by rfl, ?_⟩) (by assumption) ?_
                rotate_left
                · intro wz hSz; (try dsimp only at hSz); go_simp; all_goals (with_reducible rfl)
                (try simp only [Act.put, List.setIfInBounds_toArray, List.set_cons_zero, List.set_cons_succ])
                refine wpAnyH_take (i := 17) (oi := { dst := some 165, op := Op.indexAddr 39 (Operand.tmp 158) (Operand.tmp 164), type := 0, pos := "law.go:124", after := #[{ on := 10, ground := Ground.data }, { on := 16, ground := Ground.data }], guard := none }) (v := ?_) rfl (by kernel_rfl) (by kernel_rfl) (by kernel_rfl) (fun _ _ _ h => h) (Or.inl ⟨by rfl, ?_⟩) (by assumption) ?_
                rotate_left
                · intro wz hSz; (try dsimp only at hSz); go_simp; all_goals (with_reducible rfl)
                (try simp only [Act.put, List.setIfInBounds_toArray, List.set_cons_zero, List.set_cons_succ])
                refine wpAnyH_take (i := 18) (oi := { dst := some 166, op := Op.load 43 (Operand.tmp 165), type := 43, pos := "law.go:124", after := #[{ on := 17, ground := Ground.data }], guard := none }) (v := ?_) rfl (by kernel_rfl) (by kernel_rfl) (by kernel_rfl) (fun _ _ _ h => h) (Or.inl ⟨by rfl, ?_⟩) (by assumption) ?_
                rotate_left
                · intro wz hSz; (try dsimp only at hSz); go_simp; all_goals (with_reducible rfl)
                (try simp only [Act.put, List.setIfInBounds_toArray, List.set_cons_zero, List.set_cons_succ])
                refine wpAnyH_take (i := 19) (oi := { dst := some 167, op := Op.binOp BinOp.neq 43 (Operand.tmp 154) (Operand.tmp 166) 43, type := 4, pos := "law.go:124", after := #[{ on := 6, ground := Ground.data }, { on := 18, ground := Ground.data }], guard := none }) (v := ?_) rfl (by kernel_rfl) (by kernel_rfl) (by kernel_rfl) (fun _ _ _ h => h) (Or.inl ⟨by rfl, ?_⟩) (by assumption) ?_
                rotate_left
                · intro wz hSz; (try dsimp only at hSz); go_simp; all_goals (with_reducible rfl)
                (try simp only [Act.put, List.setIfInBounds_toArray, List.set_cons_zero, List.set_cons_succ])
                refine wpAnyH_take (i := 20) (oi := { dst := some 168, op := Op.move (Operand.tmp 167), type := 4, pos := "law.go:124", after := #[{ on := 19, ground := Ground.data }], guard := none }) (v := ?_) rfl (by kernel_rfl) (by kernel_rfl) (by kernel_rfl) (fun _ _ _ h => h) (Or.inl ⟨by rfl, ?_⟩) (by assumption) ?_
                rotate_left
                · intro wz hSz; (try dsimp only at hSz); go_simp; all_goals (with_reducible rfl)
                (try simp only [Act.put, List.setIfInBounds_toArray, List.set_cons_zero, List.set_cons_succ])
                refine wpAnyH_take (i := 21) (oi := { dst := some 169, op := Op.move (Operand.tmp 17), type := 36, pos := "law.go:124", after := #[{ on := 20, ground := Ground.guard }], guard := some (20, false) }) (v := ?_) rfl (by kernel_rfl) (by kernel_rfl) (by kernel_rfl) (fun _ _ _ h => h) (Or.inl ⟨by rfl, ?_⟩) (by assumption) ?_
                rotate_left
                · intro wz hSz; (try dsimp only at hSz); go_simp; all_goals (with_reducible rfl)
                (try simp only [Act.put, List.setIfInBounds_toArray, List.set_cons_zero, List.set_cons_succ])
                refine wpAnyH_take (i := 22) (oi := { dst := some 170, op := Op.move (Operand.tmp 22), type := 3, pos := "law.go:124", after := #[{ on := 20, ground := Ground.guard }], guard := some (20, false) }) (v := ?_) rfl (by kernel_rfl) (by kernel_rfl) (by kernel_rfl) (fun _ _ _ h => h) (Or.inl ⟨by rfl, ?_⟩) (by assumption) ?_
                rotate_left
                · intro wz hSz; (try dsimp only at hSz); go_simp; all_goals (with_reducible rfl)
                (try simp only [Act.put, List.setIfInBounds_toArray, List.set_cons_zero, List.set_cons_succ])
                refine wpAnyH_take (i := 23) (oi := { dst := some 171, op := Op.indexAddr 36 (Operand.tmp 169) (Operand.tmp 170), type := 0, pos := "law.go:124", after := #[{ on := 21, ground := Ground.data }, { on := 22, ground := Ground.data }, { on := 20, ground := Ground.guard }], guard := some (20, false) }) (v := ?_) rfl (by kernel_rfl) (by kernel_rfl) (by kernel_rfl) (fun _ _ _ h => h) (Or.inl ⟨by rfl, ?_⟩) (by assumption) ?_
                rotate_left
                · intro wz hSz; (try dsimp only at hSz); go_simp; all_goals (with_reducible rfl)
                (try simp only [Act.put, List.setIfInBounds_toArray, List.set_cons_zero, List.set_cons_succ])
                refine wpAnyH_take (i := 24) (oi := { dst := some 172, op := Op.load 39 (Operand.tmp 171), type := 39, pos := "law.go:124", after := #[{ on := 23, ground := Ground.data }, { on := 20, ground := Ground.guard }], guard := some (20, false) }) (v := ?_) rfl (by kernel_rfl) (by kernel_rfl) (by kernel_rfl) (fun _ _ _ h => h) (Or.inl ⟨by rfl, ?_⟩) (by assumption) ?_
                rotate_left
                · intro wz hSz; (try dsimp only at hSz); go_simp; all_goals (with_reducible rfl)
                (try simp only [Act.put, List.setIfInBounds_toArray, List.set_cons_zero, List.set_cons_succ])
                refine wpAnyH_take (i := 25) (oi := { dst := some 173, op := Op.move (Operand.tmp 23), type := 3, pos := "law.go:124", after := #[{ on := 20, ground := Ground.guard }], guard := some (20, false) }) (v := ?_) rfl (by kernel_rfl) (by kernel_rfl) (by kernel_rfl) (fun _ _ _ h => h) (Or.inl ⟨by rfl, ?_⟩) (by assumption) ?_
                rotate_left
                · intro wz hSz; (try dsimp only at hSz); go_simp; all_goals (with_reducible rfl)
                (try simp only [Act.put, List.setIfInBounds_toArray, List.set_cons_zero, List.set_cons_succ])
                refine wpAnyH_take (i := 26) (oi := { dst := some 174, op := Op.indexAddr 39 (Operand.tmp 172) (Operand.tmp 173), type := 0, pos := "law.go:124", after := #[{ on := 24, ground := Ground.data }, { on := 25, ground := Ground.data }, { on := 20, ground := Ground.guard }], guard := some (20, false) }) (v := ?_) rfl (by kernel_rfl) (by kernel_rfl) (by kernel_rfl) (fun _ _ _ h => h) (Or.inl ⟨by rfl, ?_⟩) (by assumption) ?_
                rotate_left
                · intro wz hSz; (try dsimp only at hSz); go_simp; all_goals (with_reducible rfl)
                (try simp only [Act.put, List.setIfInBounds_toArray, List.set_cons_zero, List.set_cons_succ])
                refine wpAnyH_take (i := 27) (oi := { dst := some 175, op := Op.fieldAddr 43 (Operand.tmp 174) 0, type := 0, pos := "law.go:124", after := #[{ on := 26, ground := Ground.data }, { on := 20, ground := Ground.guard }], guard := some (20, false) }) (v := ?_) rfl (by kernel_rfl) (by kernel_rfl) (by kernel_rfl) (fun _ _ _ h => h) (Or.inl ⟨by rfl, ?_⟩) (by assumption) ?_
                rotate_left
                · intro wz hSz; (try dsimp only at hSz); go_simp; all_goals (with_reducible rfl)
                (try simp only [Act.put, List.setIfInBounds_toArray, List.set_cons_zero, List.set_cons_succ])
                refine wpAnyH_take (i := 28) (oi := { dst := some 176, op := Op.load 3 (Operand.tmp 175), type := 3, pos := "law.go:124", after := #[{ on := 27, ground := Ground.data }, { on := 20, ground := Ground.guard }], guard := some (20, false) }) (v := ?_) rfl (by kernel_rfl) (by kernel_rfl) (by kernel_rfl) (fun _ _ _ h => h) (Or.inl ⟨by rfl, ?_⟩) (by assumption) ?_
                rotate_left
                · intro wz hSz; (try dsimp only at hSz); go_simp; all_goals (with_reducible rfl)
                (try simp only [Act.put, List.setIfInBounds_toArray, List.set_cons_zero, List.set_cons_succ])
                refine wpAnyH_take (i := 29) (oi := { dst := some 177, op := Op.binOp BinOp.lss 3 (Operand.tmp 176) (Operand.const (Value.int IntKind.i64 1000)) 3, type := 4, pos := "law.go:124", after := #[{ on := 28, ground := Ground.data }, { on := 20, ground := Ground.guard }], guard := some (20, false) }) (v := ?_) rfl (by kernel_rfl) (by kernel_rfl) (by kernel_rfl) (fun _ _ _ h => h) (Or.inl ⟨by rfl, ?_⟩) (by assumption) ?_
                rotate_left
                · intro wz hSz; (try dsimp only at hSz); go_simp; all_goals (with_reducible rfl)
                (try simp only [Act.put, List.setIfInBounds_toArray, List.set_cons_zero, List.set_cons_succ])
                refine wpAnyH_take (i := 30) (oi := { dst := some 178, op := Op.pick (Operand.tmp 168) (Operand.const (Value.bool true)) (Operand.tmp 177), type := 4, pos := "law.go:124", after := #[{ on := 20, ground := Ground.data }, { on := 29, ground := Ground.data }], guard := none }) (v := ?_) rfl (by kernel_rfl) (by kernel_rfl) (by kernel_rfl) (fun _ _ _ h => h) (Or.inl ⟨by rfl, ?_⟩) (by assumption) ?_
                rotate_left
                · intro wz hSz; (try dsimp only at hSz); go_simp; all_goals (with_reducible rfl)
                (try simp only [Act.put, List.setIfInBounds_toArray, List.set_cons_zero, List.set_cons_succ])
                refine wpAnyH_done (by kernel_rfl) ?_ _
                refine NoPanic.normal ?_
                go_wp2_with fail
                go_roundg g2
                case measure => omega
                case rel => exact ⟨j + 1, by omega, by push_cast; rfl, hB.out.drew⟩
end Go.Proofs.Ytoaokpmnjppfcaa
