import Derived.Test.YtjfieclmagbfbaaGreatDoorCkK
import Derived.Laws.BitsAllLaws
import Derived.OrdersHeld
import Derived.Deep.RegionHeld
set_option linter.unusedSimpArgs false
set_option linter.unusedVariables false
set_option maxRecDepth 100000
set_option maxHeartbeats 8000000
namespace Go.Proofs.YtjfieclmagbfbaaGreatDoor
open Go.RowKit
theorem waysR_any (G : List Gp) (C : List Cf) (D : List Dt) (TM CT : List ByteArray) (VR : List Vr) (SG : List Ts) (pn : ByteArray) (ga ca da ta ka va sa : Option Addr) (gc cc dc tc kc vc sc : Nat) (stt : Int) (R : List Bool) (ra rc : Nat) (fa : Option Addr) (fc : Nat) (F : List Fd) (w V W : World) (rb : Nat) (h : FP w V rb fa fc F W) (hS : Tss (fun _ => True) w (.slice sa SG.length sc) SG) (hR : BlR V ra SG.length R) (hrr : ra ≠ rb) (lG : G.length ≤ 2932031007317) (lS : SG.length ≤ 256) (hgr : ∀ s ∈ SG, 0 ≤ s.green ∧ s.green < 18446744073709551616) :
  Calls Tryz.prog 48 #[.pointer (some ⟨rb, 0, none⟩), .agg #[.string pn, .slice ga G.length gc, .slice ca C.length cc, .slice da D.length dc, .slice ta TM.length tc, .slice ka CT.length kc, .slice va VR.length vc, .slice sa SG.length sc, .int .i64 stt], .slice (some ⟨ra, 0, none⟩) SG.length rc] W fun e W' => e = .returned (.tuple #[]) ∧ ∃ fa' fc', FP w V rb fa' fc' (addL (addL F (trF R 0 SG)) (neF (usK R 0 SG 0) 0 G)) W' := by
 obtain ⟨_, _, e1, _, kS⟩ := Rows.any hS
 injection e1 with e1 _ e2
 subst e1
 subst e2
 clear hS
 have h1 := h.below (bel1 (.cells #[.string pn, .slice ga G.length gc, .slice ca C.length cc, .slice da D.length dc, .slice ta TM.length tc, .slice ka CT.length kc, .slice va VR.length vc, .slice sa SG.length sc, .int .i64 stt] 31))
 have N1 : Has (W.alloc (.cells #[.string pn, .slice ga G.length gc, .slice ca C.length cc, .slice da D.length dc, .slice ta TM.length tc, .slice ka CT.length kc, .slice va VR.length vc, .slice sa SG.length sc, .int .i64 stt] 31)) W.heap.size #[.string pn, .slice ga G.length gc, .slice ca C.length cc, .slice da D.length dc, .slice ta TM.length tc, .slice ka CT.length kc, .slice va VR.length vc, .slice sa SG.length sc, .int .i64 stt] := Has.new _ _ _ rfl
 have hn1 : ∀ q, (Value.slice fa F.length fc).ownBlock = some q → q ≠ W.heap.size := fun q hq => by have := (zAg h.own q hq).2; omega
 have hnr : W.heap.size ≠ rb := by have := h.box.1; omega
 have c7 := N1.2.1 7
 generalize hA : addL F (trF R 0 SG) = A
 generalize hU : usK R 0 SG 0 = U
 have hU0 : Hid (usK R 0 (SG.drop 0) 0 = U) := hU
 go_enter Tryz.func48, Tryz.ntmps48
 go_wp2_with fail
 generalize (W.alloc (.cells #[.string pn, .slice ga G.length gc, .slice ca C.length cc, .slice da D.length dc, .slice ta TM.length tc, .slice ka CT.length kc, .slice va VR.length vc, .slice sa SG.length sc, .int .i64 stt] 31)) = W1 at *
 clear h c7
 generalize W.heap.size = nb at *
 go_loopw [6, 7] (fun m u wr => ∃ (k M : Nat) (fa0 : Option Addr) (fc0 : Nat) (F0 : List Fd), k ≤ SG.length ∧ m = .int .u64 (M : Int) ∧ u = .int .i64 (k : Int) ∧ M < 18446744073709551616 ∧ Hid (usK R k (SG.drop k) M = U) ∧ Hid (addL F0 (trF R k (SG.drop k)) = A) ∧ Hid (FP w V rb fa0 fc0 F0 wr) ∧ Hid (Has wr nb #[.string pn, .slice ga G.length gc, .slice ca C.length cc, .slice da D.length dc, .slice ta TM.length tc, .slice ka CT.length kc, .slice va VR.length vc, .slice sa SG.length sc, .int .i64 stt]) ∧ Hid (∀ q, (Value.slice fa0 F0.length fc0).ownBlock = some q → q ≠ nb)) (fun _ u _ => SG.length - (intOf u).toNat)
 case atStart => exact ⟨0, 0, fa, fc, F, by omega, rfl, rfl, by omega, hU0, hA, h1, N1, hn1⟩
 case round =>
  clear hA hU0 hU h1 N1 hn1; obtain ⟨k, M, fa0, fc0, F0, hk, rfl, rfl, hM, hu', hq', hr', N', hn'⟩ := hrel; have hu := hu'.out; have hq := hq'.out; have hr0 := hr'.out; have N1 := N'.out; have hn1 : ∀ q, (Value.slice fa0 F0.length fc0).ownBlock = some q → q ≠ nb := hn'.out; clear hu' hq' hr' N' hn'; obtain ⟨_, c0, _⟩ := id N1
  by_cases hlt : k < SG.length
  case neg =>
   have t1 : ¬ (k : Int) < (SG.length : Int) := by omega
   rw [usK_end _ _ _ _ (by omega)] at hu; rw [trF_end _ _ _ (by omega), zAf] at hq; subst hu; subst hq; clear kS hgr; generalize hA : addL F0 (neF M 0 G) = A; have hAA : Hid (addL F0 (neF M 0 G) = A) := hA
   go_wp2_with fail
   clear c0; obtain ⟨w9, hw9⟩ : ∃ x, x = wr := ⟨_, rfl⟩
   go_loopw [8] (fun u wr => ∃ (i : Nat) (fa0 : Option Addr) (fc0 : Nat) (F0 : List Fd), i ≤ G.length ∧ u = .int .i64 (i : Int) ∧ Hid (addL F0 (neF M i (G.drop i)) = A) ∧ Hid (FP w V rb fa0 fc0 F0 wr) ∧ Hid (Has wr nb #[.string pn, .slice ga G.length gc, .slice ca C.length cc, .slice da D.length dc, .slice ta TM.length tc, .slice ka CT.length kc, .slice va VR.length vc, .slice sa SG.length sc, .int .i64 stt]) ∧ Hid (∀ q, (Value.slice fa0 F0.length fc0).ownBlock = some q → q ≠ nb)) (fun u _ => G.length - (intOf u).toNat)
   case atStart => exact ⟨0, fa0, fc0, F0, by omega, rfl, hA, hr0, N1, hn1⟩
   case round =>
    clear hA hr0 N1 hn1 hw9; obtain ⟨i, fa0, fc0, F0, hi, rfl, hq', hr', N', hn'⟩ := hrel; have hq := hq'.out; have hr0 := hr'.out; have N1 := N'.out; have hn1 : ∀ q, (Value.slice fa0 F0.length fc0).ownBlock = some q → q ≠ nb := hn'.out; clear hq' hr' N' hn'; obtain ⟨_, c0, _⟩ := id N1
    by_cases hlg : i < G.length
    case neg =>
     have t1 : ¬ (i : Int) < (G.length : Int) := by omega
     rw [neF_end _ _ _ (by omega), zAf] at hq; have hqq : Hid (F0 = A) := hq; clear hq
     go_wp2_with fail
     go_end0
     exact ⟨rfl, fa0, fc0, by rw [hAA.out, ← hqq.out]; exact hr0⟩
    case pos =>
     have t1 : (i : Int) < (G.length : Int) := by omega
     have t0 : (0 : Int) ≤ (i : Int) := by omega
     have t2 : i + 1 ≤ G.length := hlg; have hH := fun (W : World) => zDc M (i : Int) W hM (by omega)
     rw [neF_drop M G i hlg, zBh] at hq; generalize hasN M (i : Int) = b at *
     cases b with
     | true =>
       rw [if_pos rfl, zAf] at hq
       go_wp2_with (go_at_call 73; (with_reducible refine Calls.mono (hH _) ?_); rintro e w2 ⟨rfl, rfl⟩)
       go_roundw
       case rel => exact ⟨i + 1, fa0, fc0, F0, by omega, by go_num, hq, hr0, N1, hn1⟩
       case measure => simp [intOf]; omega
     | false =>
       rw [if_neg (by simp), zAj] at hq
       go_wp2_with (first | (go_at_call 73; (with_reducible refine Calls.mono (hH _) ?_); rintro e w2 ⟨rfl, rfl⟩) | (go_at_call 72; (with_reducible refine Calls.mono (zAs w V _ rb _ _ F0 66 (-1) (i : Int) (-1) hr0) ?_); rintro e w2 ⟨rfl, fa2, fc2, hr2, ts2⟩; have N2 := ts2.has N1 hnr (fun e => hn1 _ e rfl); have hn2 := ts2.far hn1 (fun q hq2 => (by have e1 := N1.1; omega))))
       go_roundw
       case rel => exact ⟨i + 1, fa2, fc2, _, by omega, by go_num, hq, hr2, N2, hn2⟩
       case measure => simp [intOf]; omega
  case pos =>
   obtain ⟨g, o, rfl, _, hg, hx⟩ := kS.resolve_left (by intro e; rw [e] at hlt; simp at hlt); obtain ⟨cs, _, ⟨ve, vd, vl, vn, rfl, q1, q2, q3, q4⟩, P2⟩ := hx k hlt; obtain ⟨e4, c4, rfl, _, -⟩ := Rows.any q4; have p2 := (hr0.hb.cell (p := ⟨g, _, none⟩) hg).trans (P2 2 _ rfl); have p6 := (hr0.hb.cell (p := ⟨g, _, none⟩) hg).trans (P2 6 _ rfl); have t1 : (k : Int) < (SG.length : Int) := by omega
   have t0 : (0 : Int) ≤ (k : Int) := by omega
   have t2 : k + 1 ≤ SG.length := hlt; obtain ⟨gr1, gr2⟩ := hgr _ (List.getElem_mem hlt); rw [usK_drop R SG k M hlt] at hu; rw [trF_drop R SG k hlt, zBh] at hq; obtain ⟨N, hN⟩ : ∃ N : Nat, SG[k].green = (N : Int) := ⟨SG[k].green.toNat, by omega⟩; rw [hN] at p2 gr2 hu; rw [Int.toNat_natCast] at hu; have hN2 : N < 18446744073709551616 := by omega
   have hor := u64_or_nat M N hM hN2; have hol : M ||| N < 18446744073709551616 := Nat.or_lt_two_pow (n := 64) hM hN2
   have hB1 := (hr0.at_ (i := k) hR.1 hrr).trans (hR.2 k hlt); clear hN gr1 gr2 hgr q1 q2 q3 q4 P2 hx kS; generalize SG[k].nexts.length = n4 at *; generalize sn R k = b at *
   cases b with
   | false =>
     rw [if_neg (by simp)] at hu; rw [if_neg (by simp), zAf] at hq
     go_wp2_with fail
     go_roundw
     case rel => exact ⟨k + 1, M, fa0, fc0, F0, by omega, rfl, by go_num, hM, hu, hq, hr0, N1, hn1⟩
     case measure => simp [intOf]; omega
   | true =>
     rw [if_pos rfl] at hu
     by_cases hn : n4 = 0
     case pos =>
      rw [if_pos ⟨rfl, hn⟩, zAj] at hq; subst hn
      go_wp2_with (go_at_call 72; (with_reducible refine Calls.mono (zAs w V _ rb _ _ F0 65 (k : Int) (-1) (-1) hr0) ?_); rintro e w2 ⟨rfl, fa2, fc2, hr2, ts2⟩; have N2 := ts2.has N1 hnr (fun e => hn1 _ e rfl); have hn2 := ts2.far hn1 (fun q hq2 => (by have e1 := N1.1; omega)))
      go_roundw
      case rel => exact ⟨k + 1, M ||| N, fa2, fc2, _, by omega, by first | rfl | (rw [hor]), by go_num, hol, hu, hq, hr2, N2, hn2⟩
      case measure => simp [intOf]; omega
     case neg =>
      have hn4 : ((n4 : Int) == 0) = false := beq_eq_false_iff_ne.2 (by omega); rw [if_neg (by intro e; exact hn e.2), zAf] at hq; clear hn
      go_wp2_with fail
      go_roundw
      case rel => exact ⟨k + 1, M ||| N, fa0, fc0, F0, by omega, by first | rfl | (rw [hor]), by go_num, hol, hu, hq, hr0, N1, hn1⟩
      case measure => simp [intOf]; omega
theorem clash_zero (n : Nat) : ∀ C : List Cf, zBd n 0 C = (-1, -1, false)
 | [] => rfl
 | c :: cs => by
   have e : hit n 0 c = false := by simp [hit, hasN]
   unfold zBd; rw [e, if_neg (by decide)]; exact clash_zero n cs
theorem ck_sn (n : Nat) (C : List Cf) (SG : List Ts) (k : Nat) (h : k < SG.length) : sn (ckL n C SG) k = (zBd n (gOf SG (k : Int)) C).2.2 := by
 rw [zGm (by simpa [ckL] using h)]
 unfold gOf
 rw [if_neg (by omega), Int.toNat_natCast, List.getElem?_eq_getElem h]
 simp [ckL]
theorem lp_eq {G : List Gp} {C : List Cf} {SG : List Ts} (gr : zBg G C = true) (x y : Int) : lpA G C SG x y = mvF G C (gOf SG x) (gOf SG y) true G 0 0 := by
 have h64 : G.length ≤ 64 := by simp [zBg] at gr; exact gr.1
 have hA : ∀ k, k < G.length → hasN (2 ^ min G.length 64 - 1) (k : Int) = (true || zBw (gOf SG x) (gOf SG y) k) := fun k hk => by
  have e : min G.length 64 = G.length := by omega
  simp only [hasN, Nat.testBit_two_pow_sub_one, Bool.true_or, e]; simp; omega
 have hw : ∀ k, k < G.length → wsA G C k = wF C (gOf SG x) (gOf SG y) true (k : Int) G 0 0 := fun k hk => (wF_wA C (gOf SG x) (gOf SG y) (2 ^ min G.length 64 - 1) true (k : Int) G 0 0 (fun j _ hj => hA j (by omega))).symm
 have e := thF_mvF (ws := wsA G C) (F := gOf SG x) (T := gOf SG y) gr hw (fun k hk => (wA_max C (2 ^ min G.length 64 - 1) (k : Int) G 0 0).1) G.length 0 0 (by omega) (by omega)
 simp only [List.drop_zero] at e
 exact e
theorem span_eq {G : List Gp} {C : List Cf} {SG : List Ts} (gr : zBg G C = true) {x : Int} {t : Nat} (hx : x = -1 ∨ ∃ k : Nat, x = (k : Int) ∧ k < SG.length) (ht : t < SG.length) : spanV G C (gOf SG x) (gOf SG (t : Int)) true = if ckM (ckL G.length C SG) x t = true then (0, 60) else (lpA G C SG x (t : Int), 0) := by
 have e1 : (zBd G.length (gOf SG x) C).2.2 = (decide (x ≠ -1) && sn (ckL G.length C SG) x.toNat) := by
  rcases hx with rfl | ⟨k, rfl, hk⟩
  ·simp [gOf, clash_zero]
  ·rw [Int.toNat_natCast, ck_sn _ _ _ _ hk]
   have : ¬ (k : Int) = -1 := by omega
   simp [this]
 unfold spanV ckM
 rw [gr, if_pos rfl, e1, ← ck_sn _ _ _ _ ht, lp_eq gr]
def vF (G : List Gp) (C : List Cf) (SG : List Ts) (x : Int) (t : Nat) : Int × Int := if ckM (ckL G.length C SG) x t = true then (0, 60) else (lpA G C SG x (t : Int), 0)
theorem slowR_any (G : List Gp) (C : List Cf) (D : List Dt) (TM CT : List ByteArray) (VR : List Vr) (SG : List Ts) (pn : ByteArray) (ga ca da ta ka va sa : Option Addr) (gc cc dc tc kc vc sc : Nat) (stt : Int) (x : Int) (t : Nat) (fa : Option Addr) (fc : Nat) (F : List Fd) (w V W : World) (rb : Nat) (h : FP w V rb fa fc F W) (hG : Fl 5 Gp.cs w (.slice ga G.length gc) G) (hF : Fl 4 Cf.cs w (.slice ca C.length cc) C) (hS : Tss (fun _ => True) w (.slice sa SG.length sc) SG) (lG : G.length ≤ 2932031007317) (lC : C.length ≤ 4398046511000) (lS : SG.length ≤ 256) (gr : zBg G C = true) (ok : ∀ (i : Nat) (h : i < C.length), C[i].ok) (hgr : ∀ s ∈ SG, 0 ≤ s.green ∧ s.green < 18446744073709551616) (hx : x = -1 ∨ ∃ k : Nat, x = (k : Int) ∧ k < SG.length) (ht : t < SG.length) :
  Calls Tryz.prog 49 #[.pointer (some ⟨rb, 0, none⟩), .agg #[.string pn, .slice ga G.length gc, .slice ca C.length cc, .slice da D.length dc, .slice ta TM.length tc, .slice ka CT.length kc, .slice va VR.length vc, .slice sa SG.length sc, .int .i64 stt], .int .i64 x, .int .u64 ((gOf SG x : Nat) : Int), .int .i64 (t : Int)] W fun e W' => e = .returned (.tuple #[]) ∧ ∃ fa' fc', FP w V rb fa' fc' (addL F (slX (ckL G.length C SG) (lpA G C SG) (x, (t : Int)))) W' := by
 obtain ⟨_, _, e1, _, kS⟩ := Rows.any hS
 injection e1 with e1 _ e2
 subst e1
 subst e2
 obtain ⟨g, o, rfl, _, hg, hxx⟩ := kS.resolve_left (by intro e; rw [e] at ht; simp at ht)
 clear hS kS
 have hgl := gOf_lt hgr
 have k74 : ∀ X : World, Below w.heap.size w X → Calls Tryz.prog 74 #[.agg #[.slice ga G.length gc, .slice ca C.length cc], .int .u64 ((gOf SG x : Nat) : Int), .int .u64 ((gOf SG (t : Int) : Nat) : Int)] X fun e w' => e = .returned (.tuple #[.int .i64 (vF G C SG x t).1, .int .i64 (vF G C SG x t).2]) ∧ Below X.heap.size X w' := fun X hX => by
  have := refLongest_any G C (.slice ga G.length gc) (.slice ca C.length cc) (gOf SG x) (gOf SG (t : Int)) X (hgl _) (hgl _) (hG.below hX) (hF.below hX) lG lC ok; rw [span_eq gr hx ht] at this; exact this
 have qS : ∀ X : World, Below w.heap.size w X → X.cell? ⟨g, o + t * 7 + 2, none⟩ = some (.int .u64 ((gOf SG (t : Int) : Nat) : Int)) := fun X hX => by
  obtain ⟨cs, _, ⟨ve, vd, vl, vn, rfl, q1, q2, q3, q4⟩, P2⟩ := hxx t ht; rw [← gOf_nat SG t ht (hgr _ (List.getElem_mem ht)).1]; exact (hX.cell (p := ⟨g, _, none⟩) hg).trans (P2 2 _ rfl)
 unfold vF at k74
 clear hG hF hgr hxx hgl gr ok hx
 have h1 := h.below (bel1 (.cells #[.string pn, .slice ga G.length gc, .slice ca C.length cc, .slice da D.length dc, .slice ta TM.length tc, .slice ka CT.length kc, .slice va VR.length vc, .slice (some ⟨g, o, none⟩) SG.length sc, .int .i64 stt] 31))
 have N1 : Has (W.alloc (.cells #[.string pn, .slice ga G.length gc, .slice ca C.length cc, .slice da D.length dc, .slice ta TM.length tc, .slice ka CT.length kc, .slice va VR.length vc, .slice (some ⟨g, o, none⟩) SG.length sc, .int .i64 stt] 31)) W.heap.size #[.string pn, .slice ga G.length gc, .slice ca C.length cc, .slice da D.length dc, .slice ta TM.length tc, .slice ka CT.length kc, .slice va VR.length vc, .slice (some ⟨g, o, none⟩) SG.length sc, .int .i64 stt] := Has.new _ _ _ rfl
 have hn1 : ∀ q, (Value.slice fa F.length fc).ownBlock = some q → q ≠ W.heap.size := fun q hq => by have := (zAg h.own q hq).2; omega
 have hnr : W.heap.size ≠ rb := by have := h.box.1; omega
 have cf := h1.box.2.1 0
 have t1 : (t : Int) < (SG.length : Int) := by omega
 have t0 : (0 : Int) ≤ (t : Int) := by omega
 unfold slX
 simp only [Int.toNat_natCast]
 generalize lpA G C SG x (t : Int) = lp at *
 generalize ckM (ckL G.length C SG) x t = ck at *
 generalize gOf SG x = F1 at *
 generalize hF2 : gOf SG (t : Int) = F2 at *
 by_cases hfl : 64 ≤ F.length
 case pos =>
  have t3 : (64 : Int) ≤ (F.length : Int) := by omega
  rw [addL_full hfl]; go_enter Tryz.func49, Tryz.ntmps49
  go_wp2_with fail
  exact bodyPost_ret (v := .tuple #[]) (by simp [results, Tryz.results49, go_sem]) rfl ⟨rfl, fa, fc, h1⟩
 case neg =>
  have t3 : ¬ (64 : Int) ≤ (F.length : Int) := by omega
  cases ck with
  | true =>
    simp only [if_true] at k74 ⊢; rw [zAf]; go_enter Tryz.func49, Tryz.ntmps49
    go_wp2_with fail
    clear cf; refine wp_region_noPanic ?_; refine wp_region_held_drew (S := fun w' => w'.cell? ⟨W.heap.size, 1, none⟩ = some (.slice ga G.length gc) ∧ w'.cell? ⟨W.heap.size, 2, none⟩ = some (.slice ca C.length cc) ∧ w'.cell? ⟨W.heap.size, 7, none⟩ = some (.slice (some ⟨g, o, none⟩) SG.length sc) ∧ w'.cell? ⟨g, o + t * 7 + 2, none⟩ = some (.int .u64 (F2 : Int))) (by kernel_rfl) ?_ (fun hHeld => ?_)
    ·(try dsimp only)
     exact ⟨N1.drew.2.1 1, N1.drew.2.1 2, N1.drew.2.1 7, qS _ h1.drew.hb⟩
    refine tkY 0 ?_; refine tkY 1 ?_; refine tkY 2 ?_; refine tkY 3 ?_; refine tkY 4 ?_; refine tkY 5 ?_; refine tkY 6 ?_; refine tkY 7 ?_; refine tkY 8 ?_; refine wpAnyH_ready (rs := [9]) (by kernel_rfl) (by simp) ?_; refine AllReadyH.cons (o := ⟨some 28, .call { callee := Callee.value (.func 74), args := #[.tmp 20, .tmp 21, .tmp 27], argTypes := #[25, 47, 47] }, 59, "safety.go:233", #[⟨1, .data⟩, ⟨2, .data⟩, ⟨8, .data⟩], none⟩) rfl (fun K hK => ?_) AllReadyH.nil
    go_simp
    go_at_call 74
    (with_reducible refine Calls.mono (k74 _ h1.drew.hb) ?_)
    rintro e w2 ⟨rfl, h2⟩; have hr2 := h1.drew.below h2; have N2 := N1.drew.below h2
    go_wp2_with fail
    refine hK.out _ _ ?_ (fun hHeld => ?_)
    ·(try dsimp only)
     exact ⟨N2.2.1 1, N2.2.1 2, N2.2.1 7, qS _ hr2.hb⟩
    clear hK K
    (try simp only [Act.put, List.setIfInBounds_toArray, List.set_cons_zero, List.set_cons_succ])
    refine tkY 10 ?_; refine tkY 11 ?_; refine tkY 12 ?_; refine tkY 13 ?_; refine tkY 14 ?_; refine wpAnyH_done (by kernel_rfl) ?_ _; refine NoPanic.normal ?_
    go_wp2_with fail
    go_end0
    exact ⟨rfl, fa, fc, hr2⟩
  | false =>
    simp only [Bool.false_eq_true, if_false] at k74 ⊢
    by_cases hlp : 3600 < lp
    case pos =>
     rw [if_pos hlp, zAj]; go_enter Tryz.func49, Tryz.ntmps49
     go_wp2_with fail
     clear cf; refine wp_region_noPanic ?_; refine wp_region_held_drew (S := fun w' => w'.cell? ⟨W.heap.size, 1, none⟩ = some (.slice ga G.length gc) ∧ w'.cell? ⟨W.heap.size, 2, none⟩ = some (.slice ca C.length cc) ∧ w'.cell? ⟨W.heap.size, 7, none⟩ = some (.slice (some ⟨g, o, none⟩) SG.length sc) ∧ w'.cell? ⟨g, o + t * 7 + 2, none⟩ = some (.int .u64 (F2 : Int))) (by kernel_rfl) ?_ (fun hHeld => ?_)
     ·(try dsimp only)
      exact ⟨N1.drew.2.1 1, N1.drew.2.1 2, N1.drew.2.1 7, qS _ h1.drew.hb⟩
     refine tkY 0 ?_; refine tkY 1 ?_; refine tkY 2 ?_; refine tkY 3 ?_; refine tkY 4 ?_; refine tkY 5 ?_; refine tkY 6 ?_; refine tkY 7 ?_; refine tkY 8 ?_; refine wpAnyH_ready (rs := [9]) (by kernel_rfl) (by simp) ?_; refine AllReadyH.cons (o := ⟨some 28, .call { callee := Callee.value (.func 74), args := #[.tmp 20, .tmp 21, .tmp 27], argTypes := #[25, 47, 47] }, 59, "safety.go:233", #[⟨1, .data⟩, ⟨2, .data⟩, ⟨8, .data⟩], none⟩) rfl (fun K hK => ?_) AllReadyH.nil
     go_simp
     go_at_call 74
     (with_reducible refine Calls.mono (k74 _ h1.drew.hb) ?_)
     rintro e w2 ⟨rfl, h2⟩; have hr2 := h1.drew.below h2; have N2 := N1.drew.below h2
     go_wp2_with fail
     refine hK.out _ _ ?_ (fun hHeld => ?_)
     ·(try dsimp only)
      exact ⟨N2.2.1 1, N2.2.1 2, N2.2.1 7, qS _ hr2.hb⟩
     clear hK K
     (try simp only [Act.put, List.setIfInBounds_toArray, List.set_cons_zero, List.set_cons_succ])
     refine tkY 10 ?_; refine tkY 11 ?_; refine tkY 12 ?_; refine tkY 13 ?_; refine tkY 14 ?_; refine wpAnyH_done (by kernel_rfl) ?_ _; refine NoPanic.normal ?_
     go_wp2_with (go_at_call 72; (with_reducible refine Calls.mono (zAs w V _ rb _ _ F 67 x (-1) (t : Int) hr2) ?_); rintro e w4 ⟨rfl, fa4, fc4, hr4, ts4⟩)
     go_end0
     exact ⟨rfl, fa4, fc4, hr4⟩
    case neg =>
     rw [if_neg hlp, zAf]; go_enter Tryz.func49, Tryz.ntmps49
     go_wp2_with fail
     clear cf; refine wp_region_noPanic ?_; refine wp_region_held_drew (S := fun w' => w'.cell? ⟨W.heap.size, 1, none⟩ = some (.slice ga G.length gc) ∧ w'.cell? ⟨W.heap.size, 2, none⟩ = some (.slice ca C.length cc) ∧ w'.cell? ⟨W.heap.size, 7, none⟩ = some (.slice (some ⟨g, o, none⟩) SG.length sc) ∧ w'.cell? ⟨g, o + t * 7 + 2, none⟩ = some (.int .u64 (F2 : Int))) (by kernel_rfl) ?_ (fun hHeld => ?_)
     ·(try dsimp only)
      exact ⟨N1.drew.2.1 1, N1.drew.2.1 2, N1.drew.2.1 7, qS _ h1.drew.hb⟩
     refine tkY 0 ?_; refine tkY 1 ?_; refine tkY 2 ?_; refine tkY 3 ?_; refine tkY 4 ?_; refine tkY 5 ?_; refine tkY 6 ?_; refine tkY 7 ?_; refine tkY 8 ?_; refine wpAnyH_ready (rs := [9]) (by kernel_rfl) (by simp) ?_; refine AllReadyH.cons (o := ⟨some 28, .call { callee := Callee.value (.func 74), args := #[.tmp 20, .tmp 21, .tmp 27], argTypes := #[25, 47, 47] }, 59, "safety.go:233", #[⟨1, .data⟩, ⟨2, .data⟩, ⟨8, .data⟩], none⟩) rfl (fun K hK => ?_) AllReadyH.nil
     go_simp
     go_at_call 74
     (with_reducible refine Calls.mono (k74 _ h1.drew.hb) ?_)
     rintro e w2 ⟨rfl, h2⟩; have hr2 := h1.drew.below h2; have N2 := N1.drew.below h2
     go_wp2_with fail
     refine hK.out _ _ ?_ (fun hHeld => ?_)
     ·(try dsimp only)
      exact ⟨N2.2.1 1, N2.2.1 2, N2.2.1 7, qS _ hr2.hb⟩
     clear hK K
     (try simp only [Act.put, List.setIfInBounds_toArray, List.set_cons_zero, List.set_cons_succ])
     refine tkY 10 ?_; refine tkY 11 ?_; refine tkY 12 ?_; refine tkY 13 ?_; refine tkY 14 ?_; refine wpAnyH_done (by kernel_rfl) ?_ _; refine NoPanic.normal ?_
     go_wp2_with fail
     go_end0
     exact ⟨rfl, fa, fc, hr2⟩
def chF (G : List Gp) (C : List Cf) (R : List Bool) (SG : List Ts) (st : Int) : List Fd :=
 addL (addL (addL (addL (addL (addL [] (lnF 0 G)) (igF (shL G C))) (scF C 0 SG)) (trF R 0 SG)) (neF (usK R 0 SG 0) 0 G)) (slF (ckL G.length C SG) (lpA G C SG) (mvsL R SG st))
def ChP (ok : Bool) (G : List Gp) (C : List Cf) (SG : List Ts) (stt : Int) (w : World) (e : Ending) (w' : World) : Prop :=
 if ok then ∃ (R : List Bool) (fa : Option Addr) (fc : Nat), RI (zBt SG).length stt.toNat (goN (zBt SG)) R [] ∧ e = .returned (.tuple #[.slice fa (chF G C R SG stt).length fc, .int .i64 0]) ∧ w'.ownsRow w.heap.size 70 4 (.slice fa (chF G C R SG stt).length fc) (chF G C R SG stt).length (zAc Fd.cs (chF G C R SG stt)) ∧ Below w.heap.size w w'
 else e = .returned (.tuple #[.slice none 0 0, .int .i64 80]) ∧ Below w.heap.size w w'
theorem grid_sort {G : List Gp} {C : List Cf} (h : zBg G C = true) : ∀ g ∈ G, 1 ≤ g.sort ∧ g.sort ≤ 2 := by
 intro g hg
 simp [zBg] at h
 have := h.2.1 g hg
 simp [gpB] at this
 omega
theorem check_any (G : List Gp) (C : List Cf) (D : List Dt) (TM CT : List ByteArray) (VR : List Vr) (SG : List Ts) (pn : ByteArray) (ga ca da ta ka va sa : Option Addr) (gc cc dc tc kc vc sc : Nat) (stt : Int) (w : World) (h : TPl w G C D TM CT VR SG pn ga ca da ta ka va sa gc cc dc tc kc vc sc stt) (hW : Wt w) (nt : Ndt w) (ok : ∀ (i : Nat) (h : i < C.length), C[i].ok) (hgr : ∀ s ∈ SG, 0 ≤ s.green ∧ s.green < 18446744073709551616) :
  Calls Tryz.prog 8 #[(.agg #[.string pn, .slice ga G.length gc, .slice ca C.length cc, .slice da D.length dc, .slice ta TM.length tc, .slice ka CT.length kc, .slice va VR.length vc, .slice sa SG.length sc, .int .i64 stt])] w fun e w' => ChP (sdB G C D TM CT VR SG pn stt) G C SG stt w e w' := by
 have hb0 : Below w.heap.size w (w.alloc (.cells #[.string pn, .slice ga G.length gc, .slice ca C.length cc, .slice da D.length dc, .slice ta TM.length tc, .slice ka CT.length kc, .slice va VR.length vc, .slice sa SG.length sc, .int .i64 stt] 31)) := bel1 _
 have K0 : Has (w.alloc (.cells #[.string pn, .slice ga G.length gc, .slice ca C.length cc, .slice da D.length dc, .slice ta TM.length tc, .slice ka CT.length kc, .slice va VR.length vc, .slice sa SG.length sc, .int .i64 stt] 31)) w.heap.size #[.string pn, .slice ga G.length gc, .slice ca C.length cc, .slice da D.length dc, .slice ta TM.length tc, .slice ka CT.length kc, .slice va VR.length vc, .slice sa SG.length sc, .int .i64 stt] := Has.new _ _ _ rfl
 have k7 := sound_any G C D TM CT VR SG pn ga ca da ta ka va sa gc cc dc tc kc vc sc stt (w.alloc (.cells #[.string pn, .slice ga G.length gc, .slice ca C.length cc, .slice da D.length dc, .slice ta TM.length tc, .slice ka CT.length kc, .slice va VR.length vc, .slice sa SG.length sc, .int .i64 stt] 31)) (h.below hb0) (hW.be hb0)
 have hw2 := @sd_ways G C D TM CT VR SG pn stt
 have hw3 := @sd_more G C D TM CT VR SG pn stt
 have hGG := h.hG
 have hFF := h.hF
 have hSS := h.hS
 have lG := h.lG
 have lC := h.lF
 clear h
 generalize sdB G C D TM CT VR SG pn stt = B at *
 obtain ⟨_, v1, v2⟩ := id K0
 go_enter Tryz.func8, Tryz.ntmps8
 go_wp2_with fail
 go_at_call 20
 refine Calls.mono k7 ?_
 rintro e w1 ⟨rfl, h1⟩
 have hb1 := zAa hb0 hb0.size h1
 have K1 := K0.below h1
 clear v1 v2 k7
 obtain ⟨_, v1, v2⟩ := id K1
 cases B with
 | false =>
   clear hw2 hw3 hSS
   go_wp2_with fail
   go_ret2
   exact ⟨rfl, hb1⟩
 | true =>
   obtain ⟨l1, l2, l3, l4⟩ := hw2 rfl; obtain ⟨gr, lcg⟩ := hw3 rfl; obtain ⟨st, rfl⟩ : ∃ st : Nat, stt = (st : Int) := ⟨stt.toNat, by omega⟩; have hst : st < SG.length := by omega
   have k21 := planOf_any G C D TM CT VR SG pn ga ca da ta ka va sa gc cc dc tc kc vc sc st w1 (hGG.below hb1) (hFF.below hb1) (Tss.below hSS hb1) lG lC ok gr l1 l2 hst hgr; clear hw2 hw3 K0 hb0
   go_wp2_with fail
   go_at_call 21; refine Calls.mono k21 ?_; rintro e w2 ⟨mb, ra, qa, wc, wa, R, rfl, hRI, hBR, hBQ, hWs, hOm, h2⟩; have hb2 := zAa hb1 hb1.size h2; have nt2 : Ndt w2 := nt.be hb2; have hG2 := hGG.below hb2; have hF2 := hFF.below hb2; have hS2 := Tss.below hSS hb2; have P3 : Has (w2.alloc (.cells #[.string pn, .slice ga G.length gc, .slice ca C.length cc, .slice da D.length dc, .slice ta TM.length tc, .slice ka CT.length kc, .slice va VR.length vc, .slice sa SG.length sc, .int .i64 (st : Int), .slice ga G.length gc, .map (some mb), .slice (some ⟨ra, 0, none⟩) SG.length SG.length, .slice (some ⟨qa, 0, none⟩) SG.length SG.length, .slice wa G.length wc, .slice none 0 0] 85)) w2.heap.size #[.string pn, .slice ga G.length gc, .slice ca C.length cc, .slice da D.length dc, .slice ta TM.length tc, .slice ka CT.length kc, .slice va VR.length vc, .slice sa SG.length sc, .int .i64 (st : Int), .slice ga G.length gc, .map (some mb), .slice (some ⟨ra, 0, none⟩) SG.length SG.length, .slice (some ⟨qa, 0, none⟩) SG.length SG.length, .slice wa G.length wc, .slice none 0 0] := Has.new _ _ _ rfl; have hr3 : RP w2 w2.heap.size #[.string pn, .slice ga G.length gc, .slice ca C.length cc, .slice da D.length dc, .slice ta TM.length tc, .slice ka CT.length kc, .slice va VR.length vc, .slice sa SG.length sc, .int .i64 (st : Int), .slice ga G.length gc, .map (some mb), .slice (some ⟨ra, 0, none⟩) SG.length SG.length, .slice (some ⟨qa, 0, none⟩) SG.length SG.length, .slice wa G.length wc] none 0 [] (w2.alloc (.cells #[.string pn, .slice ga G.length gc, .slice ca C.length cc, .slice da D.length dc, .slice ta TM.length tc, .slice ka CT.length kc, .slice va VR.length vc, .slice sa SG.length sc, .int .i64 (st : Int), .slice ga G.length gc, .map (some mb), .slice (some ⟨ra, 0, none⟩) SG.length SG.length, .slice (some ⟨qa, 0, none⟩) SG.length SG.length, .slice wa G.length wc, .slice none 0 0] 85)) := ⟨bel1 _, P3, World.ownsRow_nil _ _ _ _, Nat.le_refl _, (by intro e; cases e), by simp, rfl⟩; clear k21 v1 v2 K1 P3
   go_wp2_with (first | (go_at_call 22; (with_reducible refine Calls.mono (lengths_any G C D TM CT VR SG pn ga ca da ta ka va sa wa gc cc dc tc kc vc sc mb ra SG.length qa SG.length wc (st : Int) _ _ _ w2 _ w2.heap.size hr3 hG2 lG (grid_sort gr) nt2) ?_); rintro e w4 ⟨rfl, fa4, fc4, hr4⟩; have c4 := hr4.at14) | (go_at_call 23; (with_reducible refine Calls.mono (intergreens_any G C D TM CT VR SG pn ga ca da ta ka va sa wa gc cc dc tc kc vc sc mb ra SG.length qa SG.length wc (st : Int) _ _ _ w2 _ w2.heap.size hr4 hG2 lG lC gr ok hOm) ?_); rintro e w5 ⟨rfl, fa5, fc5, hr5⟩; have c5 := hr5.at14) | (go_at_call 24; (with_reducible refine Calls.mono (zGw G C D TM CT VR SG pn ga ca da ta ka va sa wa gc cc dc tc kc vc sc mb ra SG.length qa SG.length wc (st : Int) _ _ _ w2 _ w2.heap.size hr5 hS2 hF2 l1 lC ok hgr) ?_); rintro e w6 ⟨rfl, fa6, fc6, hr6⟩; have c6 := hr6.at14) | (go_at_call 25; (with_reducible refine Calls.mono (traps_any G C D TM CT VR SG pn ga ca da ta ka va sa wa gc cc dc tc kc vc sc mb ra SG.length qa SG.length wc (st : Int) R _ _ _ w2 _ w2.heap.size hr6 hS2 hBR l1) ?_); rintro e w7 ⟨rfl, fa7, fc7, hr7⟩; have c7 := hr7.at14) | (go_at_call 26; (with_reducible refine Calls.mono (unused_any G C D TM CT VR SG pn ga ca da ta ka va sa wa gc cc dc tc kc vc sc mb ra SG.length qa SG.length wc (st : Int) R _ _ _ w2 _ w2.heap.size hr7 hS2 hBR l1 hgr lG) ?_); rintro e w8 ⟨rfl, fa8, fc8, hr8⟩; have c8 := hr8.at14) | (go_at_call 27; (with_reducible refine Calls.mono (slowness_any G C D TM CT VR SG pn ga ca da ta ka va sa wa gc cc dc tc kc vc sc mb ra SG.length qa SG.length wc st R _ _ _ w2 _ w2.heap.size hr8 hS2 hG2 hBR hBQ l1 lcg lG gr l2 hst hgr hWs) ?_); rintro e w9 ⟨rfl, fa9, fc9, hr9⟩; have c9 := hr9.at14))
   go_ret2
   refine ⟨R, fa9, fc9, by rw [Int.toNat_natCast]; exact hRI, rfl, zBc hr9.own hb2.size, hb2.trans (hr9.hb.mono hb2.size)⟩
section
variable {P : Program} {md : Region.Mode} {ops : Array Oper} {Q : Exit → Act → World → Prop} {S : World → Prop} {E : Nat}
def zEj (P : Program) (md : Region.Mode) (ops : Array Oper) (Q : Exit → Act → World → Prop) (S : World → Prop) (E : Nat) : Nat → Array Bool → Act → World → Prop
 | 0, listed, a, w => Region.ready md ops listed = [] ∧ Q .normal a w
 | fuel + 1, listed, a, w =>
   (Region.ready md ops listed = [] → Q .normal a w) ∧
   ∀ i ∈ Region.ready md ops listed, wpOp P ops Q i (fun a' w' => (i ≠ E → S w') ∧ zEj P md ops Q S E fuel (listed.setIfInBounds i true) a' w') a w
theorem wpAny_of_E : ∀ (fuel : Nat) (listed : Array Bool) (a : Act) (w : World), zEj P md ops Q S E fuel listed a w → wpAny P md ops Q fuel listed a w
 | 0, _, _, _, h => h
 | fuel + 1, _, _, _, h => ⟨h.1, fun i hi => wpOp_mono (fun a' w' h' => wpAny_of_E fuel _ a' w' h'.2) (h.2 i hi)⟩
theorem wp_region_E {id : Nat} {a : Act} {w : World} (hm : P.follows .mixedOrders = true) (hS : S w.drew)
  (h : S w.drew → zEj P .any ops Q S E ops.size (Array.replicate ops.size false) a w.drew) : (Code.region id ops true).wp P Q a w :=
 wp_region_any hm (wpAny_of_E _ _ _ _ (h hS))
theorem wpAnyE_first {i : Nat} {oi : Oper} {v : Value} (hi : ops[i]? = some oi) (hsel : ∀ (j : Nat) (o : Oper) cs b, ops[j]? = some o → o.op ≠ .select cs b)
  (hQ : ∀ c a w, Q (.panic c) (a.put oi.dst v) w → Q (.panic c) a w) (hiE : i ≠ E) (hE : ∀ oE, ops[E]? = some oE → ∃ e ∈ oE.after, Region.binds md e = true ∧ e.on = i) :
  ∀ (fuel : Nat) (listed : Array Bool) (a : Act) (w : World),
   (∀ j oj, ops[j]? = some oj → j ≠ i → listed.getD j true = false → (∀ e ∈ oj.after, Region.binds md e = true → e.on ≠ i) → oi.apart ops oj = true) →
   i ∈ Region.ready md ops listed → YieldsIf P ops S oi v a → S w →
   zEj P md ops Q S E fuel (listed.setIfInBounds i true) (a.put oi.dst v) w → zEj P md ops Q S E (fuel + 1) listed a w := by
 intro fuel
 induction fuel with
 | zero =>
   intro listed a w _ hr hy hS H; refine ⟨fun h => (by rw [h] at hr; cases hr), fun j hj => ?_⟩
   by_cases hji : j = i
   ·subst hji; exact hy.wpOp hi hS ⟨fun _ => hS, H⟩
   ·have := ready_mono hj hji
    rw [H.1] at this
    cases this
 | succ fuel ih =>
   intro listed a w hfree hr hy hS H; refine ⟨fun h => (by rw [h] at hr; cases hr), fun j hj => ?_⟩
   by_cases hji : j = i
   ·subst hji; exact hy.wpOp hi hS ⟨fun _ => hS, H⟩
   ·have h1 := H.2 j (ready_mono hj hji)
    obtain ⟨hjun, oj, hoj, hall⟩ := mem_ready.1 hj; have hnot : ∀ e ∈ oj.after, Region.binds md e = true → e.on ≠ i := fun e he hb heq => by
     have h1 := hall e he hb; have h0 := (mem_ready.1 hr).1; rw [heq] at h1; rcases Nat.lt_or_ge i listed.size with h' | h'
     ·simp [h'] at h0 h1; rw [h0] at h1; cases h1
     ·simp [Array.getElem?_eq_none h'] at h1
    have hjE : j ≠ E := fun e => by
     subst e; obtain ⟨e, he, hb, ho⟩ := hE oj hoj; exact hnot e he hb ho
    have h2 := wpOp_putIf hoj (hfree j oj hoj hji hjun hnot) (fun cs b => hsel i oi cs b hi) (fun cs b => hsel j oj cs b hoj) hQ hy h1; have hfree' : ∀ k ok, ops[k]? = some ok → k ≠ i → (listed.setIfInBounds j true).getD k true = false →
      (∀ e ∈ ok.after, Region.binds md e = true → e.on ≠ i) → oi.apart ops ok = true := fun k ok hk hki hun hno => by
     refine hfree k ok hk hki ?_ hno
     by_cases hjk : j = k
     ·subst hjk; exact hjun
     ·rw [getD_set_ne true hjk] at hun; exact hun
    refine wpOp_mono (fun a' w' h3 => ⟨fun _ => h3.2.1 hjE, ih (listed.setIfInBounds j true) a' w' hfree' (ready_mono hr (Ne.symm hji)) h3.1 (h3.2.1 hjE) ?_⟩) h2; rw [Array.setIfInBounds_comm _ _ hji]; exact h3.2.2
def waitsB (md : Region.Mode) (ops : Array Oper) (E i : Nat) : Bool := decide (i ≠ E) && ((ops[E]?).map (·.after.toList.any fun e => Region.binds md e && decide (e.on = i))).getD true
theorem zAy {i : Nat} {oi : Oper} {v : Value} {fuel : Nat} {listed : Array Bool} {a : Act} {w : World} (hi : ops[i]? = some oi)
  (hs : Region.noSelect ops = true) (hf : Region.free md ops listed i = true) (hr : (Region.ready md ops listed).contains i = true) (hE : waitsB md ops E i = true)
  (hQ : ∀ c a w, Q (.panic c) (a.put oi.dst v) w → Q (.panic c) a w) (hy : YieldsIf P ops S oi v a) (hS : S w)
  (h : zEj P md ops Q S E fuel (listed.setIfInBounds i true) (a.put oi.dst v) w) : zEj P md ops Q S E (fuel + 1) listed a w := by
 unfold waitsB at hE
 rw [Bool.and_eq_true, decide_eq_true_eq] at hE
 refine wpAnyE_first hi (Region.noSelect_spec hs) hQ hE.1 (fun oE ho => ?_) fuel listed a w (Region.free_spec hi hf) (by simpa using hr) hy hS h
 have h2 := hE.2
 rw [ho] at h2
 simp only [Option.map_some, Option.getD_some, List.any_eq_true] at h2
 obtain ⟨e, he, hb⟩ := h2
 rw [Bool.and_eq_true, decide_eq_true_eq] at hb
 exact ⟨e, by simpa using he, hb.1, hb.2⟩
theorem wpAnyE_last {o : Oper} {fuel : Nat} {listed : Array Bool} {a : Act} {w : World} (hr : Region.ready md ops listed = [E]) (ho : ops[E]? = some o) (hd : Region.ready md ops (listed.setIfInBounds E true) = [])
  (hw : Region.wanted o (yielded ops a.tmps) = true) (h : ∀ K : Act → World → Prop, (∀ a' w', Q .normal a' w' → K a' w') → Oper.wp P o a w K Q) : zEj P md ops Q S E (fuel + 1) listed a w := by
 refine ⟨fun h0 => (by rw [hr] at h0; cases h0), fun i hi => ?_⟩
 rw [hr] at hi
 obtain rfl : i = E := by simpa using hi
 have hst := h (fun a' w' => (i ≠ i → S w') ∧ zEj P md ops Q S i fuel (listed.setIfInBounds i true) a' w') (fun a' w' hq => ⟨fun e => absurd rfl e, by
  cases fuel with
  | zero => exact ⟨hd, hq⟩
  | succ f => exact ⟨fun _ => hq, by rw [hd]; simp⟩⟩)
 unfold wpOp
 rw [ho]
 dsimp only
 rw [if_pos hw]
 exact .inl hst
end
section
variable {P : Program} {md : Region.Mode} {ops : Array Oper} {Q : Exit → Act → World → Prop} {S : World → Prop} {E : Nat}
theorem zFz {i : Nat} {o : Oper} {fuel : Nat} {listed : Array Bool} {a : Act} {w : World} (hr : Region.ready md ops listed = [i]) (ho : ops[i]? = some o)
  (hw : Region.wanted o (yielded ops a.tmps) = true) (h : ∀ K : Act → World → Prop, Hid (∀ a' w', S w' → (S w' → zEj P md ops Q S E fuel (listed.setIfInBounds i true) a' w') → K a' w') → Oper.wp P o a w K Q) : zEj P md ops Q S E (fuel + 1) listed a w := by
 refine ⟨fun h0 => (by rw [hr] at h0; cases h0), fun j hj => ?_⟩
 rw [hr] at hj
 obtain rfl : j = i := by simpa using hj
 have hst := h (fun a' w' => (j ≠ E → S w') ∧ zEj P md ops Q S E fuel (listed.setIfInBounds j true) a' w') (fun a' w' hS hq => ⟨fun _ => hS, hq hS⟩)
 unfold wpOp
 rw [ho]
 dsimp only
 rw [if_pos hw]
 exact .inl hst
end
end Go.Proofs.YtjfieclmagbfbaaGreatDoor
