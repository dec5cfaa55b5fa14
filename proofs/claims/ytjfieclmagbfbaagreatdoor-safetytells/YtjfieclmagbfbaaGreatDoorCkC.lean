import Derived.Test.YtjfieclmagbfbaaGreatDoorCkB
import Derived.Laws.BitsAllLaws
set_option linter.unusedSimpArgs false
set_option linter.unusedVariables false
set_option maxRecDepth 100000
set_option maxHeartbeats 8000000
namespace Go.Proofs.YtjfieclmagbfbaaGreatDoor
open Go.RowKit
def trF (R : List Bool) : Nat → List Ts → List Fd
 | _, [] => []
 | k, s :: L => (if sn R k = true ∧ s.nexts.length = 0 then [⟨65, k, -1, -1⟩] else []) ++ trF R (k + 1) L
theorem trF_drop (R : List Bool) (SG : List Ts) (k : Nat) (h : k < SG.length) : trF R k (SG.drop k) = (if sn R k = true ∧ SG[k].nexts.length = 0 then [⟨65, k, -1, -1⟩] else []) ++ trF R (k + 1) (SG.drop (k + 1)) := by
 rw [List.drop_eq_getElem_cons h]; rfl
theorem trF_end (R : List Bool) (SG : List Ts) (k : Nat) (h : SG.length ≤ k) : trF R k (SG.drop k) = [] := by
 rw [List.drop_eq_nil_of_le h]; rfl
def usK (R : List Bool) : Nat → List Ts → Nat → Nat
 | _, [], M => M
 | k, s :: L, M => usK R (k + 1) L (if sn R k = true then M ||| s.green.toNat else M)
theorem usK_drop (R : List Bool) (SG : List Ts) (k M : Nat) (h : k < SG.length) : usK R k (SG.drop k) M = usK R (k + 1) (SG.drop (k + 1)) (if sn R k = true then M ||| SG[k].green.toNat else M) := by
 rw [List.drop_eq_getElem_cons h]; rfl
theorem usK_end (R : List Bool) (SG : List Ts) (k M : Nat) (h : SG.length ≤ k) : usK R k (SG.drop k) M = M := by
 rw [List.drop_eq_nil_of_le h]; rfl
def neF (U : Nat) : Nat → List Gp → List Fd
 | _, [] => []
 | k, _ :: L => (if hasN U k = true then [] else [⟨66, -1, k, -1⟩]) ++ neF U (k + 1) L
theorem neF_drop (U : Nat) (G : List Gp) (k : Nat) (h : k < G.length) : neF U k (G.drop k) = (if hasN U k = true then [] else [⟨66, -1, k, -1⟩]) ++ neF U (k + 1) (G.drop (k + 1)) := by
 rw [List.drop_eq_getElem_cons h]; rfl
theorem neF_end (U : Nat) (G : List Gp) (k : Nat) (h : G.length ≤ k) : neF U k (G.drop k) = [] := by
 rw [List.drop_eq_nil_of_le h]; rfl
def scX (k : Nat) (M : Nat) : List Cf → List Fd
 | [] => []
 | c :: L => (if (hasN M c.a && hasN M c.b) = true then [⟨60, k, c.a, c.b⟩] else []) ++ scX k M L
theorem scX_drop (k M : Nat) (C : List Cf) (m : Nat) (h : m < C.length) : scX k M (C.drop m) = (if (hasN M C[m].a && hasN M C[m].b) = true then [⟨60, k, C[m].a, C[m].b⟩] else []) ++ scX k M (C.drop (m + 1)) := by
 rw [List.drop_eq_getElem_cons h]; rfl
theorem scX_end (k M : Nat) (C : List Cf) (m : Nat) (h : C.length ≤ m) : scX k M (C.drop m) = [] := by
 rw [List.drop_eq_nil_of_le h]; rfl
def scF (C : List Cf) : Nat → List Ts → List Fd
 | _, [] => []
 | k, s :: L => scX k s.green.toNat C ++ scF C (k + 1) L
theorem scF_drop (C : List Cf) (SG : List Ts) (k : Nat) (h : k < SG.length) : scF C k (SG.drop k) = scX k SG[k].green.toNat C ++ scF C (k + 1) (SG.drop (k + 1)) := by
 rw [List.drop_eq_getElem_cons h]; rfl
theorem scF_end (C : List Cf) (SG : List Ts) (k : Nat) (h : SG.length ≤ k) : scF C k (SG.drop k) = [] := by
 rw [List.drop_eq_nil_of_le h]; rfl
theorem traps_any (G : List Gp) (C : List Cf) (D : List Dt) (TM CT : List ByteArray) (VR : List Vr) (SG : List Ts) (pn : ByteArray) (ga ca da ta ka va sa wa : Option Addr) (gc cc dc tc kc vc sc mb ra rc qa qc wc : Nat) (stt : Int) (R : List Bool) (fa : Option Addr) (fc : Nat) (F : List Fd) (w W : World) (rb : Nat) (h : RP w rb #[.string pn, .slice ga G.length gc, .slice ca C.length cc, .slice da D.length dc, .slice ta TM.length tc, .slice ka CT.length kc, .slice va VR.length vc, .slice sa SG.length sc, .int .i64 stt, .slice ga G.length gc, .map (some mb), .slice (some ⟨ra, 0, none⟩) SG.length rc, .slice (some ⟨qa, 0, none⟩) SG.length qc, .slice wa G.length wc] fa fc F W) (hS : Tss (fun _ => True) w (.slice sa SG.length sc) SG) (hR : BlR w ra SG.length R) (lS : SG.length ≤ 256) :
  Calls Tryz.prog 25 #[.pointer (some ⟨rb, 0, none⟩)] W fun e W' => e = .returned (.tuple #[]) ∧ ∃ fa' fc', RP w rb #[.string pn, .slice ga G.length gc, .slice ca C.length cc, .slice da D.length dc, .slice ta TM.length tc, .slice ka CT.length kc, .slice va VR.length vc, .slice sa SG.length sc, .int .i64 stt, .slice ga G.length gc, .map (some mb), .slice (some ⟨ra, 0, none⟩) SG.length rc, .slice (some ⟨qa, 0, none⟩) SG.length qc, .slice wa G.length wc] fa' fc' (addL F (trF R 0 SG)) W' := by
 obtain ⟨_, _, e1, _, kS⟩ := Rows.any hS
 injection e1 with e1 _ e2
 subst e1
 subst e2
 clear hS
 have c7 : W.cell? ⟨rb, 7, none⟩ = some (.slice sa SG.length sc) := h.atZ 7 (by decide)
 generalize hA : addL F (trF R 0 SG) = A
 go_enter Tryz.func25, Tryz.ntmps25
 go_wp2_with fail
 clear c7
 go_loopw [11] (fun u wr => ∃ (k : Nat) (fa0 : Option Addr) (fc0 : Nat) (F0 : List Fd), k ≤ SG.length ∧ u = .int .i64 (k : Int) ∧ Hid (addL F0 (trF R k (SG.drop k)) = A) ∧ Hid (RP w rb #[.string pn, .slice ga G.length gc, .slice ca C.length cc, .slice da D.length dc, .slice ta TM.length tc, .slice ka CT.length kc, .slice va VR.length vc, .slice sa SG.length sc, .int .i64 stt, .slice ga G.length gc, .map (some mb), .slice (some ⟨ra, 0, none⟩) SG.length rc, .slice (some ⟨qa, 0, none⟩) SG.length qc, .slice wa G.length wc] fa0 fc0 F0 wr)) (fun u _ => SG.length - (intOf u).toNat)
 case atStart => exact ⟨0, fa, fc, F, by omega, rfl, hA, h⟩
 case round =>
  clear hA h; obtain ⟨k, fa0, fc0, F0, hk, rfl, hq', hr'⟩ := hrel; have hq := hq'.out; have hr0 := hr'.out; clear hq' hr'
  by_cases hlt : k < SG.length
  case neg =>
   have t1 : ¬ (k : Int) < (SG.length : Int) := by omega
   rw [trF_end _ _ _ (by omega), addL_nil] at hq; subst hq
   go_wp2_with fail
   go_end0
   exact ⟨rfl, fa0, fc0, hr0⟩
  case pos =>
   obtain ⟨g, o, rfl, _, hg, hx⟩ := kS.resolve_left (by intro e; rw [e] at hlt; simp at hlt); obtain ⟨cs, _, ⟨ve, vd, vl, vn, rfl, q1, q2, q3, q4⟩, P2⟩ := hx k hlt; obtain ⟨e1, c1, rfl, _, -⟩ := Rows.any q1; obtain ⟨e2, c2, rfl, _, -⟩ := Rows.any q2; obtain ⟨e3, c3, rfl, _, -⟩ := Rows.any q3; obtain ⟨e4, c4, rfl, _, -⟩ := Rows.any q4; have p0 := (hr0.hb.cell (p := ⟨g, _, none⟩) hg).trans (P2 0 _ rfl); have p1 := (hr0.hb.cell (p := ⟨g, _, none⟩) hg).trans (P2 1 _ rfl); have p2 := (hr0.hb.cell (p := ⟨g, _, none⟩) hg).trans (P2 2 _ rfl); have p3 := (hr0.hb.cell (p := ⟨g, _, none⟩) hg).trans (P2 3 _ rfl); have p4 := (hr0.hb.cell (p := ⟨g, _, none⟩) hg).trans (P2 4 _ rfl); have p5 := (hr0.hb.cell (p := ⟨g, _, none⟩) hg).trans (P2 5 _ rfl); have p6 := (hr0.hb.cell (p := ⟨g, _, none⟩) hg).trans (P2 6 _ rfl); simp only [Nat.add_zero] at p0; have t1 : (k : Int) < (SG.length : Int) := by omega
   have t0 : (0 : Int) ≤ (k : Int) := by omega
   have t2 : k + 1 ≤ SG.length := hlt; rw [trF_drop R SG k hlt, addL_app] at hq; clear q1 q2 q3 q4 P2 hx kS; generalize SG[k].enter.length = n1 at *; generalize SG[k].during.length = n2 at *; generalize SG[k].leave.length = n3 at *; generalize SG[k].name = y0 at *; generalize SG[k].id = y1 at *; generalize SG[k].green = y2 at *; generalize SG[k].nexts.length = n4 at *; have hr1 := hr0.below (bel1 (.cells #[.string y0, .int .i64 y1, .int .u64 y2, .slice e1 n1 c1, .slice e2 n2 c2, .slice e3 n3 c3, .slice e4 n4 c4] 51)); have c11 : (wr.alloc (.cells #[.string y0, .int .i64 y1, .int .u64 y2, .slice e1 n1 c1, .slice e2 n2 c2, .slice e3 n3 c3, .slice e4 n4 c4] 51)).cell? ⟨rb, 11, none⟩ = some (.slice (some ⟨ra, 0, none⟩) SG.length rc) := hr1.atZ 11 (by decide); have hB1 : (wr.alloc (.cells #[.string y0, .int .i64 y1, .int .u64 y2, .slice e1 n1 c1, .slice e2 n2 c2, .slice e3 n3 c3, .slice e4 n4 c4] 51)).cell? ⟨ra, k, none⟩ = some (.bool (sn R k)) := (hr1.hb.cell (p := ⟨ra, k, none⟩) hR.1).trans (hR.2 k hlt); generalize sn R k = b at *; have l11 := hr1.box.1
   cases b with
   | false =>
     rw [if_neg (by simp), addL_nil] at hq
     go_wp2_with fail
     go_roundw
     case rel => exact ⟨k + 1, fa0, fc0, F0, by omega, by go_num, hq, hr1⟩
     case measure => simp [intOf]; omega
   | true =>
     by_cases hn : n4 = 0
     case pos =>
      rw [if_pos ⟨rfl, hn⟩, addL_one] at hq; subst hn
      go_wp2_with (go_at_call 63; (with_reducible refine Calls.mono (tell_any w _ rb _ _ _ F0 65 (k : Int) (-1) (-1) hr1) ?_); rintro e w1 ⟨rfl, fa1, fc1, hr1, ts1⟩)
      go_roundw
      case rel => exact ⟨k + 1, fa1, fc1, _, by omega, by go_num, hq, hr1⟩
      case measure => simp [intOf]; omega
     case neg =>
      have hn1 : ((n4 : Int) == 0) = false := beq_eq_false_iff_ne.2 (by omega); rw [if_neg (by intro e; exact hn e.2), addL_nil] at hq; clear hn
      go_wp2_with fail
      go_roundw
      case rel => exact ⟨k + 1, fa0, fc0, F0, by omega, by go_num, hq, hr1⟩
      case measure => simp [intOf]; omega
theorem unused_any (G : List Gp) (C : List Cf) (D : List Dt) (TM CT : List ByteArray) (VR : List Vr) (SG : List Ts) (pn : ByteArray) (ga ca da ta ka va sa wa : Option Addr) (gc cc dc tc kc vc sc mb ra rc qa qc wc : Nat) (stt : Int) (R : List Bool) (fa : Option Addr) (fc : Nat) (F : List Fd) (w W : World) (rb : Nat) (h : RP w rb #[.string pn, .slice ga G.length gc, .slice ca C.length cc, .slice da D.length dc, .slice ta TM.length tc, .slice ka CT.length kc, .slice va VR.length vc, .slice sa SG.length sc, .int .i64 stt, .slice ga G.length gc, .map (some mb), .slice (some ⟨ra, 0, none⟩) SG.length rc, .slice (some ⟨qa, 0, none⟩) SG.length qc, .slice wa G.length wc] fa fc F W) (hS : Tss (fun _ => True) w (.slice sa SG.length sc) SG) (hR : BlR w ra SG.length R) (lS : SG.length ≤ 256) (hgr : ∀ s ∈ SG, 0 ≤ s.green ∧ s.green < 18446744073709551616) (lG : G.length ≤ 2932031007317) :
  Calls Tryz.prog 26 #[.pointer (some ⟨rb, 0, none⟩)] W fun e W' => e = .returned (.tuple #[]) ∧ ∃ fa' fc', RP w rb #[.string pn, .slice ga G.length gc, .slice ca C.length cc, .slice da D.length dc, .slice ta TM.length tc, .slice ka CT.length kc, .slice va VR.length vc, .slice sa SG.length sc, .int .i64 stt, .slice ga G.length gc, .map (some mb), .slice (some ⟨ra, 0, none⟩) SG.length rc, .slice (some ⟨qa, 0, none⟩) SG.length qc, .slice wa G.length wc] fa' fc' (addL F (neF (usK R 0 SG 0) 0 G)) W' := by
 obtain ⟨_, _, e1, _, kS⟩ := Rows.any hS
 injection e1 with e1 _ e2
 subst e1
 subst e2
 clear hS
 have c7 : W.cell? ⟨rb, 7, none⟩ = some (.slice sa SG.length sc) := h.atZ 7 (by decide)
 generalize hU : usK R 0 SG 0 = U
 have hU0 : Hid (usK R 0 (SG.drop 0) 0 = U) := hU
 generalize hA : addL F (neF U 0 G) = A
 go_enter Tryz.func26, Tryz.ntmps26
 go_wp2_with fail
 clear c7
 go_loopw [2, 13] (fun m u wr => ∃ (k M : Nat), k ≤ SG.length ∧ m = .int .u64 (M : Int) ∧ u = .int .i64 (k : Int) ∧ M < 18446744073709551616 ∧ Hid (usK R k (SG.drop k) M = U) ∧ Hid (RP w rb #[.string pn, .slice ga G.length gc, .slice ca C.length cc, .slice da D.length dc, .slice ta TM.length tc, .slice ka CT.length kc, .slice va VR.length vc, .slice sa SG.length sc, .int .i64 stt, .slice ga G.length gc, .map (some mb), .slice (some ⟨ra, 0, none⟩) SG.length rc, .slice (some ⟨qa, 0, none⟩) SG.length qc, .slice wa G.length wc] fa fc F wr)) (fun _ u _ => SG.length - (intOf u).toNat)
 case atStart => exact ⟨0, 0, by omega, rfl, rfl, by omega, hU0, h⟩
 case round =>
  clear hU0 h hU; obtain ⟨k, M, hk, rfl, rfl, hM, hq', hr'⟩ := hrel; have hq := hq'.out; have hr0 := hr'.out; clear hq' hr'
  by_cases hlt : k < SG.length
  case neg =>
   have t1 : ¬ (k : Int) < (SG.length : Int) := by omega
   rw [usK_end _ _ _ _ (by omega)] at hq; subst hq; have c9 : wr.cell? ⟨rb, 9, none⟩ = some (.slice ga G.length gc) := hr0.atZ 9 (by decide); clear kS hgr
   go_wp2_with fail
   clear c9; obtain ⟨w9, rfl⟩ : ∃ x, x = wr := ⟨_, rfl⟩
   go_loopw [38] (fun u wr => ∃ (i : Nat) (fa0 : Option Addr) (fc0 : Nat) (F0 : List Fd), i ≤ G.length ∧ u = .int .i64 (i : Int) ∧ Hid (addL F0 (neF M i (G.drop i)) = A) ∧ Hid (RP w rb #[.string pn, .slice ga G.length gc, .slice ca C.length cc, .slice da D.length dc, .slice ta TM.length tc, .slice ka CT.length kc, .slice va VR.length vc, .slice sa SG.length sc, .int .i64 stt, .slice ga G.length gc, .map (some mb), .slice (some ⟨ra, 0, none⟩) SG.length rc, .slice (some ⟨qa, 0, none⟩) SG.length qc, .slice wa G.length wc] fa0 fc0 F0 wr)) (fun u _ => G.length - (intOf u).toNat)
   case atStart => exact ⟨0, fa, fc, F, by omega, rfl, hA, hr0⟩
   case round =>
    clear hA hr0; obtain ⟨i, fa0, fc0, F0, hi, rfl, hq', hr'⟩ := hrel; have hq := hq'.out; have hr0 := hr'.out; clear hq' hr'
    by_cases hlg : i < G.length
    case neg =>
     have t1 : ¬ (i : Int) < (G.length : Int) := by omega
     rw [neF_end _ _ _ (by omega), addL_nil] at hq; subst hq
     go_wp2_with fail
     go_end0
     exact ⟨rfl, fa0, fc0, hr0⟩
    case pos =>
     have t1 : (i : Int) < (G.length : Int) := by omega
     have t0 : (0 : Int) ≤ (i : Int) := by omega
     have t2 : i + 1 ≤ G.length := hlg; have hH := fun (W : World) => hasS_any M (i : Int) W hM (by omega)
     rw [neF_drop M G i hlg, addL_app] at hq; generalize hasN M (i : Int) = b at *
     cases b with
     | true =>
       rw [if_pos rfl, addL_nil] at hq
       go_wp2_with (go_at_call 65; (with_reducible refine Calls.mono (hH _) ?_); rintro e w2 ⟨rfl, rfl⟩)
       go_roundw
       case rel => exact ⟨i + 1, fa0, fc0, F0, by omega, by go_num, hq, hr0⟩
       case measure => simp [intOf]; omega
     | false =>
       rw [if_neg (by simp), addL_one] at hq
       go_wp2_with (first | (go_at_call 65; (with_reducible refine Calls.mono (hH _) ?_); rintro e w2 ⟨rfl, rfl⟩) | (go_at_call 63; (with_reducible refine Calls.mono (tell_any w _ rb _ _ _ F0 66 (-1) (i : Int) (-1) hr0) ?_); rintro e w1 ⟨rfl, fa1, fc1, hr1, ts1⟩))
       go_roundw
       case rel => exact ⟨i + 1, fa1, fc1, _, by omega, by go_num, hq, hr1⟩
       case measure => simp [intOf]; omega
  case pos =>
   obtain ⟨g, o, rfl, _, hg, hx⟩ := kS.resolve_left (by intro e; rw [e] at hlt; simp at hlt); obtain ⟨cs, _, ⟨ve, vd, vl, vn, rfl, q1, q2, q3, q4⟩, P2⟩ := hx k hlt; obtain ⟨e1, c1, rfl, _, -⟩ := Rows.any q1; obtain ⟨e2, c2, rfl, _, -⟩ := Rows.any q2; obtain ⟨e3, c3, rfl, _, -⟩ := Rows.any q3; obtain ⟨e4, c4, rfl, _, -⟩ := Rows.any q4; have p0 := (hr0.hb.cell (p := ⟨g, _, none⟩) hg).trans (P2 0 _ rfl); have p1 := (hr0.hb.cell (p := ⟨g, _, none⟩) hg).trans (P2 1 _ rfl); have p2 := (hr0.hb.cell (p := ⟨g, _, none⟩) hg).trans (P2 2 _ rfl); have p3 := (hr0.hb.cell (p := ⟨g, _, none⟩) hg).trans (P2 3 _ rfl); have p4 := (hr0.hb.cell (p := ⟨g, _, none⟩) hg).trans (P2 4 _ rfl); have p5 := (hr0.hb.cell (p := ⟨g, _, none⟩) hg).trans (P2 5 _ rfl); have p6 := (hr0.hb.cell (p := ⟨g, _, none⟩) hg).trans (P2 6 _ rfl); simp only [Nat.add_zero] at p0; have t1 : (k : Int) < (SG.length : Int) := by omega
   have t0 : (0 : Int) ≤ (k : Int) := by omega
   have t2 : k + 1 ≤ SG.length := hlt; obtain ⟨gr1, gr2⟩ := hgr _ (List.getElem_mem hlt); rw [usK_drop R SG k M hlt] at hq; obtain ⟨N, hN⟩ : ∃ N : Nat, SG[k].green = (N : Int) := ⟨SG[k].green.toNat, by omega⟩; rw [hN] at p2 gr2 hq; rw [Int.toNat_natCast] at hq; have hN2 : N < 18446744073709551616 := by omega
   have hor := u64_or_nat M N hM hN2; have hol : M ||| N < 18446744073709551616 := Nat.or_lt_two_pow (n := 64) hM hN2
   clear hN gr1 gr2 hgr; clear q1 q2 q3 q4 P2 hx kS; generalize SG[k].enter.length = n1 at *; generalize SG[k].during.length = n2 at *; generalize SG[k].leave.length = n3 at *; generalize SG[k].name = y0 at *; generalize SG[k].id = y1 at *; generalize SG[k].nexts.length = n4 at *; have hr1 := hr0.below (bel1 (.cells #[.string y0, .int .i64 y1, .int .u64 (N : Int), .slice e1 n1 c1, .slice e2 n2 c2, .slice e3 n3 c3, .slice e4 n4 c4] 51)); have B1 : Has (wr.alloc (.cells #[.string y0, .int .i64 y1, .int .u64 (N : Int), .slice e1 n1 c1, .slice e2 n2 c2, .slice e3 n3 c3, .slice e4 n4 c4] 51)) wr.heap.size #[.string y0, .int .i64 y1, .int .u64 (N : Int), .slice e1 n1 c1, .slice e2 n2 c2, .slice e3 n3 c3, .slice e4 n4 c4] := Has.new _ _ _ rfl; obtain ⟨_, b1, _⟩ := id B1; have c11 : (wr.alloc (.cells #[.string y0, .int .i64 y1, .int .u64 (N : Int), .slice e1 n1 c1, .slice e2 n2 c2, .slice e3 n3 c3, .slice e4 n4 c4] 51)).cell? ⟨rb, 11, none⟩ = some (.slice (some ⟨ra, 0, none⟩) SG.length rc) := hr1.atZ 11 (by decide); have hB1 : (wr.alloc (.cells #[.string y0, .int .i64 y1, .int .u64 (N : Int), .slice e1 n1 c1, .slice e2 n2 c2, .slice e3 n3 c3, .slice e4 n4 c4] 51)).cell? ⟨ra, k, none⟩ = some (.bool (sn R k)) := (hr1.hb.cell (p := ⟨ra, k, none⟩) hR.1).trans (hR.2 k hlt); generalize sn R k = b at *
   cases b with
   | false =>
     rw [if_neg (by simp)] at hq
     go_wp2_with fail
     go_roundw
     case rel => exact ⟨k + 1, M, by omega, rfl, by go_num, hM, hq, hr1⟩
     case measure => simp [intOf]; omega
   | true =>
     rw [if_pos rfl] at hq
     go_wp2_with fail
     go_roundw
     case rel => exact ⟨k + 1, M ||| N, by omega, by first | rfl | (rw [hor]), by go_num, hol, hq, hr1⟩
     case measure => simp [intOf]; omega
theorem stageClashes_any (G : List Gp) (C : List Cf) (D : List Dt) (TM CT : List ByteArray) (VR : List Vr) (SG : List Ts) (pn : ByteArray) (ga ca da ta ka va sa wa : Option Addr) (gc cc dc tc kc vc sc mb ra rc qa qc wc : Nat) (stt : Int) (fa : Option Addr) (fc : Nat) (F : List Fd) (w W : World) (rb : Nat) (h : RP w rb #[.string pn, .slice ga G.length gc, .slice ca C.length cc, .slice da D.length dc, .slice ta TM.length tc, .slice ka CT.length kc, .slice va VR.length vc, .slice sa SG.length sc, .int .i64 stt, .slice ga G.length gc, .map (some mb), .slice (some ⟨ra, 0, none⟩) SG.length rc, .slice (some ⟨qa, 0, none⟩) SG.length qc, .slice wa G.length wc] fa fc F W) (hS : Tss (fun _ => True) w (.slice sa SG.length sc) SG) (hF : Fl 4 Cf.cs w (.slice ca C.length cc) C) (lS : SG.length ≤ 256) (lC : C.length ≤ 4398046511000) (ok : ∀ (i : Nat) (h : i < C.length), C[i].ok) (hgr : ∀ s ∈ SG, 0 ≤ s.green ∧ s.green < 18446744073709551616) :
  Calls Tryz.prog 24 #[.pointer (some ⟨rb, 0, none⟩)] W fun e W' => e = .returned (.tuple #[]) ∧ ∃ fa' fc', RP w rb #[.string pn, .slice ga G.length gc, .slice ca C.length cc, .slice da D.length dc, .slice ta TM.length tc, .slice ka CT.length kc, .slice va VR.length vc, .slice sa SG.length sc, .int .i64 stt, .slice ga G.length gc, .map (some mb), .slice (some ⟨ra, 0, none⟩) SG.length rc, .slice (some ⟨qa, 0, none⟩) SG.length qc, .slice wa G.length wc] fa' fc' (addL F (scF C 0 SG)) W' := by
 obtain ⟨_, _, e1, _, kS⟩ := Rows.any hS
 injection e1 with e1 _ e2
 subst e1
 subst e2
 clear hS
 obtain ⟨_, _, e1, kF⟩ := hF.any
 injection e1 with e1 _ e2
 subst e1
 subst e2
 clear hF
 have c7 : W.cell? ⟨rb, 7, none⟩ = some (.slice sa SG.length sc) := h.atZ 7 (by decide)
 generalize hA : addL F (scF C 0 SG) = A
 go_enter Tryz.func24, Tryz.ntmps24
 go_wp2_with fail
 clear c7
 go_loopw [13] (fun u wr => ∃ (k : Nat) (fa0 : Option Addr) (fc0 : Nat) (F0 : List Fd), k ≤ SG.length ∧ u = .int .i64 (k : Int) ∧ Hid (addL F0 (scF C k (SG.drop k)) = A) ∧ Hid (RP w rb #[.string pn, .slice ga G.length gc, .slice ca C.length cc, .slice da D.length dc, .slice ta TM.length tc, .slice ka CT.length kc, .slice va VR.length vc, .slice sa SG.length sc, .int .i64 stt, .slice ga G.length gc, .map (some mb), .slice (some ⟨ra, 0, none⟩) SG.length rc, .slice (some ⟨qa, 0, none⟩) SG.length qc, .slice wa G.length wc] fa0 fc0 F0 wr)) (fun u _ => SG.length - (intOf u).toNat)
 case atStart => exact ⟨0, fa, fc, F, by omega, rfl, hA, h⟩
 case round =>
  clear hA h; obtain ⟨k, fa0, fc0, F0, hk, rfl, hq', hr'⟩ := hrel; have hq := hq'.out; have hr0 := hr'.out; clear hq' hr'
  by_cases hlt : k < SG.length
  case neg =>
   have t1 : ¬ (k : Int) < (SG.length : Int) := by omega
   rw [scF_end _ _ _ (by omega), addL_nil] at hq; subst hq
   go_wp2_with fail
   go_end0
   exact ⟨rfl, fa0, fc0, hr0⟩
  case pos =>
   obtain ⟨g, o, rfl, _, hg, hx⟩ := kS.resolve_left (by intro e; rw [e] at hlt; simp at hlt); obtain ⟨cs, _, ⟨ve, vd, vl, vn, rfl, q1, q2, q3, q4⟩, P2⟩ := hx k hlt; obtain ⟨e1, c1, rfl, _, -⟩ := Rows.any q1; obtain ⟨e2, c2, rfl, _, -⟩ := Rows.any q2; obtain ⟨e3, c3, rfl, _, -⟩ := Rows.any q3; obtain ⟨e4, c4, rfl, _, -⟩ := Rows.any q4; have p0 := (hr0.hb.cell (p := ⟨g, _, none⟩) hg).trans (P2 0 _ rfl); have p1 := (hr0.hb.cell (p := ⟨g, _, none⟩) hg).trans (P2 1 _ rfl); have p2 := (hr0.hb.cell (p := ⟨g, _, none⟩) hg).trans (P2 2 _ rfl); have p3 := (hr0.hb.cell (p := ⟨g, _, none⟩) hg).trans (P2 3 _ rfl); have p4 := (hr0.hb.cell (p := ⟨g, _, none⟩) hg).trans (P2 4 _ rfl); have p5 := (hr0.hb.cell (p := ⟨g, _, none⟩) hg).trans (P2 5 _ rfl); have p6 := (hr0.hb.cell (p := ⟨g, _, none⟩) hg).trans (P2 6 _ rfl); simp only [Nat.add_zero] at p0; have t1 : (k : Int) < (SG.length : Int) := by omega
   have t0 : (0 : Int) ≤ (k : Int) := by omega
   have t2 : k + 1 ≤ SG.length := hlt; obtain ⟨gr1, gr2⟩ := hgr _ (List.getElem_mem hlt); rw [scF_drop C SG k hlt, addL_app] at hq; obtain ⟨N, hN⟩ : ∃ N : Nat, SG[k].green = (N : Int) := ⟨SG[k].green.toNat, by omega⟩; rw [hN] at p2 gr2 hq; rw [Int.toNat_natCast] at hq; have hN2 : N < 18446744073709551616 := by omega
   clear hN gr1 gr2 hgr; clear q1 q2 q3 q4 P2 hx kS; generalize SG[k].enter.length = n1 at *; generalize SG[k].during.length = n2 at *; generalize SG[k].leave.length = n3 at *; generalize SG[k].name = y0 at *; generalize SG[k].id = y1 at *; generalize SG[k].nexts.length = n4 at *; have hr1 := hr0.below (bel1 (.cells #[.string y0, .int .i64 y1, .int .u64 (N : Int), .slice e1 n1 c1, .slice e2 n2 c2, .slice e3 n3 c3, .slice e4 n4 c4] 51)); have B1 : Has (wr.alloc (.cells #[.string y0, .int .i64 y1, .int .u64 (N : Int), .slice e1 n1 c1, .slice e2 n2 c2, .slice e3 n3 c3, .slice e4 n4 c4] 51)) wr.heap.size #[.string y0, .int .i64 y1, .int .u64 (N : Int), .slice e1 n1 c1, .slice e2 n2 c2, .slice e3 n3 c3, .slice e4 n4 c4] := Has.new _ _ _ rfl; have c5 : (wr.alloc (.cells #[.string y0, .int .i64 y1, .int .u64 (N : Int), .slice e1 n1 c1, .slice e2 n2 c2, .slice e3 n3 c3, .slice e4 n4 c4] 51)).cell? ⟨rb, 2, none⟩ = some (.slice ca C.length cc) := hr1.atZ 2 (by decide); have hn0 : ∀ q, (Value.slice fa0 F0.length fc0).ownBlock = some q → q ≠ wr.heap.size := fun q hq2 => by have := (own_lt hr0.own q hq2).2; omega
   have hnr : wr.heap.size ≠ rb := by have := hr0.box.1; omega
   have hz0 : wr.heap.size < (wr.alloc (.cells #[.string y0, .int .i64 y1, .int .u64 (N : Int), .slice e1 n1 c1, .slice e2 n2 c2, .slice e3 n3 c3, .slice e4 n4 c4] 51)).heap.size := B1.1
   go_wp2_with fail
   clear c5 hr0; generalize (wr.alloc (.cells #[.string y0, .int .i64 y1, .int .u64 (N : Int), .slice e1 n1 c1, .slice e2 n2 c2, .slice e3 n3 c3, .slice e4 n4 c4] 51)) = W1 at *; clear p0 p1 p2 p3 p4 p5 p6; generalize wr.heap.size = nb at *; obtain ⟨wo, hwo⟩ : ∃ x, x = wr := ⟨_, rfl⟩; clear hwo wo wr
   go_loopw [26] (fun u wr => ∃ (m : Nat) (fa1 : Option Addr) (fc1 : Nat) (F1 : List Fd), m ≤ C.length ∧ u = .int .i64 (m : Int) ∧ Hid (addL (addL F1 (scX k N (C.drop m))) (scF C (k + 1) (SG.drop (k + 1))) = A) ∧ Hid (RP w rb #[.string pn, .slice ga G.length gc, .slice ca C.length cc, .slice da D.length dc, .slice ta TM.length tc, .slice ka CT.length kc, .slice va VR.length vc, .slice (some ⟨g, o, none⟩) SG.length sc, .int .i64 stt, .slice ga G.length gc, .map (some mb), .slice (some ⟨ra, 0, none⟩) SG.length rc, .slice (some ⟨qa, 0, none⟩) SG.length qc, .slice wa G.length wc] fa1 fc1 F1 wr) ∧ Hid (Has wr nb #[.string y0, .int .i64 y1, .int .u64 (N : Int), .slice e1 n1 c1, .slice e2 n2 c2, .slice e3 n3 c3, .slice e4 n4 c4]) ∧ Hid (∀ q, (Value.slice fa1 F1.length fc1).ownBlock = some q → q ≠ nb)) (fun u _ => C.length - (intOf u).toNat)
   case atStart => exact ⟨0, fa0, fc0, F0, by omega, rfl, hq, hr1, B1, hn0⟩
   case round =>
    clear hq hr1 B1 hn0; obtain ⟨m, fa1, fc1, F1, hm, rfl, hq', hr', B', hn'⟩ := hrel; have hq := hq'.out; have hr0 := hr'.out; have B1 := B'.out; have hn0 : ∀ q, (Value.slice fa1 F1.length fc1).ownBlock = some q → q ≠ nb := hn'.out; clear hq' hr' B' hn'
    by_cases hlm : m < C.length
    case neg =>
     have t3 : ¬ (m : Int) < (C.length : Int) := by omega
     rw [scX_end _ _ _ _ (by omega), addL_nil] at hq
     go_wp2_with fail
     go_roundw
     case rel => exact ⟨k + 1, fa1, fc1, F1, by omega, by go_num, hq, hr0⟩
     case measure => simp [intOf]; omega
    case pos =>
     obtain ⟨g1, o1, rfl, hg1, P1⟩ := kF.resolve_left (by intro e; rw [e] at hlm; simp at hlm); have p0 := (hr0.hb.cell (p := ⟨g1, _, none⟩) hg1).trans (P1 m hlm 0 _ rfl); have p1 := (hr0.hb.cell (p := ⟨g1, _, none⟩) hg1).trans (P1 m hlm 1 _ rfl); have p2 := (hr0.hb.cell (p := ⟨g1, _, none⟩) hg1).trans (P1 m hlm 2 _ rfl); have p3 := (hr0.hb.cell (p := ⟨g1, _, none⟩) hg1).trans (P1 m hlm 3 _ rfl); simp only [Nat.add_zero] at p0; have oo := ok m hlm; have o1' := wf64 oo.1; have o2' := wf64 oo.2.1; rw [scX_drop k N C m hlm, addL_app] at hq; have t3 : (m : Int) < (C.length : Int) := by omega
     have t4 : (0 : Int) ≤ (m : Int) := by omega
     have t5 : m + 1 ≤ C.length := hlm; clear P1 kF ok oo; generalize C[m].a = x0 at *; generalize C[m].b = x1 at *; generalize C[m].ab = x2 at *; generalize C[m].ba = x3 at *; have hHa := fun (W : World) => hasS_any N x0 W hN2 o1'
     have hHb := fun (W : World) => hasS_any N x1 W hN2 o2'
     have hr2 := hr0.below (bel1 (.cells #[.int .i64 x0, .int .i64 x1, .int .i64 x2, .int .i64 x3] 75)); have B2 := B1.alloc (.cells #[.int .i64 x0, .int .i64 x1, .int .i64 x2, .int .i64 x3] 75); have B5 : Has (wr.alloc (.cells #[.int .i64 x0, .int .i64 x1, .int .i64 x2, .int .i64 x3] 75)) wr.heap.size #[.int .i64 x0, .int .i64 x1, .int .i64 x2, .int .i64 x3] := Has.new _ _ _ rfl; have hzn : nb < wr.heap.size := B1.1; obtain ⟨_, b2, _⟩ := id B2; obtain ⟨_, b5, _⟩ := id B5; generalize hasN N x0 = b0 at *; generalize hasN N x1 = b9 at *
     cases b0 with
     | false =>
       rw [if_neg (by simp), addL_nil] at hq
       go_wp2_with (go_at_call 65; (with_reducible refine Calls.mono (hHa _) ?_); rintro e w2 ⟨rfl, rfl⟩)
       go_roundw
       case rel => exact ⟨m + 1, fa1, fc1, F1, by omega, by go_num, hq, hr2, B2, hn0⟩
       case measure => simp [intOf]; omega
     | true =>
       cases b9 with
       | false =>
         rw [if_neg (by simp), addL_nil] at hq
         go_wp2_with (first | (go_at_call 65; (with_reducible refine Calls.mono (hHa _) ?_); rintro e w2 ⟨rfl, rfl⟩) | (go_at_call 65; (with_reducible refine Calls.mono (hHb _) ?_); rintro e w2 ⟨rfl, rfl⟩))
         go_roundw
         case rel => exact ⟨m + 1, fa1, fc1, F1, by omega, by go_num, hq, hr2, B2, hn0⟩
         case measure => simp [intOf]; omega
       | true =>
         rw [if_pos (show (true && true) = true from rfl), addL_one] at hq
         go_wp2_with (first | (go_at_call 65; (with_reducible refine Calls.mono (hHa _) ?_); rintro e w2 ⟨rfl, rfl⟩) | (go_at_call 65; (with_reducible refine Calls.mono (hHb _) ?_); rintro e w2 ⟨rfl, rfl⟩) | (go_at_call 63; (with_reducible refine Calls.mono (tell_any w _ rb _ _ _ F1 60 (k : Int) x0 x1 hr2) ?_); rintro e w3 ⟨rfl, fa3, fc3, hr3, ts3⟩))
         have B3 := ts3.has B2 hnr (fun e => hn0 _ e rfl); have hn3 := ts3.far hn0 (fun q hq2 => by simp at hq2; omega); go_roundw
         case rel => exact ⟨m + 1, fa3, fc3, _, by omega, by go_num, hq, hr3, B3, hn3⟩
         case measure => simp [intOf]; omega
end Go.Proofs.YtjfieclmagbfbaaGreatDoor
