import Derived.Test.YtjfieclmagbfbaaGreatDoorJStA
import Derived.Test.YtjfieclmagbfbaaGreatDoorJBnM
set_option linter.unusedSimpArgs false
set_option linter.unusedVariables false
set_option maxRecDepth 100000
set_option maxHeartbeats 8000000
namespace Go.Proofs.YtjfieclmagbfbaaGreatDoor
open Go.RowKit
def ckL (n : Nat) (C : List Cf) (SG : List Ts) : List Bool := SG.map fun s => (clashF n s.green.toNat C).2.2
def ckK (n : Nat) (C : List Cf) (SG : List Ts) (k : Nat) : List Bool := ckL n C (SG.take k) ++ List.replicate (SG.length - k) false
theorem ckK_len (n : Nat) (C : List Cf) (SG : List Ts) (k : Nat) (h : k ≤ SG.length) : (ckK n C SG k).length = SG.length := by
 simp [ckK, ckL]; omega
theorem ckK_end (n : Nat) (C : List Cf) (SG : List Ts) : ckK n C SG SG.length = ckL n C SG := by simp [ckK]
theorem ckK_zero (n : Nat) (C : List Cf) (SG : List Ts) : ckK n C SG 0 = List.replicate SG.length false := by simp [ckK, ckL]
theorem ckK_set (n : Nat) (C : List Cf) (SG : List Ts) (k : Nat) (h : k < SG.length) : (ckK n C SG k).set k (clashF n SG[k].green.toNat C).2.2 = ckK n C SG (k + 1) := by
 have e : (ckL n C (SG.take k)).length = k := by simp [ckL]; omega
 unfold ckK
 rw [List.set_append_right _ _ (by omega), e, Nat.sub_self, List.take_succ_eq_append_getElem h, show SG.length - k = (SG.length - (k + 1)) + 1 from by omega, List.replicate_succ, List.set_cons_zero]
 rw [show ckL n C (SG.take k ++ [SG[k]]) = ckL n C (SG.take k) ++ [(clashF n SG[k].green.toNat C).2.2] from by unfold ckL; rw [List.map_append]; rfl, List.append_assoc]
 rfl
theorem vB_setb (S : List Bool) (i : Nat) (b : Bool) : (vB S).set i (.bool b) = vB (S.set i b) := by simp [vB, List.map_set]
theorem clashing_any (G : List Gp) (C : List Cf) (D : List Dt) (TM CT : List ByteArray) (VR : List Vr) (SG : List Ts) (pn : ByteArray) (ga ca da ta ka va sa : Option Addr) (gc cc dc tc kc vc sc : Nat) (stt : Int) (w : World) (hF : Fl 4 Cf.cs w (.slice ca C.length cc) C) (hS : Tss (fun _ => True) w (.slice sa SG.length sc) SG) (lG : G.length ≤ 2932031007317) (lC : C.length ≤ 4398046511000) (ok : ∀ (i : Nat) (h : i < C.length), C[i].ok) (lS : SG.length ≤ 256) (hgr : ∀ s ∈ SG, 0 ≤ s.green ∧ s.green < 18446744073709551616) :
  Calls Tryz.prog 60 #[(.agg #[.string pn, .slice ga G.length gc, .slice ca C.length cc, .slice da D.length dc, .slice ta TM.length tc, .slice ka CT.length kc, .slice va VR.length vc, .slice sa SG.length sc, .int .i64 stt])] w fun e w' => ∃ g : Nat, e = .returned (.slice (some ⟨g, 0, none⟩) SG.length SG.length) ∧ w'.ownsRow w.heap.size 4 1 (.slice (some ⟨g, 0, none⟩) SG.length SG.length) SG.length (vB (ckL G.length C SG)) ∧ Below w.heap.size w w' := by
 obtain ⟨ti, hi, hiv⟩ := Option.map_eq_some_iff.1 info4
 injection hiv with hi0 hiv
 injection hiv with hi1 hi2
 obtain ⟨_, _, e1, _, kS⟩ := Rows.any hS
 injection e1 with e1 _ e2
 subst e1
 subst e2
 clear hS
 have hb0 : Below w.heap.size w (w.alloc (.cells #[.string pn, .slice ga G.length gc, .slice ca C.length cc, .slice da D.length dc, .slice ta TM.length tc, .slice ka CT.length kc, .slice va VR.length vc, .slice sa SG.length sc, .int .i64 stt] 31)) := bel1 _
 have K0 : Has (w.alloc (.cells #[.string pn, .slice ga G.length gc, .slice ca C.length cc, .slice da D.length dc, .slice ta TM.length tc, .slice ka CT.length kc, .slice va VR.length vc, .slice sa SG.length sc, .int .i64 stt] 31)) w.heap.size #[.string pn, .slice ga G.length gc, .slice ca C.length cc, .slice da D.length dc, .slice ta TM.length tc, .slice ka CT.length kc, .slice va VR.length vc, .slice sa SG.length sc, .int .i64 stt] := Has.new _ _ _ rfl
 have hcl := fun (M : Nat) (hM : M < 18446744073709551616) (W : World) (hb : Below w.heap.size w W) => clash_any G.length M C ga gc (.slice ca C.length cc) W hM lG (hF.below hb) lC ok
 obtain ⟨_, v1, v2⟩ := id K0
 have hsz0 : (w.alloc (.cells #[.string pn, .slice ga G.length gc, .slice ca C.length cc, .slice da D.length dc, .slice ta TM.length tc, .slice ka CT.length kc, .slice va VR.length vc, .slice sa SG.length sc, .int .i64 stt] 31)).heap.size = w.heap.size + 1 := by simp
 go_enter Tryz.func60, Tryz.ntmps60
 go_wp2_with ((refine wpList_make_all _ rfl _ _ 42 rfl (w.heap.size + 1) 4 ti _ Tryz.underlying42 hi hi0 hi1 rfl .i64 .i64 SG.length (by first | rfl | (simp [Act.eval]; done)) (by first | rfl | (simp [Act.eval]; done)) (by rw [hi2]; omega) (by unfold maxLen; omega) (by simp) ?_); intro W1 own hg1; have hb1 := grown_none hg1; have K1 := K0.below hb1; obtain ⟨_, v3, v4⟩ := id K1; rw [hsz0] at own)
 rw [vB_rep, ← ckK_zero G.length C SG] at own
 rw [hsz0] at hb1
 clear v1 v2 v3 v4 K1 hg1
 generalize hW0 : (w.alloc (.cells #[.string pn, .slice ga G.length gc, .slice ca C.length cc, .slice da D.length dc, .slice ta TM.length tc, .slice ka CT.length kc, .slice va VR.length vc, .slice sa SG.length sc, .int .i64 stt] 31)) = W0 at *
 go_loopw [13] (fun t wr => ∃ k : Nat, k ≤ SG.length ∧ t = .int .i64 (k : Int) ∧ Hid (wr.ownsRow (w.heap.size + 1) 4 1 (.slice (some ⟨w.heap.size + 1, 0, none⟩) SG.length SG.length) SG.length (vB (ckK G.length C SG k))) ∧ Hid (Below (w.heap.size + 1) W0 wr)) (fun t _ => SG.length - (intOf t).toNat)
 case atStart => exact ⟨0, by omega, rfl, own, hb1⟩
 case round =>
  clear own hb1; obtain ⟨k, hkl, rfl, oS', hb'⟩ := hrel; have oS := oS'.out; have hb := hb'.out; clear oS' hb'; have Kk := K0.below (hsz0 ▸ hb); have hbw := bel_after hb0 (by omega) (hsz0 ▸ hb); obtain ⟨_, b1, b2⟩ := id Kk
  by_cases hlt : k < SG.length
  case neg =>
   have t1 : ¬ (k : Int) < (SG.length : Int) := by omega
   obtain rfl : k = SG.length := by omega
   rw [ckK_end] at oS; clear kS hcl
   go_wp2_with fail
   go_ret; exact ⟨_, rfl, own_mono oS (by omega), hbw⟩
  case pos =>
   obtain ⟨g, o, rfl, _, hg, hx⟩ := kS.resolve_left (by intro e; rw [e] at hlt; simp at hlt); obtain ⟨cs, _, ⟨ve, vd, vl, vn, rfl, q1, q2, q3, q4⟩, P2⟩ := hx k hlt; obtain ⟨gr1, gr2⟩ := hgr _ (List.getElem_mem hlt); obtain ⟨e1, c1, rfl, _, -⟩ := Rows.any q1; obtain ⟨e2, c2, rfl, _, -⟩ := Rows.any q2; obtain ⟨e3, c3, rfl, _, -⟩ := Rows.any q3; obtain ⟨e4, c4, rfl, _, -⟩ := Rows.any q4; have p0 := (hbw.cell (p := ⟨g, _, none⟩) hg).trans (P2 0 _ rfl); have p1 := (hbw.cell (p := ⟨g, _, none⟩) hg).trans (P2 1 _ rfl); have p2 := (hbw.cell (p := ⟨g, _, none⟩) hg).trans (P2 2 _ rfl); have p3 := (hbw.cell (p := ⟨g, _, none⟩) hg).trans (P2 3 _ rfl); have p4 := (hbw.cell (p := ⟨g, _, none⟩) hg).trans (P2 4 _ rfl); have p5 := (hbw.cell (p := ⟨g, _, none⟩) hg).trans (P2 5 _ rfl); have p6 := (hbw.cell (p := ⟨g, _, none⟩) hg).trans (P2 6 _ rfl); simp only [Nat.add_zero] at p0; have t1 : (k : Int) < (SG.length : Int) := by omega
   have t0 : (0 : Int) ≤ (k : Int) := by omega
   have t2 : k + 1 ≤ SG.length := hlt; have hset := ckK_set G.length C SG k hlt; have hlen := ckK_len G.length C SG k hkl; obtain ⟨M, hM⟩ : ∃ M : Nat, SG[k].green = (M : Int) := ⟨SG[k].green.toNat, by omega⟩; rw [hM] at p2 gr2 hset; rw [Int.toNat_natCast] at hset; clear q1 q2 q3 q4 P2 hx kS hgr gr1 hM; generalize SG[k].enter.length = n1 at *; generalize SG[k].during.length = n2 at *; generalize SG[k].leave.length = n3 at *; generalize SG[k].nexts.length = n4 at *; generalize SG[k].name = x0 at *; generalize SG[k].id = x1 at *; have hb4 := hb.alloc (by have := hb.size; omega) (.cells #[.string x0, .int .i64 x1, .int .u64 (M : Int), .slice e1 n1 c1, .slice e2 n2 c2, .slice e3 n3 c3, .slice e4 n4 c4] 51); have hbw4 := hbw.alloc hbw.size (.cells #[.string x0, .int .i64 x1, .int .u64 (M : Int), .slice e1 n1 c1, .slice e2 n2 c2, .slice e3 n3 c3, .slice e4 n4 c4] 51); have Kk4 := Kk.alloc (.cells #[.string x0, .int .i64 x1, .int .u64 (M : Int), .slice e1 n1 c1, .slice e2 n2 c2, .slice e3 n3 c3, .slice e4 n4 c4] 51); have oS4 := oS.alloc (.cells #[.string x0, .int .i64 x1, .int .u64 (M : Int), .slice e1 n1 c1, .slice e2 n2 c2, .slice e3 n3 c3, .slice e4 n4 c4] 51); have KS0 : Has (wr.alloc (.cells #[.string x0, .int .i64 x1, .int .u64 (M : Int), .slice e1 n1 c1, .slice e2 n2 c2, .slice e3 n3 c3, .slice e4 n4 c4] 51)) wr.heap.size #[.string x0, .int .i64 x1, .int .u64 (M : Int), .slice e1 n1 c1, .slice e2 n2 c2, .slice e3 n3 c3, .slice e4 n4 c4] := Has.new _ _ _ rfl; have kc := hcl M (by omega) _ hbw4; obtain ⟨_, u1, u2⟩ := id Kk4; obtain ⟨_, u3, u4⟩ := id KS0; clear hcl; generalize clashF G.length M C = cl at *; obtain ⟨f1, f2, f3⟩ := cl
   dsimp only at kc hset
   go_wp2_with (go_at_call 33; (with_reducible refine Calls.mono kc ?_); rintro e w2 ⟨rfl, hb5⟩; have oS5 := own_bel oS4 hb5; have z2 := oS5.frozenAt k; have z1 := (oS5.cellAt k (by omega)).trans (vB_get (by omega : k < (ckK G.length C SG k).length)); generalize (ckK G.length C SG k)[k]'(by omega) = bo at z1; have K5 := Kk4.below hb5; obtain ⟨_, u5, u6⟩ := id K5; clear u1 u2 u3 u4)
   go_round
   case measure => simp [intOf]; omega
   case rel =>
    have oS6 := (oS5.stored k (.bool f3)).1; rw [vB_setb, hset] at oS6; exact ⟨k + 1, t2, by go_num, oS6, (hb4.trans (hb5.mono (by have := hb4.size; omega))).setCell (p := ⟨w.heap.size + 1, k, none⟩) (Nat.le_refl _) _⟩
def ckM (Q : List Bool) (x1 : Int) (t : Nat) : Bool := (decide (x1 ≠ -1) && sn Q x1.toNat) || sn Q t
theorem clashes_any (G : List Gp) (C : List Cf) (D : List Dt) (TM CT : List ByteArray) (VR : List Vr) (SG : List Ts) (pn : ByteArray) (ga ca da ta ka va sa wa : Option Addr) (gc cc dc tc kc vc sc mb ra rc qa qc wc : Nat) (stt : Int) (Q : List Bool) (x1 : Int) (t : Nat) (w : World) (hQ : BlR w qa SG.length Q) (ht : t < SG.length) (hf : x1 = -1 ∨ ∃ k : Nat, x1 = (k : Int) ∧ k < SG.length) :
  Calls Tryz.prog 42 #[(.agg #[.string pn, .slice ga G.length gc, .slice ca C.length cc, .slice da D.length dc, .slice ta TM.length tc, .slice ka CT.length kc, .slice va VR.length vc, .slice sa SG.length sc, .int .i64 stt, .slice ga G.length gc, .map (some mb), .slice (some ⟨ra, 0, none⟩) SG.length rc, .slice (some ⟨qa, 0, none⟩) SG.length qc, .slice wa G.length wc]), .agg #[.int .i64 x1, .int .i64 (t : Int)]] w fun e w' => e = .returned (.bool (ckM Q x1 t)) ∧ Below w.heap.size w w' := by
 have hb0 : Below w.heap.size w ((w.alloc (.cells #[.string pn, .slice ga G.length gc, .slice ca C.length cc, .slice da D.length dc, .slice ta TM.length tc, .slice ka CT.length kc, .slice va VR.length vc, .slice sa SG.length sc, .int .i64 stt, .slice ga G.length gc, .map (some mb), .slice (some ⟨ra, 0, none⟩) SG.length rc, .slice (some ⟨qa, 0, none⟩) SG.length qc, .slice wa G.length wc] 82)).alloc (.cells #[.int .i64 x1, .int .i64 (t : Int)] 102)) := ((Below.refl _ _).alloc (Nat.le_refl _) _).alloc (by simp) _
 have K0 : Has ((w.alloc (.cells #[.string pn, .slice ga G.length gc, .slice ca C.length cc, .slice da D.length dc, .slice ta TM.length tc, .slice ka CT.length kc, .slice va VR.length vc, .slice sa SG.length sc, .int .i64 stt, .slice ga G.length gc, .map (some mb), .slice (some ⟨ra, 0, none⟩) SG.length rc, .slice (some ⟨qa, 0, none⟩) SG.length qc, .slice wa G.length wc] 82)).alloc (.cells #[.int .i64 x1, .int .i64 (t : Int)] 102)) w.heap.size #[.string pn, .slice ga G.length gc, .slice ca C.length cc, .slice da D.length dc, .slice ta TM.length tc, .slice ka CT.length kc, .slice va VR.length vc, .slice sa SG.length sc, .int .i64 stt, .slice ga G.length gc, .map (some mb), .slice (some ⟨ra, 0, none⟩) SG.length rc, .slice (some ⟨qa, 0, none⟩) SG.length qc, .slice wa G.length wc] := (Has.new w #[.string pn, .slice ga G.length gc, .slice ca C.length cc, .slice da D.length dc, .slice ta TM.length tc, .slice ka CT.length kc, .slice va VR.length vc, .slice sa SG.length sc, .int .i64 stt, .slice ga G.length gc, .map (some mb), .slice (some ⟨ra, 0, none⟩) SG.length rc, .slice (some ⟨qa, 0, none⟩) SG.length qc, .slice wa G.length wc] 82 rfl).alloc _
 have M0 : Has ((w.alloc (.cells #[.string pn, .slice ga G.length gc, .slice ca C.length cc, .slice da D.length dc, .slice ta TM.length tc, .slice ka CT.length kc, .slice va VR.length vc, .slice sa SG.length sc, .int .i64 stt, .slice ga G.length gc, .map (some mb), .slice (some ⟨ra, 0, none⟩) SG.length rc, .slice (some ⟨qa, 0, none⟩) SG.length qc, .slice wa G.length wc] 82)).alloc (.cells #[.int .i64 x1, .int .i64 (t : Int)] 102)) (w.heap.size + 1) #[.int .i64 x1, .int .i64 (t : Int)] := by
  have := Has.new (w.alloc (.cells #[.string pn, .slice ga G.length gc, .slice ca C.length cc, .slice da D.length dc, .slice ta TM.length tc, .slice ka CT.length kc, .slice va VR.length vc, .slice sa SG.length sc, .int .i64 stt, .slice ga G.length gc, .map (some mb), .slice (some ⟨ra, 0, none⟩) SG.length rc, .slice (some ⟨qa, 0, none⟩) SG.length qc, .slice wa G.length wc] 82)) #[.int .i64 x1, .int .i64 (t : Int)] 102 rfl
  simpa using this
 obtain ⟨_, v1, v2⟩ := id K0
 obtain ⟨_, m1, m2⟩ := id M0
 have z1 := (hb0.cell (p := ⟨qa, t, none⟩) hQ.1).trans (hQ.2 t ht)
 have z2 := fun (k : Nat) (hk : k < SG.length) => (hb0.cell (p := ⟨qa, k, none⟩) hQ.1).trans (hQ.2 k hk)
 have t1 : (t : Int) < (SG.length : Int) := by omega
 have t0 : (0 : Int) ≤ (t : Int) := by omega
 rcases hf with rfl | ⟨k, rfl, hk⟩
 ·have hA : ckM Q (-1) t = sn Q t := by simp [ckM]
  rw [hA]; go_enter Tryz.func42, Tryz.ntmps42
  go_wp2_with fail
  go_ret; exact ⟨rfl, hb0⟩
 ·have s1 : (k : Int) < (SG.length : Int) := by omega
  have s0 : (0 : Int) ≤ (k : Int) := by omega
  have s2 : ¬ (k : Int) = -1 := by omega
  have hA : ckM Q (k : Int) t = (sn Q k || sn Q t) := by simp [ckM, s2]
  rw [hA]; have z3 := z2 k hk; clear z2; generalize sn Q k = b1 at *
  cases b1 with
  | true =>
    go_enter Tryz.func42, Tryz.ntmps42
    go_wp2_with fail
    go_ret; exact ⟨rfl, hb0⟩
  | false =>
    go_enter Tryz.func42, Tryz.ntmps42
    go_wp2_with fail
    go_ret; exact ⟨rfl, hb0⟩
theorem longest_any (G : List Gp) (C : List Cf) (D : List Dt) (TM CT : List ByteArray) (VR : List Vr) (SG : List Ts) (pn : ByteArray) (ga ca da ta ka va sa wa : Option Addr) (gc cc dc tc kc vc sc mb ra rc qa qc wc : Nat) (stt : Int) (ws : Nat → Int) (x1 : Int) (t F T : Nat) (w : World) (hS : Tss (fun _ => True) w (.slice sa SG.length sc) SG) (hF : F < 18446744073709551616) (hT : T < 18446744073709551616) (hG : Fl 5 Gp.cs w (.slice ga G.length gc) G) (lG : G.length ≤ 2932031007317) (mins : ∀ (k : Nat) (hk : k < G.length), 0 ≤ G[k].amber ∧ G[k].amber ≤ 60 ∧ 0 ≤ G[k].lead ∧ G[k].lead ≤ 60)
  (hws : G = [] ∨ ∃ gw, wa = some ⟨gw, 0, none⟩ ∧ gw < w.heap.size ∧ ∀ i, i < G.length → w.cell? ⟨gw, i, none⟩ = some (.int .i64 (ws i)) ∧ 0 ≤ ws i ∧ ws i ≤ 3600) (ht : t < SG.length) (hgt : SG[t].green = (T : Int)) (hf : (x1 = -1 ∧ F = 0) ∨ ∃ (k : Nat) (hk : k < SG.length), x1 = (k : Int) ∧ SG[k].green = (F : Int)) :
  Calls Tryz.prog 43 #[(.agg #[.string pn, .slice ga G.length gc, .slice ca C.length cc, .slice da D.length dc, .slice ta TM.length tc, .slice ka CT.length kc, .slice va VR.length vc, .slice sa SG.length sc, .int .i64 stt, .slice ga G.length gc, .map (some mb), .slice (some ⟨ra, 0, none⟩) SG.length rc, .slice (some ⟨qa, 0, none⟩) SG.length qc, .slice wa G.length wc]), .agg #[.int .i64 x1, .int .i64 (t : Int)]] w fun e w' => e = .returned (.int .i64 (thF F T ws G 0 0)) ∧ Below w.heap.size w w' := by
 obtain ⟨_, _, e1, _, kS⟩ := Rows.any hS
 injection e1 with e1 _ e2
 subst e1
 subst e2
 clear hS
 obtain ⟨g, o, rfl, _, hg, hx⟩ := kS.resolve_left (by intro e; rw [e] at ht; simp at ht)
 clear kS
 have hb0 : Below w.heap.size w ((w.alloc (.cells #[.string pn, .slice ga G.length gc, .slice ca C.length cc, .slice da D.length dc, .slice ta TM.length tc, .slice ka CT.length kc, .slice va VR.length vc, .slice (some ⟨g, o, none⟩) SG.length sc, .int .i64 stt, .slice ga G.length gc, .map (some mb), .slice (some ⟨ra, 0, none⟩) SG.length rc, .slice (some ⟨qa, 0, none⟩) SG.length qc, .slice wa G.length wc] 82)).alloc (.cells #[.int .i64 x1, .int .i64 (t : Int)] 102)) := ((Below.refl _ _).alloc (Nat.le_refl _) _).alloc (by simp) _
 have K0 : Has ((w.alloc (.cells #[.string pn, .slice ga G.length gc, .slice ca C.length cc, .slice da D.length dc, .slice ta TM.length tc, .slice ka CT.length kc, .slice va VR.length vc, .slice (some ⟨g, o, none⟩) SG.length sc, .int .i64 stt, .slice ga G.length gc, .map (some mb), .slice (some ⟨ra, 0, none⟩) SG.length rc, .slice (some ⟨qa, 0, none⟩) SG.length qc, .slice wa G.length wc] 82)).alloc (.cells #[.int .i64 x1, .int .i64 (t : Int)] 102)) w.heap.size #[.string pn, .slice ga G.length gc, .slice ca C.length cc, .slice da D.length dc, .slice ta TM.length tc, .slice ka CT.length kc, .slice va VR.length vc, .slice (some ⟨g, o, none⟩) SG.length sc, .int .i64 stt, .slice ga G.length gc, .map (some mb), .slice (some ⟨ra, 0, none⟩) SG.length rc, .slice (some ⟨qa, 0, none⟩) SG.length qc, .slice wa G.length wc] := (Has.new w #[.string pn, .slice ga G.length gc, .slice ca C.length cc, .slice da D.length dc, .slice ta TM.length tc, .slice ka CT.length kc, .slice va VR.length vc, .slice (some ⟨g, o, none⟩) SG.length sc, .int .i64 stt, .slice ga G.length gc, .map (some mb), .slice (some ⟨ra, 0, none⟩) SG.length rc, .slice (some ⟨qa, 0, none⟩) SG.length qc, .slice wa G.length wc] 82 rfl).alloc _
 have M0 : Has ((w.alloc (.cells #[.string pn, .slice ga G.length gc, .slice ca C.length cc, .slice da D.length dc, .slice ta TM.length tc, .slice ka CT.length kc, .slice va VR.length vc, .slice (some ⟨g, o, none⟩) SG.length sc, .int .i64 stt, .slice ga G.length gc, .map (some mb), .slice (some ⟨ra, 0, none⟩) SG.length rc, .slice (some ⟨qa, 0, none⟩) SG.length qc, .slice wa G.length wc] 82)).alloc (.cells #[.int .i64 x1, .int .i64 (t : Int)] 102)) (w.heap.size + 1) #[.int .i64 x1, .int .i64 (t : Int)] := by
  have := Has.new (w.alloc (.cells #[.string pn, .slice ga G.length gc, .slice ca C.length cc, .slice da D.length dc, .slice ta TM.length tc, .slice ka CT.length kc, .slice va VR.length vc, .slice (some ⟨g, o, none⟩) SG.length sc, .int .i64 stt, .slice ga G.length gc, .map (some mb), .slice (some ⟨ra, 0, none⟩) SG.length rc, .slice (some ⟨qa, 0, none⟩) SG.length qc, .slice wa G.length wc] 82)) #[.int .i64 x1, .int .i64 (t : Int)] 102 rfl
  simpa using this
 obtain ⟨_, v1, v2⟩ := id K0
 obtain ⟨_, m1, m2⟩ := id M0
 have hbn0 : Below w.heap.size w ((w.alloc (.cells #[.string pn, .slice ga G.length gc, .slice ca C.length cc, .slice da D.length dc, .slice ta TM.length tc, .slice ka CT.length kc, .slice va VR.length vc, .slice (some ⟨g, o, none⟩) SG.length sc, .int .i64 stt, .slice ga G.length gc, .map (some mb), .slice (some ⟨ra, 0, none⟩) SG.length rc, .slice (some ⟨qa, 0, none⟩) SG.length qc, .slice wa G.length wc] 82)).alloc (.cells #[.int .i64 x1, .int .i64 (t : Int)] 102)).drew := hb0.drew
 have kth := fun (X : World) (hX : Below w.heap.size w X) => through_any G (.slice ga G.length gc) (.map (some mb)) F T ws wa wc X hF hT (hG.below hX) lG mins (by
  rcases hws with h | ⟨gw, h1, h2, h3⟩
  ·exact .inl h
  ·exact .inr ⟨gw, h1, Nat.lt_of_lt_of_le h2 hX.size, fun i hi => ⟨(hX.cell (p := ⟨gw, _, none⟩) h2).trans (h3 i hi).1, (h3 i hi).2⟩⟩)
 have hgn := fun (k : Nat) (hk : k < SG.length) (M : Nat) (hM : SG[k].green = (M : Int)) => (show ((w.alloc (.cells #[.string pn, .slice ga G.length gc, .slice ca C.length cc, .slice da D.length dc, .slice ta TM.length tc, .slice ka CT.length kc, .slice va VR.length vc, .slice (some ⟨g, o, none⟩) SG.length sc, .int .i64 stt, .slice ga G.length gc, .map (some mb), .slice (some ⟨ra, 0, none⟩) SG.length rc, .slice (some ⟨qa, 0, none⟩) SG.length qc, .slice wa G.length wc] 82)).alloc (.cells #[.int .i64 x1, .int .i64 (t : Int)] 102)).cell? ⟨g, o + k * 7 + 2, none⟩ = some (.int .u64 (M : Int)) by
  obtain ⟨cs, _, ⟨ve, vd, vl, vn, rfl, q1, q2, q3, q4⟩, P2⟩ := hx k hk; rw [← hM]; exact (hb0.cell (p := ⟨g, _, none⟩) hg).trans (P2 2 _ rfl))
 have y1 := hgn t ht T hgt
 have y2 : ((w.alloc (.cells #[.string pn, .slice ga G.length gc, .slice ca C.length cc, .slice da D.length dc, .slice ta TM.length tc, .slice ka CT.length kc, .slice va VR.length vc, .slice (some ⟨g, o, none⟩) SG.length sc, .int .i64 stt, .slice ga G.length gc, .map (some mb), .slice (some ⟨ra, 0, none⟩) SG.length rc, .slice (some ⟨qa, 0, none⟩) SG.length qc, .slice wa G.length wc] 82)).alloc (.cells #[.int .i64 x1, .int .i64 (t : Int)] 102)).cell? ⟨w.heap.size, 7, none⟩ = some (.slice (some ⟨g, o, none⟩) SG.length sc) := v1 7
 have y3 : ((w.alloc (.cells #[.string pn, .slice ga G.length gc, .slice ca C.length cc, .slice da D.length dc, .slice ta TM.length tc, .slice ka CT.length kc, .slice va VR.length vc, .slice (some ⟨g, o, none⟩) SG.length sc, .int .i64 stt, .slice ga G.length gc, .map (some mb), .slice (some ⟨ra, 0, none⟩) SG.length rc, .slice (some ⟨qa, 0, none⟩) SG.length qc, .slice wa G.length wc] 82)).alloc (.cells #[.int .i64 x1, .int .i64 (t : Int)] 102)).cell? ⟨w.heap.size, 9, none⟩ = some (.slice ga G.length gc) := v1 9
 have y4 : ((w.alloc (.cells #[.string pn, .slice ga G.length gc, .slice ca C.length cc, .slice da D.length dc, .slice ta TM.length tc, .slice ka CT.length kc, .slice va VR.length vc, .slice (some ⟨g, o, none⟩) SG.length sc, .int .i64 stt, .slice ga G.length gc, .map (some mb), .slice (some ⟨ra, 0, none⟩) SG.length rc, .slice (some ⟨qa, 0, none⟩) SG.length qc, .slice wa G.length wc] 82)).alloc (.cells #[.int .i64 x1, .int .i64 (t : Int)] 102)).cell? ⟨w.heap.size, 10, none⟩ = some (.map (some mb)) := v1 10
 have y5 : ((w.alloc (.cells #[.string pn, .slice ga G.length gc, .slice ca C.length cc, .slice da D.length dc, .slice ta TM.length tc, .slice ka CT.length kc, .slice va VR.length vc, .slice (some ⟨g, o, none⟩) SG.length sc, .int .i64 stt, .slice ga G.length gc, .map (some mb), .slice (some ⟨ra, 0, none⟩) SG.length rc, .slice (some ⟨qa, 0, none⟩) SG.length qc, .slice wa G.length wc] 82)).alloc (.cells #[.int .i64 x1, .int .i64 (t : Int)] 102)).cell? ⟨w.heap.size, 13, none⟩ = some (.slice wa G.length wc) := v1 13
 have y6 : ((w.alloc (.cells #[.string pn, .slice ga G.length gc, .slice ca C.length cc, .slice da D.length dc, .slice ta TM.length tc, .slice ka CT.length kc, .slice va VR.length vc, .slice (some ⟨g, o, none⟩) SG.length sc, .int .i64 stt, .slice ga G.length gc, .map (some mb), .slice (some ⟨ra, 0, none⟩) SG.length rc, .slice (some ⟨qa, 0, none⟩) SG.length qc, .slice wa G.length wc] 82)).alloc (.cells #[.int .i64 x1, .int .i64 (t : Int)] 102)).cell? ⟨w.heap.size + 1, 1, none⟩ = some (.int .i64 (t : Int)) := m1 1
 have t1 : (t : Int) < (SG.length : Int) := by omega
 have t0 : (0 : Int) ≤ (t : Int) := by omega
 clear hx hgt hG hws
 rcases hf with ⟨rfl, rfl⟩ | ⟨k, hk, rfl, hkF⟩
 ·clear hgn
  go_enter Tryz.func43, Tryz.ntmps43
  go_wp2_with fail
  refine wp_region_noPanic ?_; refine wp_region_held_drew (S := fun w' => w'.cell? ⟨g, o + t * 7 + 2, none⟩ = some (.int .u64 (T : Int)) ∧ w'.cell? ⟨w.heap.size, 7, none⟩ = some (.slice (some ⟨g, o, none⟩) SG.length sc) ∧ w'.cell? ⟨w.heap.size, 9, none⟩ = some (.slice ga G.length gc) ∧ w'.cell? ⟨w.heap.size, 10, none⟩ = some (.map (some mb)) ∧ w'.cell? ⟨w.heap.size, 13, none⟩ = some (.slice wa G.length wc) ∧ w'.cell? ⟨w.heap.size + 1, 1, none⟩ = some (.int .i64 (t : Int))) (by kernel_rfl) ?_ (fun hHeld => ?_)
  ·(try dsimp only)
   exact ⟨y1, y2, y3, y4, y5, y6⟩
  refine tkY 0 ?_; refine tkY 1 ?_; refine tkY 2 ?_; refine tkY 3 ?_; refine tkY 4 ?_; refine tkY 5 ?_; refine tkY 6 ?_; refine tkY 7 ?_; refine tkY 8 ?_; refine tkY 9 ?_; refine tkY 10 ?_; refine tkY 11 ?_; refine tkY 12 ?_; refine wpAnyH_ready (rs := [13]) (by kernel_rfl) (by simp) ?_; refine AllReadyH.cons (o := ⟨some 30, .call { callee := Callee.value (.func 71), args := #[.tmp 18, .tmp 19, .tmp 27, .tmp 29], argTypes := #[79, 47, 47, 80] }, 3, "plan.go:71", #[⟨1, .data⟩, ⟨2, .data⟩, ⟨10, .data⟩, ⟨12, .data⟩], none⟩) rfl (fun K hK => ?_) AllReadyH.nil
  go_simp
  go_at_call 71
  (with_reducible refine Calls.mono (kth _ (by exact hbn0)) ?_)
  rintro e wn ⟨rfl, hbn⟩
  go_wp2_with fail
  refine hK.out _ _ ?_ (fun hHeld => ?_)
  ·(try dsimp only)
   obtain ⟨h0, h1, h2, h3, h4, h5⟩ := hHeld; exact ⟨(hbn.cell (p := ⟨g, _, none⟩) (cell_ltF h0)).trans h0, (hbn.cell (p := ⟨w.heap.size, _, none⟩) (cell_ltF h1)).trans h1, (hbn.cell (p := ⟨w.heap.size, _, none⟩) (cell_ltF h2)).trans h2, (hbn.cell (p := ⟨w.heap.size, _, none⟩) (cell_ltF h3)).trans h3, (hbn.cell (p := ⟨w.heap.size, _, none⟩) (cell_ltF h4)).trans h4, (hbn.cell (p := ⟨w.heap.size + 1, _, none⟩) (cell_ltF h5)).trans h5⟩
  clear hK K
  (try simp only [Act.put, List.setIfInBounds_toArray, List.set_cons_zero, List.set_cons_succ])
  refine tkY 14 ?_; refine wpAnyH_done (by kernel_rfl) ?_ _; refine NoPanic.normal ?_
  go_wp2_with fail
  go_ret; exact ⟨rfl, bel_after hbn0 hbn0.size hbn⟩
 ·have s1 : (k : Int) < (SG.length : Int) := by omega
  have s0 : (0 : Int) ≤ (k : Int) := by omega
  have s2 : ¬ (k : Int) = -1 := by omega
  have y7 := hgn k hk F hkF; clear hgn hkF; go_enter Tryz.func43, Tryz.ntmps43
  go_wp2_with fail
  refine wp_region_noPanic ?_; refine wp_region_held_drew (S := fun w' => w'.cell? ⟨g, o + t * 7 + 2, none⟩ = some (.int .u64 (T : Int)) ∧ w'.cell? ⟨w.heap.size, 7, none⟩ = some (.slice (some ⟨g, o, none⟩) SG.length sc) ∧ w'.cell? ⟨w.heap.size, 9, none⟩ = some (.slice ga G.length gc) ∧ w'.cell? ⟨w.heap.size, 10, none⟩ = some (.map (some mb)) ∧ w'.cell? ⟨w.heap.size, 13, none⟩ = some (.slice wa G.length wc) ∧ w'.cell? ⟨w.heap.size + 1, 1, none⟩ = some (.int .i64 (t : Int))) (by kernel_rfl) ?_ (fun hHeld => ?_)
  ·(try dsimp only)
   exact ⟨y1, y2, y3, y4, y5, y6⟩
  refine tkY 0 ?_; refine tkY 1 ?_; refine tkY 2 ?_; refine tkY 3 ?_; refine tkY 4 ?_; refine tkY 5 ?_; refine tkY 6 ?_; refine tkY 7 ?_; refine tkY 8 ?_; refine tkY 9 ?_; refine tkY 10 ?_; refine tkY 11 ?_; refine tkY 12 ?_; refine wpAnyH_ready (rs := [13]) (by kernel_rfl) (by simp) ?_; refine AllReadyH.cons (o := ⟨some 30, .call { callee := Callee.value (.func 71), args := #[.tmp 18, .tmp 19, .tmp 27, .tmp 29], argTypes := #[79, 47, 47, 80] }, 3, "plan.go:71", #[⟨1, .data⟩, ⟨2, .data⟩, ⟨10, .data⟩, ⟨12, .data⟩], none⟩) rfl (fun K hK => ?_) AllReadyH.nil
  go_simp
  go_at_call 71
  (with_reducible refine Calls.mono (kth _ (by exact hbn0)) ?_)
  rintro e wn ⟨rfl, hbn⟩
  go_wp2_with fail
  refine hK.out _ _ ?_ (fun hHeld => ?_)
  ·(try dsimp only)
   obtain ⟨h0, h1, h2, h3, h4, h5⟩ := hHeld; exact ⟨(hbn.cell (p := ⟨g, _, none⟩) (cell_ltF h0)).trans h0, (hbn.cell (p := ⟨w.heap.size, _, none⟩) (cell_ltF h1)).trans h1, (hbn.cell (p := ⟨w.heap.size, _, none⟩) (cell_ltF h2)).trans h2, (hbn.cell (p := ⟨w.heap.size, _, none⟩) (cell_ltF h3)).trans h3, (hbn.cell (p := ⟨w.heap.size, _, none⟩) (cell_ltF h4)).trans h4, (hbn.cell (p := ⟨w.heap.size + 1, _, none⟩) (cell_ltF h5)).trans h5⟩
  clear hK K
  (try simp only [Act.put, List.setIfInBounds_toArray, List.set_cons_zero, List.set_cons_succ])
  refine tkY 14 ?_; refine wpAnyH_done (by kernel_rfl) ?_ _; refine NoPanic.normal ?_
  go_wp2_with fail
  go_ret; exact ⟨rfl, bel_after hbn0 hbn0.size hbn⟩
end Go.Proofs.YtjfieclmagbfbaaGreatDoor
