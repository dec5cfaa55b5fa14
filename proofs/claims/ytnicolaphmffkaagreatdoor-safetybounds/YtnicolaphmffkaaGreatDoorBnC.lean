import Derived.Test.YtnicolaphmffkaaGreatDoorMaI
import Derived.Test.YtnicolaphmffkaaGreatDoorMbA
namespace Go.Proofs.YtnicolaphmffkaaGreatDoor
open Go.RowKit
set_option linter.unusedVariables false

/-- Of each stage whether its greens clash. -/
def ckL (n : Nat) (C : List Cf) (SG : List Ts) : List Bool := SG.map fun s => (clashF n s.green.toNat C).2.2
def ckK (n : Nat) (C : List Cf) (SG : List Ts) (k : Nat) : List Bool := ckL n C (SG.take k) ++ List.replicate (SG.length - k) false
theorem ckK_len (n : Nat) (C : List Cf) (SG : List Ts) (k : Nat) (h : k ≤ SG.length) : (ckK n C SG k).length = SG.length := by
 simp [ckK, ckL]; omega
theorem ckK_end (n : Nat) (C : List Cf) (SG : List Ts) : ckK n C SG SG.length = ckL n C SG := by simp [ckK]
theorem ckK_zero (n : Nat) (C : List Cf) (SG : List Ts) : ckK n C SG 0 = List.replicate SG.length false := by simp [ckK, ckL]
theorem ckK_set (n : Nat) (C : List Cf) (SG : List Ts) (k : Nat) (h : k < SG.length) : (ckK n C SG k).set k (clashF n SG[k].green.toNat C).2.2 = ckK n C SG (k + 1) := by
 have e : (ckL n C (SG.take k)).length = k := by simp [ckL]; omega
 unfold ckK
 rw [List.set_append_right _ _ (by omega), e, Nat.sub_self, List.take_succ_eq_append_getElem h, show SG.length - k = (SG.length - (k + 1)) + 1 from by omega, List.replicate_succ, List.set_cons_zero]
 rw [show ckL n C (SG.take k ++ [SG[k]]) = ckL n C (SG.take k) ++ [(clashF n SG[k].green.toNat C).2.2] from by unfold ckL; rw [List.map_append]; rfl, List.append_assoc]
 rfl
theorem vB_setb (S : List Bool) (i : Nat) (b : Bool) : (vB S).set i (.bool b) = vB (S.set i b) := by simp [vB, List.map_set]
set_option maxRecDepth 100000 in
set_option maxHeartbeats 8000000 in
theorem clashing_any (G : List Gp) (C : List Cf) (D : List Dt) (TM CT : List ByteArray) (VR : List Vr) (SG : List Ts) (pn : ByteArray) (ga ca da ta ka va sa : Option Addr) (gc cc dc tc kc vc sc : Nat) (stt : Int) (w : World) (hF : Fl 4 Cf.cs w (.slice ca C.length cc) C) (hS : Tss (fun _ => True) w (.slice sa SG.length sc) SG) (lG : G.length ≤ 2932031007317) (lC : C.length ≤ 4398046511000) (ok : ∀ (i : Nat) (h : i < C.length), C[i].ok) (lS : SG.length ≤ 256) (hgr : ∀ s ∈ SG, 0 ≤ s.green ∧ s.green < 18446744073709551616) :
  Calls Tryz.prog 89 #[(.agg #[.string pn, .slice ga G.length gc, .slice ca C.length cc, .slice da D.length dc, .slice ta TM.length tc, .slice ka CT.length kc, .slice va VR.length vc, .slice sa SG.length sc, .int .i64 stt])] w fun e w' => ∃ g : Nat, e = .returned (.slice (some ⟨g, 0, none⟩) SG.length SG.length) ∧ w'.ownsRow w.heap.size 4 1 (.slice (some ⟨g, 0, none⟩) SG.length SG.length) SG.length (vB (ckL G.length C SG)) ∧ Below w.heap.size w w' := by
 obtain ⟨ti, hi, hiv⟩ := Option.map_eq_some_iff.1 info4
 injection hiv with hi0 hiv
 injection hiv with hi1 hi2
 obtain ⟨_, _, e1, _, kS⟩ := Rows.any hS
 injection e1 with e1 _ e2
 subst e1
 subst e2
 clear hS
 have hb0 : Below w.heap.size w (w.alloc (.cells #[.string pn, .slice ga G.length gc, .slice ca C.length cc, .slice da D.length dc, .slice ta TM.length tc, .slice ka CT.length kc, .slice va VR.length vc, .slice sa SG.length sc, .int .i64 stt] 31)) := bel1 _
 have K0 : Has (w.alloc (.cells #[.string pn, .slice ga G.length gc, .slice ca C.length cc, .slice da D.length dc, .slice ta TM.length tc, .slice ka CT.length kc, .slice va VR.length vc, .slice sa SG.length sc, .int .i64 stt] 31)) w.heap.size #[.string pn, .slice ga G.length gc, .slice ca C.length cc, .slice da D.length dc, .slice ta TM.length tc, .slice ka CT.length kc, .slice va VR.length vc, .slice sa SG.length sc, .int .i64 stt] := Has.new _ _ _ rfl
 have hcl := fun (M : Nat) (hM : M < 18446744073709551616) (W : World) (hb : Below w.heap.size w W) => clash_any G.length M C ga gc (.slice ca C.length cc) W hM lG (hF.below hb) lC ok
 obtain ⟨_, v1, v2⟩ := id K0
 have hsz0 : (w.alloc (.cells #[.string pn, .slice ga G.length gc, .slice ca C.length cc, .slice da D.length dc, .slice ta TM.length tc, .slice ka CT.length kc, .slice va VR.length vc, .slice sa SG.length sc, .int .i64 stt] 31)).heap.size = w.heap.size + 1 := by simp
 go_enter Tryz.func89, Tryz.ntmps89
 go_wp2_with ((refine wpList_make_all _ rfl _ _ 65 rfl (w.heap.size + 1) 4 ti _ Tryz.underlying65 hi hi0 hi1 rfl .i64 .i64 SG.length (by first | rfl | (simp [Act.eval]; done)) (by first | rfl | (simp [Act.eval]; done)) (by rw [hi2]; omega) (by unfold maxLen; omega) (by simp) ?_); intro W1 own hg1; have hb1 := grown_none hg1; have K1 := K0.below hb1; obtain ⟨_, v3, v4⟩ := id K1; rw [hsz0] at own)
 rw [vB_rep, ← ckK_zero G.length C SG] at own
 rw [hsz0] at hb1
 clear v1 v2 v3 v4 K1 hg1
 generalize hW0 : (w.alloc (.cells #[.string pn, .slice ga G.length gc, .slice ca C.length cc, .slice da D.length dc, .slice ta TM.length tc, .slice ka CT.length kc, .slice va VR.length vc, .slice sa SG.length sc, .int .i64 stt] 31)) = W0 at *
 go_loopw [13] (fun t wr => ∃ k : Nat, k ≤ SG.length ∧ t = .int .i64 (k : Int) ∧ Hid (wr.ownsRow (w.heap.size + 1) 4 1 (.slice (some ⟨w.heap.size + 1, 0, none⟩) SG.length SG.length) SG.length (vB (ckK G.length C SG k))) ∧ Hid (Below (w.heap.size + 1) W0 wr)) (fun t _ => SG.length - (intOf t).toNat)
 case atStart => exact ⟨0, by omega, rfl, own, hb1⟩
 case round =>
  clear own hb1
  obtain ⟨k, hkl, rfl, oS', hb'⟩ := hrel
  have oS := oS'.out
  have hb := hb'.out
  clear oS' hb'
  have Kk := K0.below (hsz0 ▸ hb)
  have hbw := bel_after hb0 (by omega) (hsz0 ▸ hb)
  obtain ⟨_, b1, b2⟩ := id Kk
  by_cases hlt : k < SG.length
  case neg =>
   have t1 : ¬ (k : Int) < (SG.length : Int) := by omega
   obtain rfl : k = SG.length := by omega
   rw [ckK_end] at oS
   clear kS hcl
   go_wp2_with fail
   go_ret
   exact ⟨_, rfl, own_mono oS (by omega), hbw⟩
  case pos =>
   obtain ⟨g, o, rfl, _, hg, hx⟩ := kS.resolve_left (by intro e; rw [e] at hlt; simp at hlt)
   obtain ⟨cs, _, ⟨ve, vd, vl, vn, rfl, q1, q2, q3, q4⟩, P2⟩ := hx k hlt
   obtain ⟨gr1, gr2⟩ := hgr _ (List.getElem_mem hlt)
   obtain ⟨e1, c1, rfl, _, -⟩ := Rows.any q1
   obtain ⟨e2, c2, rfl, _, -⟩ := Rows.any q2
   obtain ⟨e3, c3, rfl, _, -⟩ := Rows.any q3
   obtain ⟨e4, c4, rfl, _, -⟩ := Rows.any q4
   have p0 := (hbw.cell (p := ⟨g, _, none⟩) hg).trans (P2 0 _ rfl)
   have p1 := (hbw.cell (p := ⟨g, _, none⟩) hg).trans (P2 1 _ rfl)
   have p2 := (hbw.cell (p := ⟨g, _, none⟩) hg).trans (P2 2 _ rfl)
   have p3 := (hbw.cell (p := ⟨g, _, none⟩) hg).trans (P2 3 _ rfl)
   have p4 := (hbw.cell (p := ⟨g, _, none⟩) hg).trans (P2 4 _ rfl)
   have p5 := (hbw.cell (p := ⟨g, _, none⟩) hg).trans (P2 5 _ rfl)
   have p6 := (hbw.cell (p := ⟨g, _, none⟩) hg).trans (P2 6 _ rfl)
   simp only [Nat.add_zero] at p0
   have t1 : (k : Int) < (SG.length : Int) := by omega
   have t0 : (0 : Int) ≤ (k : Int) := by omega
   have t2 : k + 1 ≤ SG.length := hlt
   have hset := ckK_set G.length C SG k hlt
   have hlen := ckK_len G.length C SG k hkl
   obtain ⟨M, hM⟩ : ∃ M : Nat, SG[k].green = (M : Int) := ⟨SG[k].green.toNat, by omega⟩
   rw [hM] at p2 gr2 hset
   rw [Int.toNat_natCast] at hset
   clear q1 q2 q3 q4 P2 hx kS hgr gr1 hM
   generalize SG[k].enter.length = n1 at *
   generalize SG[k].during.length = n2 at *
   generalize SG[k].leave.length = n3 at *
   generalize SG[k].nexts.length = n4 at *
   generalize SG[k].name = x0 at *
   generalize SG[k].id = x1 at *
   have hb4 := hb.alloc (by have := hb.size; omega) (.cells #[.string x0, .int .i64 x1, .int .u64 (M : Int), .slice e1 n1 c1, .slice e2 n2 c2, .slice e3 n3 c3, .slice e4 n4 c4] 81)
   have hbw4 := hbw.alloc hbw.size (.cells #[.string x0, .int .i64 x1, .int .u64 (M : Int), .slice e1 n1 c1, .slice e2 n2 c2, .slice e3 n3 c3, .slice e4 n4 c4] 81)
   have Kk4 := Kk.alloc (.cells #[.string x0, .int .i64 x1, .int .u64 (M : Int), .slice e1 n1 c1, .slice e2 n2 c2, .slice e3 n3 c3, .slice e4 n4 c4] 81)
   have oS4 := oS.alloc (.cells #[.string x0, .int .i64 x1, .int .u64 (M : Int), .slice e1 n1 c1, .slice e2 n2 c2, .slice e3 n3 c3, .slice e4 n4 c4] 81)
   have KS0 : Has (wr.alloc (.cells #[.string x0, .int .i64 x1, .int .u64 (M : Int), .slice e1 n1 c1, .slice e2 n2 c2, .slice e3 n3 c3, .slice e4 n4 c4] 81)) wr.heap.size #[.string x0, .int .i64 x1, .int .u64 (M : Int), .slice e1 n1 c1, .slice e2 n2 c2, .slice e3 n3 c3, .slice e4 n4 c4] := Has.new _ _ _ rfl
   have kc := hcl M (by omega) _ hbw4
   obtain ⟨_, u1, u2⟩ := id Kk4
   obtain ⟨_, u3, u4⟩ := id KS0
   clear hcl
   generalize clashF G.length M C = cl at *
   obtain ⟨f1, f2, f3⟩ := cl
   dsimp only at kc hset
   go_wp2_with (go_at_call 107; (with_reducible refine Calls.mono kc ?_); rintro e w2 ⟨rfl, hb5⟩; have oS5 := own_bel oS4 hb5; have z2 := oS5.frozenAt k; have z1 := (oS5.cellAt k (by omega)).trans (vB_get (by omega : k < (ckK G.length C SG k).length)); generalize (ckK G.length C SG k)[k]'(by omega) = bo at z1; have K5 := Kk4.below hb5; obtain ⟨_, u5, u6⟩ := id K5; clear u1 u2 u3 u4)
   go_round
   case measure => simp [intOf]; omega
   case rel =>
    have oS6 := (oS5.stored k (.bool f3)).1
    rw [vB_setb, hset] at oS6
    exact ⟨k + 1, t2, by go_num, oS6, (hb4.trans (hb5.mono (by have := hb4.size; omega))).setCell (p := ⟨w.heap.size + 1, k, none⟩) (Nat.le_refl _) _⟩
end Go.Proofs.YtnicolaphmffkaaGreatDoor
