import Derived.Test.YtnicolaphmffkaaGreatDoorBnR
import Derived.Test.YtnicolaphmffkaaGreatDoorRtG
import Derived.Test.YtnicolaphmffkaaGreatDoorLxC
namespace Go.Proofs.YtnicolaphmffkaaGreatDoor
set_option linter.unusedSimpArgs false
open Go.RowKit
set_option linter.unusedVariables false

theorem BoP.uni {ok : Bool} {G : List Gp} {C : List Cf} {SG : List Ts} {stt : Int} {w w' : World} {e : Ending} (h : BoP ok G C SG stt w e w') : ∃ n er : Int, e = .returned (.tuple #[.int .i64 n, .int .i64 er]) ∧ Below w.heap.size w w' ∧ (ok = true → ∃ R : List Bool, RI (waysL SG).length stt.toNat (goN (waysL SG)) R [] ∧ n = (bnF (ckL G.length C SG) (lpA G C SG) (mvsL R SG stt) 0).1 ∧ er = (bnF (ckL G.length C SG) (lpA G C SG) (mvsL R SG stt) 0).2) ∧ (ok = false → n = 0 ∧ er = 80) := by
 unfold BoP at h
 cases ok with
 | true =>
   obtain ⟨R, h1, rfl, h3⟩ := h
   exact ⟨_, _, rfl, h3, fun _ => ⟨R, h1, rfl, rfl⟩, fun h => (by cases h)⟩
 | false =>
   obtain ⟨rfl, h3⟩ := h
   exact ⟨0, 80, rfl, h3, fun h => (by cases h), fun _ => ⟨rfl, rfl⟩⟩
theorem BrP.same {ok : Bool} {G : List Gp} {C : List Cf} {SG : List Ts} {stt : Int} {w w' : World} {e : Ending} {n er : Int} (h : BrP ok G C SG stt w e w') (h1 : ok = true → ∃ R : List Bool, RI (waysL SG).length stt.toNat (goN (waysL SG)) R [] ∧ n = (bnF (ckL G.length C SG) (lpA G C SG) (mvsL R SG stt) 0).1 ∧ er = (bnF (ckL G.length C SG) (lpA G C SG) (mvsL R SG stt) 0).2) (h2 : ok = false → n = 0 ∧ er = 80) : e = .returned (.tuple #[.int .i64 n, .int .i64 er]) ∧ Below w.heap.size w w' := by
 unfold BrP at h
 cases ok with
 | true =>
   obtain ⟨S, q1, rfl, q3⟩ := h
   obtain ⟨R, r1, rfl, rfl⟩ := h1 rfl
   obtain rfl := q1 R r1
   exact ⟨rfl, q3⟩
 | false =>
   obtain ⟨rfl, q3⟩ := h
   obtain ⟨rfl, rfl⟩ := h2 rfl
   exact ⟨rfl, q3⟩
set_option maxRecDepth 100000 in
set_option maxHeartbeats 8000000 in
theorem bounds_law (G : List Gp) (C : List Cf) (D : List Dt) (TM CT : List ByteArray) (VR : List Vr) (SG : List Ts) (pn : ByteArray) (ga ca da ta ka va sa : Option Addr) (gc cc dc tc kc vc sc : Nat) (stt : Int) (w : World) (hP : TPl w G C D TM CT VR SG pn ga ca da ta ka va sa gc cc dc tc kc vc sc stt) (tb : Tb w) (cok : ∀ (i : Nat) (h : i < C.length), C[i].ok) (hgr : ∀ s ∈ SG, 0 ≤ s.green ∧ s.green < 18446744073709551616) (lG : G.length ≤ 2932031007317) (lF : C.length ≤ 4398046511000) (lD : D.length ≤ 3518437208780) (lT : TM.length ≤ 8796093022100) (lC : CT.length ≤ 8796093022100) (lV : VR.length ≤ 5864062014700) (lS : SG.length ≤ 1099511627744)
  (k11 : ∀ X : World, Below w.heap.size w X → Calls Tryz.prog 11 #[(.agg #[.string pn, .slice ga G.length gc, .slice ca C.length cc, .slice da D.length dc, .slice ta TM.length tc, .slice ka CT.length kc, .slice va VR.length vc, .slice sa SG.length sc, .int .i64 stt])] X fun e w' => e = .returned (.bool (sdB G C D TM CT VR SG pn stt)) ∧ Below X.heap.size X w') :
  Calls Tryz.prog 5 #[.agg #[.string pn, .slice ga G.length gc, .slice ca C.length cc, .slice da D.length dc, .slice ta TM.length tc, .slice ka CT.length kc, .slice va VR.length vc, .slice sa SG.length sc, .int .i64 stt]] w fun e w' => e = .returned (.bool true) ∧ Below w.heap.size w w' := by
 have hb0 : Below w.heap.size w (w.alloc (.cells #[.string pn, .slice ga G.length gc, .slice ca C.length cc, .slice da D.length dc, .slice ta TM.length tc, .slice ka CT.length kc, .slice va VR.length vc, .slice sa SG.length sc, .int .i64 stt] 31)) := bel1 _
 have K0 : Has (w.alloc (.cells #[.string pn, .slice ga G.length gc, .slice ca C.length cc, .slice da D.length dc, .slice ta TM.length tc, .slice ka CT.length kc, .slice va VR.length vc, .slice sa SG.length sc, .int .i64 stt] 31)) w.heap.size #[.string pn, .slice ga G.length gc, .slice ca C.length cc, .slice da D.length dc, .slice ta TM.length tc, .slice ka CT.length kc, .slice va VR.length vc, .slice sa SG.length sc, .int .i64 stt] := Has.new _ _ _ rfl
 have P0 := hP.below hb0
 have k17 := roomyTyped_any G C D TM CT VR SG pn ga ca da ta ka va sa gc cc dc tc kc vc sc stt (w.alloc (.cells #[.string pn, .slice ga G.length gc, .slice ca C.length cc, .slice da D.length dc, .slice ta TM.length tc, .slice ka CT.length kc, .slice va VR.length vc, .slice sa SG.length sc, .int .i64 stt] 31)) P0.hG P0.hF P0.hD P0.hT P0.hC P0.hV P0.hS lG lF lD lT lC lV lS
 have k22 := hideG (fun (g1 d1 g2 d2 gS cS : Nat) (a3 a4 a5 a6 : Option Addr) (c3 c4 c5 c6 : Nat) (X : World) (hX : Below w.heap.size w X) (h : TPl X G C D TM CT VR SG pn (some ⟨g1, 0, none⟩) (some ⟨g2, 0, none⟩) a3 a4 a5 a6 (some ⟨gS, 0, none⟩) d1 d2 c3 c4 c5 c6 cS stt) => bound_any G C D TM CT VR SG pn _ _ _ _ _ _ _ _ _ _ _ _ _ _ stt X h (tb.wt.be hX) cok hgr)
 have k23 := hideG (fun (X : World) (hX : Below w.heap.size w X) => refBound_any G C D TM CT VR SG pn ga ca da ta ka va sa gc cc dc tc kc vc sc stt X (hP.hG.below hX) (hP.hF.below hX) (Tss.below hP.hS hX) hP.lG hP.lF cok hgr (fun Z hZ => k11 Z (bel_after hX hX.size hZ)))
 have hP' := hideG hP
 clear hP P0 k11 tb cok hgr
 generalize hok : sdB G C D TM CT VR SG pn stt = ok at *
 clear hok
 go_enter Tryz.func5, Tryz.ntmps5
 go_wp2_with fail
 go_at_call 17
 refine Calls.mono k17 ?_
 rintro e w1 ⟨⟨g1, d1, g2, d2, gS, cS, a3, a4, a5, a6, na, c3, c4, c5, c6, nc, Ls, rfl, hR⟩, hb1⟩
 have hb1' := hb1
 have hb1 := bel_after hb0 hb0.size hb1
 have K0 := K0.below hb1'
 clear k17 hb0
 go_wp2_with fail
 have hbX : Below w1.heap.size w1 ((w1.alloc (.cells #[.string pn, .slice (some ⟨g1, 0, none⟩) G.length d1, .slice (some ⟨g2, 0, none⟩) C.length d2, .slice a3 D.length c3, .slice a4 TM.length c4, .slice a5 CT.length c5, .slice a6 VR.length c6, .slice (some ⟨gS, 0, none⟩) SG.length cS, .int .i64 stt] 31)).alloc (.cells #[.slice (some ⟨g1, 0, none⟩) (G.length + 2) d1, .slice (some ⟨g2, 0, none⟩) (C.length + 2) d2, .slice (some ⟨gS, 0, none⟩) (SG.length + 2) cS, .slice na SG.length nc] 62)) := ((Below.refl _ _).alloc (Nat.le_refl _) _).alloc (by simp) _
 have HG : Has ((w1.alloc (.cells #[.string pn, .slice (some ⟨g1, 0, none⟩) G.length d1, .slice (some ⟨g2, 0, none⟩) C.length d2, .slice a3 D.length c3, .slice a4 TM.length c4, .slice a5 CT.length c5, .slice a6 VR.length c6, .slice (some ⟨gS, 0, none⟩) SG.length cS, .int .i64 stt] 31)).alloc (.cells #[.slice (some ⟨g1, 0, none⟩) (G.length + 2) d1, .slice (some ⟨g2, 0, none⟩) (C.length + 2) d2, .slice (some ⟨gS, 0, none⟩) (SG.length + 2) cS, .slice na SG.length nc] 62)) w1.heap.size #[.string pn, .slice (some ⟨g1, 0, none⟩) G.length d1, .slice (some ⟨g2, 0, none⟩) C.length d2, .slice a3 D.length c3, .slice a4 TM.length c4, .slice a5 CT.length c5, .slice a6 VR.length c6, .slice (some ⟨gS, 0, none⟩) SG.length cS, .int .i64 stt] := (Has.new w1 #[.string pn, .slice (some ⟨g1, 0, none⟩) G.length d1, .slice (some ⟨g2, 0, none⟩) C.length d2, .slice a3 D.length c3, .slice a4 TM.length c4, .slice a5 CT.length c5, .slice a6 VR.length c6, .slice (some ⟨gS, 0, none⟩) SG.length cS, .int .i64 stt] 31 rfl).alloc _
 have HM : Has ((w1.alloc (.cells #[.string pn, .slice (some ⟨g1, 0, none⟩) G.length d1, .slice (some ⟨g2, 0, none⟩) C.length d2, .slice a3 D.length c3, .slice a4 TM.length c4, .slice a5 CT.length c5, .slice a6 VR.length c6, .slice (some ⟨gS, 0, none⟩) SG.length cS, .int .i64 stt] 31)).alloc (.cells #[.slice (some ⟨g1, 0, none⟩) (G.length + 2) d1, .slice (some ⟨g2, 0, none⟩) (C.length + 2) d2, .slice (some ⟨gS, 0, none⟩) (SG.length + 2) cS, .slice na SG.length nc] 62)) (w1.heap.size + 1) #[.slice (some ⟨g1, 0, none⟩) (G.length + 2) d1, .slice (some ⟨g2, 0, none⟩) (C.length + 2) d2, .slice (some ⟨gS, 0, none⟩) (SG.length + 2) cS, .slice na SG.length nc] := Has.new _ _ _ (by simp)
 have hb2 := bel_after hb1 hb1.size hbX
 have K0 := K0.below hbX
 have hR := hR.below hbX
 clear hbX hb1 hb1'
 generalize ((w1.alloc (.cells #[.string pn, .slice (some ⟨g1, 0, none⟩) G.length d1, .slice (some ⟨g2, 0, none⟩) C.length d2, .slice a3 D.length c3, .slice a4 TM.length c4, .slice a5 CT.length c5, .slice a6 VR.length c6, .slice (some ⟨gS, 0, none⟩) SG.length cS, .int .i64 stt] 31)).alloc (.cells #[.slice (some ⟨g1, 0, none⟩) (G.length + 2) d1, .slice (some ⟨g2, 0, none⟩) (C.length + 2) d2, .slice (some ⟨gS, 0, none⟩) (SG.length + 2) cS, .slice na SG.length nc] 62)) = X at *
 go_at_call 22
 refine Calls.mono (k22.out g1 d1 g2 d2 gS cS a3 a4 a5 a6 c3 c4 c5 c6 X hb2 (hR.tpl (hP'.out.below hb2))) ?_
 intro e w3 hA
 obtain ⟨n, er, rfl, h3, hT1, hT0⟩ := hA.uni
 clear hA
 have hb3 := bel_after hb2 hb2.size h3
 have K3 := K0.below h3
 obtain ⟨_, b0, _⟩ := id K3
 go_wp2_with fail
 go_at_call 23
 refine Calls.mono (k23.out w3 hb3) ?_
 intro e w4 hA
 obtain ⟨rfl, h4⟩ := hA.same hT1 hT0
 clear hA hT1 hT0 b0
 have h34 := bel_after h3 h3.size h4
 have hb4 := bel_after hb2 hb2.size h34
 obtain ⟨_, j0, _⟩ := id (HG.below h34)
 obtain ⟨_, j1, _⟩ := id (K0.below h34)
 have tp := (hR.below h34).tpl (hP'.out.below hb4)
 have tq := hP'.out.below hb4
 go_wp2_with fail
 go_at_call 14
 (with_reducible refine Calls.mono (sameTyped_any G C D TM CT VR SG pn _ _ _ _ _ _ _ _ _ _ _ _ _ _ _ _ _ _ _ _ _ _ _ _ _ _ _ _ stt w4 tp.hG tp.hF tp.hD tp.hT tp.hC tp.hV tp.hS tq.hG tq.hF tq.hD tq.hT tq.hC tq.hV tq.hS (by omega) lF lT lC (by omega) (by omega) (by omega)) ?_)
 rintro e w10 ⟨rfl, h10⟩
 have hX10 := bel_after h34 h34.size h10
 have hb10 := bel_after hb2 hb2.size hX10
 clear j0 j1
 obtain ⟨_, j0, _⟩ := id (HM.below hX10)
 go_wp2_with fail
 go_at_call 21
 (with_reducible refine Calls.mono (kept_any G C D TM CT VR SG g1 d1 g2 d2 gS cS a3 a4 a5 a6 na c3 c4 c5 c6 nc Ls w10 (hR.below hX10)) ?_)
 rintro e w11 ⟨rfl, h11⟩
 have hb11 := bel_after hb10 hb10.size h11
 go_wp2_with fail
 go_ret
 exact ⟨rfl, hb11⟩
end Go.Proofs.YtnicolaphmffkaaGreatDoor
