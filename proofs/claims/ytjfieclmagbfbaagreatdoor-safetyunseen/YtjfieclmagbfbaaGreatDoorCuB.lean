import Derived.Test.YtjfieclmagbfbaaGreatDoorJCuA
set_option linter.unusedSimpArgs false
set_option linter.unusedVariables false
set_option maxRecDepth 100000
set_option maxHeartbeats 8000000
namespace Go.Proofs.YtjfieclmagbfbaaGreatDoor
open Go.RowKit
def CtQ (w : World) (G : List Gp) (C : List Cf) (D : List Dt) (TM CT : List ByteArray) (VR : List Vr) (SG : List Ts) (pn : ByteArray) (stt : Int) (e : Ending) (w' : World) : Prop :=
 ∃ (o : Nat → Nat) (Ls : List Sv) (a1 a2 a3 a4 a5 a6 sb : Option Addr) (c1 c2 c3 c4 c5 c6 sd : Nat), e = .returned (.agg #[.string pn, .slice a1 G.length c1, .slice a2 C.length c2, .slice a3 D.length c3, .slice a4 TM.length c4, .slice a5 CT.length c5, .slice a6 VR.length c6, .slice sb SG.length sd, .int .i64 stt]) ∧ Ls.map (·.x) = SG ∧ CtE w o w' [⟨117, 2, .slice a6 VR.length c6, VR.length, cellsF Vr.cs VR⟩, ⟨9, 1, .slice a5 CT.length c5, CT.length, cellsF txC CT⟩, ⟨9, 1, .slice a4 TM.length c4, TM.length, cellsF txC TM⟩, ⟨89, 4, .slice a3 D.length c3, D.length, cellsF Dt.cs D⟩, ⟨75, 4, .slice a2 C.length c2, C.length, cellsF Cf.cs C⟩, ⟨73, 5, .slice a1 G.length c1, G.length, cellsF Gp.cs G⟩] Ls (.slice sb SG.length sd)
theorem copyTypedG_any (G : List Gp) (C : List Cf) (D : List Dt) (TM CT : List ByteArray) (VR : List Vr) (SG : List Ts) (pn : ByteArray) (ga ca da ta ka va sa : Option Addr) (gc cc dc tc kc vc sc : Nat) (stt : Int) (w : World) (hG : Fl 5 Gp.cs w (.slice ga G.length gc) G) (hF : Fl 4 Cf.cs w (.slice ca C.length cc) C) (hD : Fl 4 Dt.cs w (.slice da D.length dc) D) (hT : Fl 1 txC w (.slice ta TM.length tc) TM) (hC : Fl 1 txC w (.slice ka CT.length kc) CT) (hV : Fl 2 Vr.cs w (.slice va VR.length vc) VR) (hS : Tss (fun _ => True) w (.slice sa SG.length sc) SG)
  (lG : G.length ≤ 2932031007317) (lF : C.length ≤ 4398046511000) (lD : D.length ≤ 3518437208780) (lT : TM.length ≤ 8796093022100) (lC : CT.length ≤ 8796093022100) (lV : VR.length ≤ 5864062014700) (lS : SG.length ≤ 1099511627744) :
  Calls Tryz.prog 13 #[.agg #[.string pn, .slice ga G.length gc, .slice ca C.length cc, .slice da D.length dc, .slice ta TM.length tc, .slice ka CT.length kc, .slice va VR.length vc, .slice sa SG.length sc, .int .i64 stt]] w fun e w' => CtQ w G C D TM CT VR SG pn stt e w' := by
 obtain ⟨i98, h98, h980, h981, h982⟩ := info_parts info98
 obtain ⟨i9, h9, h90, h91, h92⟩ := info_parts info9q
 obtain ⟨i76, h76, h760, h761, h762⟩ := info_parts info76
 obtain ⟨i81, h81, h810, h811, h812⟩ := info_parts info81
 obtain ⟨i84, h84, h840, h841, h842⟩ := info_parts info84
 have dtsrc := hideF (fun (X : World) (hX : Below w.heap.size w X) => fl_src dtlen (by decide) (hD.below hX))
 have tmsrc := hideF (fun (X : World) (hX : Below w.heap.size w X) => fl_src tmlen (by decide) (hT.below hX))
 have ctsrc := hideF (fun (X : World) (hX : Below w.heap.size w X) => fl_src ctlen (by decide) (hC.below hX))
 have vrsrc := hideF (fun (X : World) (hX : Below w.heap.size w X) => fl_src vrlen (by decide) (hV.below hX))
 have hHb : Below w.heap.size w (((w.alloc (.cells #[.string pn, .slice ga G.length gc, .slice ca C.length cc, .slice da D.length dc, .slice ta TM.length tc, .slice ka CT.length kc, .slice va VR.length vc, .slice sa SG.length sc, .int .i64 stt] 31)).alloc (.cells #[.string ⟨#[]⟩, .slice none 0 0, .slice none 0 0, .slice none 0 0, .slice none 0 0, .slice none 0 0, .slice none 0 0, .slice none 0 0, .int .i64 0] 31)).alloc (.cells #[.string pn, .slice ga G.length gc, .slice ca C.length cc, .slice da D.length dc, .slice ta TM.length tc, .slice ka CT.length kc, .slice va VR.length vc, .slice sa SG.length sc, .int .i64 stt] 31)) := bel3o
 have k85 := copied_any G C _ _ (((w.alloc (.cells #[.string pn, .slice ga G.length gc, .slice ca C.length cc, .slice da D.length dc, .slice ta TM.length tc, .slice ka CT.length kc, .slice va VR.length vc, .slice sa SG.length sc, .int .i64 stt] 31)).alloc (.cells #[.string ⟨#[]⟩, .slice none 0 0, .slice none 0 0, .slice none 0 0, .slice none 0 0, .slice none 0 0, .slice none 0 0, .slice none 0 0, .int .i64 0] 31)).alloc (.cells #[.string pn, .slice ga G.length gc, .slice ca C.length cc, .slice da D.length dc, .slice ta TM.length tc, .slice ka CT.length kc, .slice va VR.length vc, .slice sa SG.length sc, .int .i64 stt] 31)) (hG.below hHb) (hF.below hHb) lG lF
 obtain ⟨sa', sc', e1, lS', kS⟩ := Rows.any hS
 injection e1 with e1 _ e2
 subst e1
 subst e2
 clear hG hF hD hT hC hV hS
 have I0 : CtS w (o0 w.heap.size) (((w.alloc (.cells #[.string pn, .slice ga G.length gc, .slice ca C.length cc, .slice da D.length dc, .slice ta TM.length tc, .slice ka CT.length kc, .slice va VR.length vc, .slice sa SG.length sc, .int .i64 stt] 31)).alloc (.cells #[.string ⟨#[]⟩, .slice none 0 0, .slice none 0 0, .slice none 0 0, .slice none 0 0, .slice none 0 0, .slice none 0 0, .slice none 0 0, .int .i64 0] 31)).alloc (.cells #[.string pn, .slice ga G.length gc, .slice ca C.length cc, .slice da D.length dc, .slice ta TM.length tc, .slice ka CT.length kc, .slice va VR.length vc, .slice sa SG.length sc, .int .i64 stt] 31)) #[.string pn, .slice ga G.length gc, .slice ca C.length cc, .slice da D.length dc, .slice ta TM.length tc, .slice ka CT.length kc, .slice va VR.length vc, .slice sa SG.length sc, .int .i64 stt] #[.string ⟨#[]⟩, .slice none 0 0, .slice none 0 0, .slice none 0 0, .slice none 0 0, .slice none 0 0, .slice none 0 0, .slice none 0 0, .int .i64 0] #[.string pn, .slice ga G.length gc, .slice ca C.length cc, .slice da D.length dc, .slice ta TM.length tc, .slice ka CT.length kc, .slice va VR.length vc, .slice sa SG.length sc, .int .i64 stt] [] [] (.slice none 0 0) :=
  ⟨bel3o, ((Has.new w _ _ rfl).alloc _).alloc _, (Has.new _ _ _ (by simp)).alloc _, Has.new _ _ _ (by simp), fun b hb => (by simp [o0]; omega), by simp [o0], by simp [o0], by simp [o0], ⟨World.ownsRow_nil _ _ _ _, fun g hg => (by simp [Value.ownBlock] at hg)⟩, fun y hy => (by cases hy), fun i s hs => (by simp at hs)⟩
 go_enter Tryz.func13, Tryz.ntmps13
 go_wp2_with fail
 generalize (((w.alloc (.cells #[.string pn, .slice ga G.length gc, .slice ca C.length cc, .slice da D.length dc, .slice ta TM.length tc, .slice ka CT.length kc, .slice va VR.length vc, .slice sa SG.length sc, .int .i64 stt] 31)).alloc (.cells #[.string ⟨#[]⟩, .slice none 0 0, .slice none 0 0, .slice none 0 0, .slice none 0 0, .slice none 0 0, .slice none 0 0, .slice none 0 0, .int .i64 0] 31)).alloc (.cells #[.string pn, .slice ga G.length gc, .slice ca C.length cc, .slice da D.length dc, .slice ta TM.length tc, .slice ka CT.length kc, .slice va VR.length vc, .slice sa SG.length sc, .int .i64 stt] 31)) = Y at *
 go_at_call 38
 refine Calls.mono k85 ?_
 rintro e w1 ⟨⟨a1, c1, a2, c2, rfl, hcp⟩, hb1⟩
 have hub := I0.ub.1
 have I1 := ((I0.below hb1).add ⟨73, 5, .slice a1 G.length c1, G.length, cellsF Gp.cs G⟩ (o0_new hcp.g (by omega))).add ⟨75, 4, .slice a2 C.length c2, C.length, cellsF Cf.cs C⟩ (o0_new hcp.c (by omega))
 clear hub hcp
 clear k85 hHb I0
 obtain ⟨_, bI1, _⟩ := id I1.box
 obtain ⟨_, uI1, zI1⟩ := id I1.ub
 go_wp2_with (first
  | (at_builtin; have I1x0 := I1.setU 1 (by simp) (.slice a1 G.length c1); have I1x1 := I1x0.setU 2 (by simp) (.slice a2 C.length c2); simp only [List.setIfInBounds_toArray, List.set_cons_succ, List.set_cons_zero] at I1x1; obtain ⟨s1, s2⟩ := dtsrc.out _ I1x1.hb; refine wpList_copyv rfl _ _ 26 rfl 89 i98 _ 4 40 Tryz.underlying26 h98 h980 h981 h982 rfl (by decide) da D.length dc (cellsF Dt.cs D) rfl rfl (cellsF_len dtlen _) s1 (cellsF_one dtone _) s2 (by unfold maxLen; omega) (by omega) ?_; intro a3 c3 w3 o3 hb3; have I2 := (I1x1.below hb3).add ⟨89, 4, .slice a3 D.length c3, D.length, cellsF Dt.cs D⟩ (o0_new o3 (by have := I1x1.ub.1; omega)); clear s1 s2; obtain ⟨_, bI2, _⟩ := id I2.box; obtain ⟨_, uI2, zI2⟩ := id I2.ub)
  | (at_builtin; have I2x0 := I2.setU 3 (by simp) (.slice a3 D.length c3); simp only [List.setIfInBounds_toArray, List.set_cons_succ, List.set_cons_zero] at I2x0; obtain ⟨s1, s2⟩ := tmsrc.out _ I2x0.hb; refine wpList_copyv rfl _ _ 27 rfl 9 i9 _ 1 16 Tryz.underlying27 h9 h90 h91 h92 rfl (by decide) ta TM.length tc (cellsF txC TM) rfl rfl (cellsF_len tmlen _) s1 (cellsF_one tmone _) s2 (by unfold maxLen; omega) (by omega) ?_; intro a4 c4 w4 o4 hb4; have I3 := (I2x0.below hb4).add ⟨9, 1, .slice a4 TM.length c4, TM.length, cellsF txC TM⟩ (o0_new o4 (by have := I2x0.ub.1; omega)); clear s1 s2; obtain ⟨_, bI3, _⟩ := id I3.box; obtain ⟨_, uI3, zI3⟩ := id I3.ub)
  | (at_builtin; have I3x0 := I3.setU 4 (by simp) (.slice a4 TM.length c4); simp only [List.setIfInBounds_toArray, List.set_cons_succ, List.set_cons_zero] at I3x0; obtain ⟨s1, s2⟩ := ctsrc.out _ I3x0.hb; refine wpList_copyv rfl _ _ 27 rfl 9 i9 _ 1 16 Tryz.underlying27 h9 h90 h91 h92 rfl (by decide) ka CT.length kc (cellsF txC CT) rfl rfl (cellsF_len ctlen _) s1 (cellsF_one ctone _) s2 (by unfold maxLen; omega) (by omega) ?_; intro a5 c5 w5 o5 hb5; have I4 := (I3x0.below hb5).add ⟨9, 1, .slice a5 CT.length c5, CT.length, cellsF txC CT⟩ (o0_new o5 (by have := I3x0.ub.1; omega)); clear s1 s2; obtain ⟨_, bI4, _⟩ := id I4.box; obtain ⟨_, uI4, zI4⟩ := id I4.ub)
  | (at_builtin; have I4x0 := I4.setU 5 (by simp) (.slice a5 CT.length c5); simp only [List.setIfInBounds_toArray, List.set_cons_succ, List.set_cons_zero] at I4x0; obtain ⟨s1, s2⟩ := vrsrc.out _ I4x0.hb; refine wpList_copyv rfl _ _ 28 rfl 117 i76 _ 2 24 Tryz.underlying28 h76 h760 h761 h762 rfl (by decide) va VR.length vc (cellsF Vr.cs VR) rfl rfl (cellsF_len vrlen _) s1 (cellsF_one vrone _) s2 (by unfold maxLen; omega) (by omega) ?_; intro a6 c6 w6 o6 hb6; have I5 := (I4x0.below hb6).add ⟨117, 2, .slice a6 VR.length c6, VR.length, cellsF Vr.cs VR⟩ (o0_new o6 (by have := I4x0.ub.1; omega)); clear s1 s2; obtain ⟨_, bI5, _⟩ := id I5.box; obtain ⟨_, uI5, zI5⟩ := id I5.ub))
 have I5x := I5.setU 6 (by simp) (.slice a6 VR.length c6)
 have I6 := I5x.setU 7 (by simp) (.slice none 0 0)
 simp only [List.setIfInBounds_toArray, List.set_cons_succ, List.set_cons_zero] at I6
 clear I1 I1x0 I1x1 I2 I2x0 I3 I3x0 I4 I4x0 I5 I5x dtsrc tmsrc ctsrc vrsrc
 generalize ((w6.setCell ⟨w.heap.size + 1 + 1, 6, none⟩ (.slice a6 VR.length c6)).setCell ⟨w.heap.size + 1 + 1, 7, none⟩ (.slice none 0 0)) = Y6 at *
 go_loopg [4, 5, 6] SG.length (fun gk s4 s5 s6 wr => ∃ (k : Nat) (o : Nat → Nat) (Ls : List Sv) (sb : Option Addr) (sd : Nat), k + gk = SG.length ∧ s4 = .int .i64 (k : Int) ∧ Hid (Ls.length = k) ∧ Hid (Ls.map (·.x) = SG.take k) ∧ Hid (CtS w o wr #[.string pn, .slice ga G.length gc, .slice ca C.length cc, .slice da D.length dc, .slice ta TM.length tc, .slice ka CT.length kc, .slice va VR.length vc, .slice sa SG.length sc, .int .i64 stt] #[.string ⟨#[]⟩, .slice none 0 0, .slice none 0 0, .slice none 0 0, .slice none 0 0, .slice none 0 0, .slice none 0 0, .slice none 0 0, .int .i64 0] #[.string pn, .slice a1 G.length c1, .slice a2 C.length c2, .slice a3 D.length c3, .slice a4 TM.length c4, .slice a5 CT.length c5, .slice a6 VR.length c6, .slice sb k sd, .int .i64 stt] [⟨117, 2, .slice a6 VR.length c6, VR.length, cellsF Vr.cs VR⟩, ⟨9, 1, .slice a5 CT.length c5, CT.length, cellsF txC CT⟩, ⟨9, 1, .slice a4 TM.length c4, TM.length, cellsF txC TM⟩, ⟨89, 4, .slice a3 D.length c3, D.length, cellsF Dt.cs D⟩, ⟨75, 4, .slice a2 C.length c2, C.length, cellsF Cf.cs C⟩, ⟨73, 5, .slice a1 G.length c1, G.length, cellsF Gp.cs G⟩] Ls (.slice sb k sd)))
 case atStart => exact ⟨0, _, [], none, 0, by omega, rfl, rfl, rfl, I6⟩
 case round =>
  obtain ⟨k, o, Ls, sb, sd, hk, rfl, hLl, hLs, hI⟩ := hrel; obtain rfl := hLl.out; have hbW := hI.out.hb; obtain ⟨_, b0, _⟩ := id hI.out.box; obtain ⟨_, u0, uz0⟩ := id hI.out.ub
  by_cases hlt : Ls.length < SG.length
  ·obtain ⟨g, o1, rfl, _, hg, P⟩ := kS.resolve_left (by intro e; rw [e] at hlt; simp at hlt)
   obtain ⟨cs, _, ⟨ve, vd, vl, vn, rfl, q1, q2, q3, q4⟩, P2⟩ := P Ls.length hlt; have p0 := (hbW.cell (p := ⟨g, _, none⟩) hg).trans (P2 0 _ rfl); have p1 := (hbW.cell (p := ⟨g, _, none⟩) hg).trans (P2 1 _ rfl); have p2 := (hbW.cell (p := ⟨g, _, none⟩) hg).trans (P2 2 _ rfl); have p3 := (hbW.cell (p := ⟨g, _, none⟩) hg).trans (P2 3 _ rfl); have p4 := (hbW.cell (p := ⟨g, _, none⟩) hg).trans (P2 4 _ rfl); have p5 := (hbW.cell (p := ⟨g, _, none⟩) hg).trans (P2 5 _ rfl); have p6 := (hbW.cell (p := ⟨g, _, none⟩) hg).trans (P2 6 _ rfl); simp only [Nat.add_zero] at p0; have t1 : (Ls.length : Int) < (SG.length : Int) := by omega
   have t0 : (0 : Int) ≤ (Ls.length : Int) := by omega
   have hdx : Hid (SG.take (Ls.length + 1) = SG.take Ls.length ++ [SG[Ls.length]]) := List.take_succ_eq_append_getElem hlt; obtain ⟨NY, hNY, fN, eN⟩ := Tns.flat q4; have lN : SG[Ls.length].nexts.length ≤ 4398046511000 := Rows.le q4; clear P P2 kS; generalize SG[Ls.length] = x at *; obtain ⟨xe, xec, rfl, -⟩ := Rows.any q1; obtain ⟨xd, xdc, rfl, -⟩ := Rows.any q2; obtain ⟨xl, xlc, rfl, -⟩ := Rows.any q3; obtain ⟨xn, xnc, rfl, -⟩ := Rows.any q4; have hNl : NY.length = x.nexts.length := by rw [← hNY, List.length_map]
   have nsrc : Hid (∀ X : World, Below w.heap.size w X → (∀ ad, xn = some ad → ∀ (j : Nat) (u : Value), (cellsF Nv.cs NY)[j]? = some u → X.cell? (ad.add j) = some u) ∧ (xn = none → x.nexts.length = 0)) := by
    have h := fun (X : World) (hX : Below w.heap.size w X) => fl_src nv_len (by decide) (show Fl 2 Nv.cs X (.slice xn NY.length xnc) NY by rw [hNl]; exact fN.below hX)
    rw [hNl] at h; exact h
   clear q4 fN; have HS0 : Has (wr.alloc (.cells #[.string x.name, .int .i64 x.id, .int .u64 x.green, .slice xe x.enter.length xec, .slice xd x.during.length xdc, .slice xl x.leave.length xlc, .slice xn x.nexts.length xnc] 51)) wr.heap.size #[.string x.name, .int .i64 x.id, .int .u64 x.green, .slice xe x.enter.length xec, .slice xd x.during.length xdc, .slice xl x.leave.length xlc, .slice xn x.nexts.length xnc] := Has.new _ _ _ rfl; have B0 : Below wr.heap.size wr (wr.alloc (.cells #[.string x.name, .int .i64 x.id, .int .u64 x.green, .slice xe x.enter.length xec, .slice xd x.during.length xdc, .slice xl x.leave.length xlc, .slice xn x.nexts.length xnc] 51)) := bel1 _
   go_wp2_with fail
   generalize (wr.alloc (.cells #[.string x.name, .int .i64 x.id, .int .u64 x.green, .slice xe x.enter.length xec, .slice xd x.during.length xdc, .slice xl x.leave.length xlc, .slice xn x.nexts.length xnc] 51)) = z0 at *; go_at_call 39
   (with_reducible refine (copyList_any x.enter _ _ z0 (q1.below (bel_after hbW hbW.size B0))).mono ?_)
   rintro e w1 ⟨⟨ea, ec, rfl, E1⟩, hb1⟩; have hz0 : wr.heap.size < z0.heap.size := HS0.1; have E1 : Sts (fun b => wr.heap.size < b) w1 _ x.enter := E1.mv (Mv.weak fun b _ h => Nat.lt_of_lt_of_le hz0 h); have B1 := bel_after B0 B0.size hb1; have HS1 := HS0.below hb1; clear p0 p1 p2 p3 p4 p5 p6; obtain ⟨_, s1, s2⟩ := id HS1
   go_wp2_with fail
   have B2 := B1.setCell (p := ⟨wr.heap.size, 3, none⟩) (Nat.le_refl _) (.slice ea x.enter.length ec); have HS2 := HS1.set 3 (by simp) (.slice ea x.enter.length ec); simp only [List.setIfInBounds_toArray, List.set_cons_succ, List.set_cons_zero] at HS2; have E1 := E1.mv (Mv.set (S := fun b => wr.heap.size < b) (w := w1) (g := wr.heap.size) (o := 3) (v := .slice ea x.enter.length ec) (by omega)); clear s1 s2; generalize (w1.setCell ⟨wr.heap.size, 3, none⟩ (.slice ea x.enter.length ec)) = z1 at *; go_at_call 39
   (with_reducible refine (copyList_any x.during _ _ z1 (q2.below (bel_after hbW hbW.size B2))).mono ?_)
   rintro e w2 ⟨⟨da2, dc2, rfl, E2⟩, hb2⟩; have E2 : Sts (fun b => wr.heap.size < b) w2 _ x.during := E2.mv (Mv.weak fun b _ h => Nat.lt_of_lt_of_le HS2.1 h); have E1 := E1.mv (Mv.below hb2); have B3 := bel_after B2 B2.size hb2; have HS3 := HS2.below hb2; obtain ⟨_, s1, s2⟩ := id HS3
   go_wp2_with fail
   have B4 := B3.setCell (p := ⟨wr.heap.size, 4, none⟩) (Nat.le_refl _) (.slice da2 x.during.length dc2); have HS4 := HS3.set 4 (by simp) (.slice da2 x.during.length dc2); simp only [List.setIfInBounds_toArray, List.set_cons_succ, List.set_cons_zero] at HS4; have E1 := E1.mv (Mv.set (S := fun b => wr.heap.size < b) (w := w2) (g := wr.heap.size) (o := 4) (v := .slice da2 x.during.length dc2) (by omega)); have E2 := E2.mv (Mv.set (S := fun b => wr.heap.size < b) (w := w2) (g := wr.heap.size) (o := 4) (v := .slice da2 x.during.length dc2) (by omega)); clear s1 s2; generalize (w2.setCell ⟨wr.heap.size, 4, none⟩ (.slice da2 x.during.length dc2)) = z2 at *; go_at_call 39
   (with_reducible refine (copyList_any x.leave _ _ z2 (q3.below (bel_after hbW hbW.size B4))).mono ?_)
   rintro e w3 ⟨⟨la, lc, rfl, E3⟩, hb3⟩; have E3 : Sts (fun b => wr.heap.size < b) w3 _ x.leave := E3.mv (Mv.weak fun b _ h => Nat.lt_of_lt_of_le HS4.1 h); have E1 := E1.mv (Mv.below hb3); have E2 := E2.mv (Mv.below hb3); have B5 := bel_after B4 B4.size hb3; have HS5 := HS4.below hb3; obtain ⟨_, s1, s2⟩ := id HS5; have B6 := B5.setCell (p := ⟨wr.heap.size, 5, none⟩) (Nat.le_refl _) (.slice la x.leave.length lc); have HS6 := HS5.set 5 (by simp) (.slice la x.leave.length lc); simp only [List.setIfInBounds_toArray, List.set_cons_succ, List.set_cons_zero] at HS6; have E1 := E1.mv (Mv.set (S := fun b => wr.heap.size < b) (w := w3) (g := wr.heap.size) (o := 5) (v := .slice la x.leave.length lc) (by omega)); have E2 := E2.mv (Mv.set (S := fun b => wr.heap.size < b) (w := w3) (g := wr.heap.size) (o := 5) (v := .slice la x.leave.length lc) (by omega)); have E3 := E3.mv (Mv.set (S := fun b => wr.heap.size < b) (w := w3) (g := wr.heap.size) (o := 5) (v := .slice la x.leave.length lc) (by omega)); obtain ⟨n1, n2⟩   := nsrc.out _ (bel_after hbW hbW.size B6)
   go_wp2_with (at_builtin; refine wpList_copyv rfl _ _ 49 rfl 58 i84 _ 2 32 Tryz.underlying49 h84 h840 h841 h842 rfl (by decide) xn x.nexts.length xnc (cellsF Nv.cs NY) rfl rfl (by rw [cellsF_len nv_len, hNl]) n1 (cellsF_one nv_one _) n2 (by unfold maxLen; omega) (by omega) ?_; intro a5n n5 w5n o5n hb5n; have HS7 := HS6.below hb5n; clear s1 s2; obtain ⟨_, s1, s2⟩ := id HS7)
   clear n1 n2 nsrc; have hz3 : wr.heap.size < (w3.setCell ⟨wr.heap.size, 5, none⟩ (.slice la x.leave.length lc)).heap.size := HS6.1; generalize (w3.setCell ⟨wr.heap.size, 5, none⟩ (.slice la x.leave.length lc)) = z3 at *; have E1 : Sts (fun b => wr.heap.size < b ∧ b < z3.heap.size) z3 _ x.enter := E1.mv (Mv.weak fun b hb hs => ⟨hs, hb⟩); have E2 : Sts (fun b => wr.heap.size < b ∧ b < z3.heap.size) z3 _ x.during := E2.mv (Mv.weak fun b hb hs => ⟨hs, hb⟩); have E3 : Sts (fun b => wr.heap.size < b ∧ b < z3.heap.size) z3 _ x.leave := E3.mv (Mv.weak fun b hb hs => ⟨hs, hb⟩); have C0 : Below z3.heap.size z3 w5n := hb5n; have E1 := E1.mv (mv_lt C0); have E2 := E2.mv (mv_lt C0); have E3 := E3.mv (mv_lt C0); have B7 := bel_after B6 B6.size hb5n; have nS : ∀ lo hi : Nat, ¬ (wr.heap.size < wr.heap.size ∧ wr.heap.size < hi) := fun _ _ h => by omega
   have E1 := E1.mv (Mv.set (w := w5n) (g := wr.heap.size) (o := 6) (v := .slice a5n x.nexts.length n5) (nS 0 _)); have E2 := E2.mv (Mv.set (w := w5n) (g := wr.heap.size) (o := 6) (v := .slice a5n x.nexts.length n5) (nS 0 _)); have E3 := E3.mv (Mv.set (w := w5n) (g := wr.heap.size) (o := 6) (v := .slice a5n x.nexts.length n5) (nS 0 _)); have B8 := B7.setCell (p := ⟨wr.heap.size, 6, none⟩) (Nat.le_refl _) (.slice a5n x.nexts.length n5); have HS8 := HS7.set 6 (by simp) (.slice a5n x.nexts.length n5); simp only [List.setIfInBounds_toArray, List.set_cons_succ, List.set_cons_zero] at HS8; have o8n := own_only o5n (only_of_set w5n wr.heap.size 6 (.slice a5n x.nexts.length n5)) (fun q hq e => by omega); have hz8 : z3.heap.size ≤ (w5n.setCell ⟨wr.heap.size, 6, none⟩ (.slice a5n x.nexts.length n5)).heap.size := by have := hb5n.size; simpa [World.setCell] using this
   clear s1 s2 HS0 HS1 HS2 HS3 HS4 HS5 HS6 HS7 B0 B1 B2 B3 B4 B5 B6 B7 C0 hb1 hb2 hb3 hb5n o5n q1 q2 q3; generalize (w5n.setCell ⟨wr.heap.size, 6, none⟩ (.slice a5n x.nexts.length n5)) = Y8 at *; obtain ⟨gko, rfl⟩ : ∃ z, z = gk := ⟨_, rfl⟩; obtain ⟨wro, rfl⟩ : ∃ z, z = wr := ⟨_, rfl⟩
   go_loopg [6] x.nexts.length (fun gk s6 wr => ∃ (m : Nat) (Q : List Nv), m + gk = x.nexts.length ∧ s6 = .int .i64 (m : Int) ∧ Hid (Q.map (·.x) = x.nexts.take m) ∧ Hid (Below z3.heap.size Y8 wr) ∧ Hid (wr.ownsRow z3.heap.size 58 2 (.slice a5n x.nexts.length n5) x.nexts.length (cellsF Nv.cs (Q ++ NY.drop m))) ∧ Hid (∀ y ∈ Q, Exs (fun b => z3.heap.size ≤ b ∧ (Value.slice a5n x.nexts.length n5).ownBlock ≠ some b) wr (.slice y.a y.x.wh.length y.c) y.x.wh))
   case atStart => exact ⟨0, [], by omega, rfl, rfl, Below.refl _ _, o8n, fun y hy => by cases hy⟩
   case round =>
    obtain ⟨m, Q, hm, rfl, hQ, hB, hO, hE⟩ := hrel; have B9 : Below wro.heap.size wro wr := B8.trans (hB.out.mono (by omega)); have HS9 : Has wr wro.heap.size _ := HS8.blk hB.out.size (hB.out.block _ hz3); obtain ⟨_, s1, s2⟩ := id HS9
    by_cases hml : m < x.nexts.length
    ·obtain ⟨gN, nc, e5, _, hcN', hgN2⟩ := own_block hO.out (by omega)
     injection e5 with e5 _ e6
     subst e5; subst e6; have hmY : m < NY.length := by omega
     have hQl : Hid (Q.length = x.nexts.length - gk) := by
      show _ = _; have := congrArg List.length hQ.out; simp at this; omega
     have hQm : Q.length = m := by have := hQl.out; omega
     have hyE : Exs (fun _ => True) wr (.slice NY[m].a NY[m].x.wh.length NY[m].c) NY[m].x.wh := (eN _ (List.getElem_mem hmY)).below (bel_after hbW hbW.size B9); have hyx : x.nexts.take (m + 1) = x.nexts.take m ++ [NY[m].x] := by
      rw [List.take_succ_eq_append_getElem hml]
      congr 2
      simp only [← hNY, List.getElem_map]
     have hdr : NY.drop m = NY[m] :: NY.drop (m + 1) := List.drop_eq_getElem_cons hmY; have hdr2 : ∀ z : Nv, NY[m].x.dst = z.x.dst → (cellsF Nv.cs (Q ++ NY.drop m)).set (m * 2 + 1) (.slice z.a z.x.wh.length z.c) = cellsF Nv.cs (Q ++ z :: NY.drop (m + 1)) := fun z hz => by have h := cellsF_set Q (NY.drop (m + 1)) NY[m] z hz; rw [hQm] at h; rw [hdr]; exact h
     have p2 := hO.out.cellAt (m * 2 + 1) (by omega); rw [hdr, cellsF_append, List.getElem?_append_right (by rw [cellsF_len nv_len]; omega), cellsF_len nv_len, show m * 2 + 1 - Q.length * 2 = 1 by omega] at p2; simp only [cellsF, List.flatMap_cons, Nv.cs, List.cons_append, List.getElem?_cons_succ, List.getElem?_cons_zero] at p2; have hst := fun u : Value => hO.out.stored (m * 2 + 1) u
     have p1 := s1 6; simp only [List.getElem?_toArray, List.getElem?_cons_succ, List.getElem?_cons_zero] at p1; have t1 : (m : Int) < (x.nexts.length : Int) := by omega
     have t0 : (0 : Int) ≤ (m : Int) := by omega
     clear hdr hQm; generalize NY[m] = yy at *; obtain ⟨y, ya, yc⟩ := yy
     dsimp only at *
     go_wp2_with fail
     refine wp_region_noPanic ?_; refine wp_region_E (S := fun w' => w'.cell? ⟨wro.heap.size, 6, none⟩ = some (.slice (some ⟨gN, 0, none⟩) x.nexts.length n5) ∧ w'.cell? ⟨gN, m * 2 + 1, none⟩ = some (.slice ya y.wh.length yc)) (E := 12) (by kernel_rfl) ?_ (fun hHeld => ?_)
     ·(try dsimp only)
      exact ⟨p1, p2⟩
     refine wpAnyE_take (i := 0) (oi := ⟨some 64, .fieldAddr 51 (.tmp 5) 6, 0, "law.go:89", #[], none⟩) (v := ?_) rfl (by kernel_rfl) (by kernel_rfl) (by kernel_rfl) (by kernel_rfl) (fun _ _ _ h => h) (Or.inl ⟨by rfl, ?_⟩) (by assumption) ?_; rotate_left
     ·intro wz hSz; (try dsimp only at hSz); go_simp; all_goals (with_reducible rfl)
     (try simp only [Act.put, List.setIfInBounds_toArray, List.set_cons_zero, List.set_cons_succ])
     refine wpAnyE_take (i := 1) (oi := ⟨some 65, .load 49 (.tmp 64), 49, "law.go:89", #[⟨0, .data⟩], none⟩) (v := ?_) rfl (by kernel_rfl) (by kernel_rfl) (by kernel_rfl) (by kernel_rfl) (fun _ _ _ h => h) (Or.inl ⟨by rfl, ?_⟩) (by assumption) ?_; rotate_left
     ·intro wz hSz; (try dsimp only at hSz); go_simp; all_goals (with_reducible rfl)
     (try simp only [Act.put, List.setIfInBounds_toArray, List.set_cons_zero, List.set_cons_succ])
     refine wpAnyE_take (i := 2) (oi := ⟨some 66, .move (.tmp 6), 3, "law.go:89", #[], none⟩) (v := ?_) rfl (by kernel_rfl) (by kernel_rfl) (by kernel_rfl) (by kernel_rfl) (fun _ _ _ h => h) (Or.inl ⟨by rfl, ?_⟩) (by assumption) ?_; rotate_left
     ·intro wz hSz; (try dsimp only at hSz); go_simp; all_goals (with_reducible rfl)
     (try simp only [Act.put, List.setIfInBounds_toArray, List.set_cons_zero, List.set_cons_succ])
     refine wpAnyE_take (i := 3) (oi := ⟨some 67, .fieldAddr 51 (.tmp 5) 6, 0, "law.go:89", #[], none⟩) (v := ?_) rfl (by kernel_rfl) (by kernel_rfl) (by kernel_rfl) (by kernel_rfl) (fun _ _ _ h => h) (Or.inl ⟨by rfl, ?_⟩) (by assumption) ?_; rotate_left
     ·intro wz hSz; (try dsimp only at hSz); go_simp; all_goals (with_reducible rfl)
     (try simp only [Act.put, List.setIfInBounds_toArray, List.set_cons_zero, List.set_cons_succ])
     refine wpAnyE_take (i := 4) (oi := ⟨some 68, .load 49 (.tmp 67), 49, "law.go:89", #[⟨3, .data⟩], none⟩) (v := ?_) rfl (by kernel_rfl) (by kernel_rfl) (by kernel_rfl) (by kernel_rfl) (fun _ _ _ h => h) (Or.inl ⟨by rfl, ?_⟩) (by assumption) ?_; rotate_left
     ·intro wz hSz; (try dsimp only at hSz); go_simp; all_goals (with_reducible rfl)
     (try simp only [Act.put, List.setIfInBounds_toArray, List.set_cons_zero, List.set_cons_succ])
     refine wpAnyE_take (i := 5) (oi := ⟨some 69, .move (.tmp 6), 3, "law.go:89", #[], none⟩) (v := ?_) rfl (by kernel_rfl) (by kernel_rfl) (by kernel_rfl) (by kernel_rfl) (fun _ _ _ h => h) (Or.inl ⟨by rfl, ?_⟩) (by assumption) ?_; rotate_left
     ·intro wz hSz; (try dsimp only at hSz); go_simp; all_goals (with_reducible rfl)
     (try simp only [Act.put, List.setIfInBounds_toArray, List.set_cons_zero, List.set_cons_succ])
     refine wpAnyE_take (i := 6) (oi := ⟨some 70, .indexAddr 49 (.tmp 68) (.tmp 69), 0, "law.go:89", #[⟨4, .data⟩, ⟨5, .data⟩], none⟩) (v := ?_) rfl (by kernel_rfl) (by kernel_rfl) (by kernel_rfl) (by kernel_rfl) (fun _ _ _ h => h) (Or.inl ⟨by rfl, ?_⟩) (by assumption) ?_; rotate_left
     ·intro wz hSz; (try dsimp only at hSz); go_simp; all_goals (with_reducible rfl)
     (try simp only [Act.put, List.setIfInBounds_toArray, List.set_cons_zero, List.set_cons_succ])
     refine wpAnyE_take (i := 7) (oi := ⟨some 71, .fieldAddr 58 (.tmp 70) 1, 0, "law.go:89", #[⟨6, .data⟩], none⟩) (v := ?_) rfl (by kernel_rfl) (by kernel_rfl) (by kernel_rfl) (by kernel_rfl) (fun _ _ _ h => h) (Or.inl ⟨by rfl, ?_⟩) (by assumption) ?_; rotate_left
     ·intro wz hSz; (try dsimp only at hSz); go_simp; all_goals (with_reducible rfl)
     (try simp only [Act.put, List.setIfInBounds_toArray, List.set_cons_zero, List.set_cons_succ])
     refine wpAnyE_take (i := 8) (oi := ⟨some 72, .load 56 (.tmp 71), 56, "law.go:89", #[⟨7, .data⟩], none⟩) (v := ?_) rfl (by kernel_rfl) (by kernel_rfl) (by kernel_rfl) (by kernel_rfl) (fun _ _ _ h => h) (Or.inl ⟨by rfl, ?_⟩) (by assumption) ?_; rotate_left
     ·intro wz hSz; (try dsimp only at hSz); go_simp; all_goals (with_reducible rfl)
     (try simp only [Act.put, List.setIfInBounds_toArray, List.set_cons_zero, List.set_cons_succ])
     refine wpAnyE_one (i := 9) (o := ⟨some 73, .call { callee := Callee.value (.func 40), args := #[.tmp 72], argTypes := #[56] }, 56, "law.go:89", #[⟨8, .data⟩], none⟩) (by kernel_rfl) rfl (by rfl) (fun K hK => ?_)
     go_simp
     go_at_call 40
     (with_reducible refine Calls.mono (copyNodes_any y.wh _ _ _ (hyE.below belD0)) ?_)
     rintro e w8 ⟨⟨na8, nc8, rfl, X8⟩, hb8⟩
     go_wp2_with fail
     have hb8' : Below wr.heap.size wr w8 := bel_after belD0 (Nat.le_refl _) hb8; refine hK.out _ _ ?_ (fun hHeld => ?_)
     ·(try dsimp only)
      obtain ⟨h1, h2⟩ := hHeld; exact ⟨(hb8.cell (p := ⟨wro.heap.size, _, none⟩) (cell_ltF h1)).trans h1, (hb8.cell (p := ⟨gN, _, none⟩) (cell_ltF h2)).trans h2⟩
     clear hK K
     (try simp only [Act.put, List.setIfInBounds_toArray, List.set_cons_zero, List.set_cons_succ])
     refine wpAnyE_one (i := 10) (o := ⟨some 74, .indexAddr 49 (.tmp 65) (.tmp 66), 0, "law.go:89", #[⟨1, .data⟩, ⟨2, .data⟩, ⟨0, .phase⟩, ⟨1, .phase⟩, ⟨2, .phase⟩, ⟨3, .phase⟩, ⟨4, .phase⟩, ⟨5, .phase⟩, ⟨6, .phase⟩, ⟨7, .phase⟩, ⟨8, .phase⟩, ⟨9, .phase⟩], none⟩) (by kernel_rfl) rfl (by rfl) (fun K hK => ?_)
     go_simp
     refine hK.out _ _ hHeld (fun hHeld => ?_); clear hK K
     (try simp only [Act.put, List.setIfInBounds_toArray, List.set_cons_zero, List.set_cons_succ])
     refine wpAnyE_take (i := 11) (oi := ⟨some 75, .fieldAddr 58 (.tmp 74) 1, 0, "law.go:89", #[⟨10, .data⟩, ⟨0, .phase⟩, ⟨1, .phase⟩, ⟨2, .phase⟩, ⟨3, .phase⟩, ⟨4, .phase⟩, ⟨5, .phase⟩, ⟨6, .phase⟩, ⟨7, .phase⟩, ⟨8, .phase⟩, ⟨9, .phase⟩], none⟩) (v := ?_) rfl (by kernel_rfl) (by kernel_rfl) (by kernel_rfl) (by kernel_rfl) (fun _ _ _ h => h) (Or.inl ⟨by rfl, ?_⟩) (by assumption) ?_; rotate_left
     ·intro wz hSz; (try dsimp only at hSz); go_simp; all_goals (with_reducible rfl)
     (try simp only [Act.put, List.setIfInBounds_toArray, List.set_cons_zero, List.set_cons_succ])
     refine wpAnyE_last (o := ⟨none, .store 56 (.tmp 75) (.tmp 73), 0, "law.go:89", #[⟨11, .data⟩, ⟨9, .data⟩, ⟨9, .chain⟩, ⟨0, .phase⟩, ⟨1, .phase⟩, ⟨2, .phase⟩, ⟨3, .phase⟩, ⟨4, .phase⟩, ⟨5, .phase⟩, ⟨6, .phase⟩, ⟨7, .phase⟩, ⟨8, .phase⟩, ⟨9, .phase⟩], none⟩) (by kernel_rfl) rfl (by kernel_rfl) (by rfl) (fun K hK => ?_); obtain ⟨hq1, hq2⟩ := hHeld; have fz := (own_bel hO.out hb8').frozenAt (m * 2 + 1)
     go_simp
     refine hK _ _ ?_; refine NoPanic.normal ?_; have hQ2 : Hid ((Q ++ [(⟨y, na8, nc8⟩ : Nv)]).map (·.x) = x.nexts.take (m + 1)) := by show _ = _; rw [List.map_append, hQ.out, hyx]; rfl
     have hB2 : Hid (Below z3.heap.size Y8 (w8.setCell ⟨gN, m * 2 + 1, none⟩ (.slice na8 y.wh.length nc8))) := (bel_after hB.out (Nat.le_trans hz8 hB.out.size) hb8').setCell (p := ⟨gN, m * 2 + 1, none⟩) hcN' _; have hO8 := ((own_bel hO.out hb8').stored (m * 2 + 1) (.slice na8 y.wh.length nc8)).1; rw [hdr2 ⟨y, na8, nc8⟩ rfl] at hO8; have hO2 : Hid ((w8.setCell ⟨gN, m * 2 + 1, none⟩ (.slice na8 y.wh.length nc8)).ownsRow z3.heap.size 58 2 (.slice (some ⟨gN, 0, none⟩) x.nexts.length n5) x.nexts.length (cellsF Nv.cs ((Q ++ [(⟨y, na8, nc8⟩ : Nv)]) ++ NY.drop (m + 1)))) := by show World.ownsRow _ _ _ _ _ _ _; rw [List.append_assoc]; exact hO8
     have hE2 : Hid (∀ y' ∈ Q ++ [(⟨y, na8, nc8⟩ : Nv)], Exs (fun b => z3.heap.size ≤ b ∧ (Value.slice (some ⟨gN, 0, none⟩) x.nexts.length n5).ownBlock ≠ some b) (w8.setCell ⟨gN, m * 2 + 1, none⟩ (.slice na8 y.wh.length nc8)) (.slice y'.a y'.x.wh.length y'.c) y'.x.wh) := by
      intro y' hy'; rcases List.mem_append.1 hy' with hy' | hy'
      ·exact ((hE.out y' hy').mv (Mv.below hb8')).mv (Mv.set (fun h => h.2 rfl))
      ·simp only [List.mem_singleton] at hy'
       subst hy'; have hX : Exs (fun b => z3.heap.size ≤ b ∧ (Value.slice (some ⟨gN, 0, none⟩) x.nexts.length n5).ownBlock ≠ some b) w8 (.slice na8 y.wh.length nc8) y.wh := X8.mv (Mv.weak fun b _ hb => ⟨Nat.le_trans (Nat.le_trans hz8 hB.out.size) hb, fun e => by
        have e' : gN = b := by injection e
        have h1 : wr.heap.size ≤ b := hb; omega⟩)
       exact hX.mv (Mv.set (fun h => h.2 rfl))
     clear hO8 hdr2 hst hO hE hB hQ X8
     go_wp2_with fail
     go_roundg (gk - 1)
     case measure => go_light; omega
     case rel => exact ⟨m + 1, _, by omega, by go_num, hQ2, hB2, hO2, hE2⟩
    ·obtain rfl : m = x.nexts.length := by omega
     have t1 : ¬ (x.nexts.length : Int) < (x.nexts.length : Int) := by omega
     have hQx : Q.map (·.x) = x.nexts := by rw [hQ.out, List.take_length]
     have hOx := hO.out; rw [List.drop_eq_nil_of_le (by omega), List.append_nil] at hOx; have I7 := hI.out.below B9; clear u0 uz0 b0; obtain ⟨_, u7, uz7⟩ := id I7.ub; have E1 := E1.mv (mv_lt hB.out); have E2 := E2.mv (mv_lt hB.out); have E3 := E3.mv (mv_lt hB.out)
     go_wp2_with (at_builtin; (refine wpList_append_mine _ rfl _ _ 29 rfl w.heap.size 51 i81 _ 7 128 Tryz.underlying29 h81 h810 h811 h812 rfl (by decide) (.slice sb Ls.length sd) Ls.length (cellsF Sv.cs Ls) rfl (I7.below (bel1 _)).own.own ⟨wr.heap.size, 0, none⟩ 1 1 (Sv.cs ⟨x, ea, ec, da2, dc2, la, lc, a5n, n5, cellsF Nv.cs Q⟩) rfl rfl (cells_at (W := wr) rfl _ _) (sv_one _) (by decide) (by unfold maxLen; omega) (by omega) (by have := I7.hb.size; simp; omega) ?_); intro g' c' w9 o9 hg9 hat9 _ _; obtain ⟨o', I8⟩ := hI.out.push (bel_after B9 B9.size (bel1 _)) ⟨x, ea, ec, da2, dc2, la, lc, a5n, n5, cellsF Nv.cs Q⟩ ((E1.mv (Mv.below (bel1 _))).mv (Mv.weak fun b _ hs => ⟨Nat.le_of_lt hs.1, fun e => by have := (own_lt hOx b e).1; have := hs.2; omega⟩)) ((E2.mv (Mv.below (bel1 _))).mv (Mv.weak fun b _ hs => ⟨Nat.le_of_lt hs.1, fun e => by have := (own_lt hOx b e).1; have := hs.2; omega⟩)) ((E3.mv (Mv.below (bel1 _))).mv (Mv.weak fun b _ hs => ⟨Nat.le_of_lt hs.1, fun e => by have := (own_lt hOx b e).1; have := hs.2; omega⟩)) (own_mono (own_bel hOx (bel1 _)) (by omega)) (by have h1 := els_nv (S := fun b => wro.heap.size ≤ b ∧ (Value.slice a5n x.nexts.length n5).ownBlock ≠ some b) (fun y hy => ((hE.out y hy).mv (Mv.weak fun b _ hs => ⟨by have := hs.1; omega, hs.2⟩)).mv (Mv.below (bel1 (w := wr) (.cells #[.string x.name, .int .i64 x.id, .int .u64 x.green, .slice ea x.enter.length ec, .slice da2 x.during.length dc2, .slice la x.leave.length lc, .slice a5n x.nexts.length n5] 51)))); rw [hQx] at h1; exact h1) hg9 hat9 o9; clear u7 uz7 s1 s2; obtain ⟨_, u8, uz8⟩ := id I8.ub)
     have I9 := I8.setU 7 (by simp) (.slice (some ⟨g', 0, none⟩) (Ls.length + 1) c'); simp only [List.setIfInBounds_toArray, List.set_cons_succ, List.set_cons_zero] at I9; have hL9 : Hid ((Ls ++ [(⟨x, ea, ec, da2, dc2, la, lc, a5n, n5, cellsF Nv.cs Q⟩ : Sv)]).map (·.x) = SG.take (Ls.length + 1)) := by show _ = _; rw [hdx.out, List.map_append, hLs.out]; rfl
     have hL8 : Hid ((Ls ++ [(⟨x, ea, ec, da2, dc2, la, lc, a5n, n5, cellsF Nv.cs Q⟩ : Sv)]).length = Ls.length + 1) := by show _ = _; simp
     clear I8 I7 hI
     go_roundg (gko - 1)
     case measure => go_light; omega
     case rel => exact ⟨Ls.length + 1, o', _, _, _, by omega, by go_num, hL8, hL9, I9⟩
  ·have hk2 : Hid (Ls.length = SG.length) := by show _ = _; omega
   have t1 : ¬ (Ls.length : Int) < (SG.length : Int) := by omega
   have hLe : Ls.map (·.x) = SG := by rw [hLs.out, hk2.out, List.take_length]
   have hI2 := hI.out; clear hI hLs kS hk; obtain ⟨_, r0, rz0⟩ := id hI2.res; have HF := set9 hI2.res rfl (.string pn) (.slice a1 G.length c1) (.slice a2 C.length c2) (.slice a3 D.length c3) (.slice a4 TM.length c4) (.slice a5 CT.length c5) (.slice a6 VR.length c6) (.slice sb Ls.length sd) (.int .i64 stt); have hO9 := only9 wr (w.heap.size + 1) (.string pn) (.slice a1 G.length c1) (.slice a2 C.length c2) (.slice a3 D.length c3) (.slice a4 TM.length c4) (.slice a5 CT.length c5) (.slice a6 VR.length c6) (.slice sb Ls.length sd) (.int .i64 stt); have hFin := hI2.fin hO9; clear hI2 hO9
   go_wp2_with fail
   obtain ⟨_, d2, _⟩ := id HF; exact bodyPost_ret (v := .agg #[.string pn, .slice a1 G.length c1, .slice a2 C.length c2, .slice a3 D.length c3, .slice a4 TM.length c4, .slice a5 CT.length c5, .slice a6 VR.length c6, .slice sb Ls.length sd, .int .i64 stt]) (by simp [results, Tryz.results13, go_sem, d2]) rfl ⟨o, Ls, a1, a2, a3, a4, a5, a6, sb, c1, c2, c3, c4, c5, c6, sd, by rw [← hk2.out], hLe, by rw [← hk2.out]; exact hFin⟩
end Go.Proofs.YtjfieclmagbfbaaGreatDoor
