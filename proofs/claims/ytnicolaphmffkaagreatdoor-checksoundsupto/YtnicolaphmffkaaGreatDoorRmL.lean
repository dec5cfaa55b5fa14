import Derived.Test.YtnicolaphmffkaaGreatDoorTkk
import Derived.Test.YtnicolaphmffkaaGreatDoorRmY
import Derived.Test.YtnicolaphmffkaaGreatDoorRmK
import Derived.Test.YtnicolaphmffkaaGreatDoorRmP
import Derived.Test.YtnicolaphmffkaaGreatDoorSnW
import Derived.Test.YtnicolaphmffkaaGreatDoorGdB
import Derived.Test.YtnicolaphmffkaaGreatDoorRtG
import Derived.Test.YtnicolaphmffkaaGreatDoorRtF
import Derived.Test.YtnicolaphmffkaaGreatDoorRmS
set_option linter.unusedVariables false
set_option linter.unusedSimpArgs false
namespace Go.Proofs.YtnicolaphmffkaaGreatDoor
open Go.RowKit
set_option maxRecDepth 100000 in
set_option maxHeartbeats 16000000 in
/-- CheckSounds. -/
theorem sounds_law (G : List Gp) (C : List Cf) (D : List Dt) (TM CT : List ByteArray) (VR : List Vr) (SG : List Ts) (L : List Nd) (pn : ByteArray) (ga ca da ta ka va sa ea : Option Addr) (gc cc dc tc kc vc sc ec : Nat) (stt typ : Int) (w : World) (hP : TPl w G C D TM CT VR SG pn ga ca da ta ka va sa gc cc dc tc kc vc sc stt) (tb : Tb w) (hE : Fl 5 Nd.cs w (.slice ea L.length ec) L) (hv : ∀ x ∈ L, vOk x.val)
    (lG : G.length ≤ 1048576) (lC : C.length ≤ 1048576) (lD : D.length ≤ 1048576) (lT : TM.length ≤ 1048576) (lK : CT.length ≤ 1048576) (lV : VR.length ≤ 1048576) (lS : SG.length ≤ 1048576) (lL : L.length ≤ 1048576) (lx : ∀ x ∈ SG, SzT x) (hgr : ∀ s ∈ SG, 0 ≤ s.green ∧ s.green < 18446744073709551616) :
    Calls Tryz.prog 3 #[.agg #[.string pn, .slice ga G.length gc, .slice ca C.length cc, .slice da D.length dc, .slice ta TM.length tc, .slice ka CT.length kc, .slice va VR.length vc, .slice sa SG.length sc, .int .i64 stt], .slice ea L.length ec, .int .i64 typ] w fun e w' => e = .returned (.bool true) ∧ Below w.heap.size w w' := by
  have hbA : Below w.heap.size w ((w.alloc (.cells #[.string pn, .slice ga G.length gc, .slice ca C.length cc, .slice da D.length dc, .slice ta TM.length tc, .slice ka CT.length kc, .slice va VR.length vc, .slice sa SG.length sc, .int .i64 stt] 31)).alloc (.cells #[.slice none 0 0, .slice none 0 0, .slice none 0 0, .slice none 0 0, .slice none 0 0, .slice none 0 0, .slice none 0 0, .slice none 0 0, .slice none 0 0, .slice none 0 0, .slice none 0 0, .slice none 0 0, .slice none 0 0, .slice none 0 0, .slice none 0 0, .slice none 0 0, .slice none 0 0] 52)) := (bel1 _).alloc (by simp) _
  have KT : Has ((w.alloc (.cells #[.string pn, .slice ga G.length gc, .slice ca C.length cc, .slice da D.length dc, .slice ta TM.length tc, .slice ka CT.length kc, .slice va VR.length vc, .slice sa SG.length sc, .int .i64 stt] 31)).alloc (.cells #[.slice none 0 0, .slice none 0 0, .slice none 0 0, .slice none 0 0, .slice none 0 0, .slice none 0 0, .slice none 0 0, .slice none 0 0, .slice none 0 0, .slice none 0 0, .slice none 0 0, .slice none 0 0, .slice none 0 0, .slice none 0 0, .slice none 0 0, .slice none 0 0, .slice none 0 0] 52)) w.heap.size #[.string pn, .slice ga G.length gc, .slice ca C.length cc, .slice da D.length dc, .slice ta TM.length tc, .slice ka CT.length kc, .slice va VR.length vc, .slice sa SG.length sc, .int .i64 stt] := (Has.new w _ _ rfl).alloc _
  have KR : Has ((w.alloc (.cells #[.string pn, .slice ga G.length gc, .slice ca C.length cc, .slice da D.length dc, .slice ta TM.length tc, .slice ka CT.length kc, .slice va VR.length vc, .slice sa SG.length sc, .int .i64 stt] 31)).alloc (.cells #[.slice none 0 0, .slice none 0 0, .slice none 0 0, .slice none 0 0, .slice none 0 0, .slice none 0 0, .slice none 0 0, .slice none 0 0, .slice none 0 0, .slice none 0 0, .slice none 0 0, .slice none 0 0, .slice none 0 0, .slice none 0 0, .slice none 0 0, .slice none 0 0, .slice none 0 0] 52)) (w.heap.size + 1) #[.slice none 0 0, .slice none 0 0, .slice none 0 0, .slice none 0 0, .slice none 0 0, .slice none 0 0, .slice none 0 0, .slice none 0 0, .slice none 0 0, .slice none 0 0, .slice none 0 0, .slice none 0 0, .slice none 0 0, .slice none 0 0, .slice none 0 0, .slice none 0 0, .slice none 0 0] := Has.new _ _ _ (by simp)
  have hz : ((w.alloc (.cells #[.string pn, .slice ga G.length gc, .slice ca C.length cc, .slice da D.length dc, .slice ta TM.length tc, .slice ka CT.length kc, .slice va VR.length vc, .slice sa SG.length sc, .int .i64 stt] 31)).alloc (.cells #[.slice none 0 0, .slice none 0 0, .slice none 0 0, .slice none 0 0, .slice none 0 0, .slice none 0 0, .slice none 0 0, .slice none 0 0, .slice none 0 0, .slice none 0 0, .slice none 0 0, .slice none 0 0, .slice none 0 0, .slice none 0 0, .slice none 0 0, .slice none 0 0, .slice none 0 0] 52)).heap.size = w.heap.size + 2 := by simp
  obtain ⟨o, o5, o3, o4'⟩ : ∃ o : Nat → Nat, (∀ b, b < w.heap.size → o b = 5) ∧ o w.heap.size = 3 ∧ o (w.heap.size + 1) = 4 := ⟨(fun b => if b < w.heap.size then 5 else if b = w.heap.size + 1 then 4 else 3), fun b hb => if_pos hb, by simp, by simp⟩
  have hR : Rm o w.heap.size ((w.alloc (.cells #[.string pn, .slice ga G.length gc, .slice ca C.length cc, .slice da D.length dc, .slice ta TM.length tc, .slice ka CT.length kc, .slice va VR.length vc, .slice sa SG.length sc, .int .i64 stt] 31)).alloc (.cells #[.slice none 0 0, .slice none 0 0, .slice none 0 0, .slice none 0 0, .slice none 0 0, .slice none 0 0, .slice none 0 0, .slice none 0 0, .slice none 0 0, .slice none 0 0, .slice none 0 0, .slice none 0 0, .slice none 0 0, .slice none 0 0, .slice none 0 0, .slice none 0 0, .slice none 0 0] 52)) (w.heap.size + 1) (fun _ => []) (fun _ => .slice none 0 0) := rm_start KR o4' (by omega)
  have hBA : w.heap.size ≤ ((w.alloc (.cells #[.string pn, .slice ga G.length gc, .slice ca C.length cc, .slice da D.length dc, .slice ta TM.length tc, .slice ka CT.length kc, .slice va VR.length vc, .slice sa SG.length sc, .int .i64 stt] 31)).alloc (.cells #[.slice none 0 0, .slice none 0 0, .slice none 0 0, .slice none 0 0, .slice none 0 0, .slice none 0 0, .slice none 0 0, .slice none 0 0, .slice none 0 0, .slice none 0 0, .slice none 0 0, .slice none 0 0, .slice none 0 0, .slice none 0 0, .slice none 0 0, .slice none 0 0, .slice none 0 0] 52)).heap.size := by omega
  go_enter Tryz.func3, Tryz.ntmps3
  go_wp2_with fail
  generalize ((w.alloc (.cells #[.string pn, .slice ga G.length gc, .slice ca C.length cc, .slice da D.length dc, .slice ta TM.length tc, .slice ka CT.length kc, .slice va VR.length vc, .slice sa SG.length sc, .int .i64 stt] 31)).alloc (.cells #[.slice none 0 0, .slice none 0 0, .slice none 0 0, .slice none 0 0, .slice none 0 0, .slice none 0 0, .slice none 0 0, .slice none 0 0, .slice none 0 0, .slice none 0 0, .slice none 0 0, .slice none 0 0, .slice none 0 0, .slice none 0 0, .slice none 0 0, .slice none 0 0, .slice none 0 0] 52)) = Wa at *
  clear KR hz
  have k6 := roomTyped_any G C D TM CT VR SG pn ga ca da ta ka va sa gc cc dc tc kc vc sc (w.heap.size + 1) stt o w.heap.size (fun _ => []) (fun _ => .slice none 0 0) Wa (fun Y hY => hP.hG.below (hbA.trans hY)) (fun Y hY => hP.hF.below (hbA.trans hY)) (fun Y hY => hP.hD.below (hbA.trans hY)) (fun Y hY => hP.hT.below (hbA.trans hY)) (fun Y hY => hP.hC.below (hbA.trans hY)) (fun Y hY => hP.hV.below (hbA.trans hY)) ((hP.hS.mv' (Mv.weak (fun k hk _ => hk))).mv' (mvB hbA)) lG lC lD lT lK lV lS lx o5 (fun k => Nat.zero_le _) hR
  go_at_call 6
  refine Calls.mono k6 ?_
  rintro e w1 ⟨o1, V1, F1, g1, c1, g2, c2, g3, c3, g4, c4, g5, c5, gv, cv, gs, cs, rfl, hR1, hK1, cap1, cap2, cap3, cap4, cap5, capv, hFz, hS1, l0, l6, l7, hu⟩
  have T1 : TyS o Wa w.heap.size (w.heap.size + 1) o1 w1 F1 V1 [] [(gv, (cellsF Vr.cs VR ++ [.string ⟨#[]⟩, .int .i32 4444, .string ⟨#[]⟩, .int .i32 4444])), (g5, (cellsF txC CT ++ [.string ⟨#[114, 111, 111, 109]⟩, .string ⟨#[114, 111, 111, 109]⟩])), (g4, (cellsF txC TM ++ [.string ⟨#[114, 111, 111, 109]⟩, .string ⟨#[114, 111, 111, 109]⟩])), (g3, (cellsF Dt.cs D ++ [.string ⟨#[]⟩, .bool false, .int .i64 4444, .int .i64 0, .string ⟨#[]⟩, .bool false, .int .i64 4444, .int .i64 0])), (g1, (cellsF Gp.cs G ++ [.string ⟨#[]⟩, .int .i64 0, .int .i64 4444, .int .i64 0, .int .i64 0, .string ⟨#[]⟩, .int .i64 0, .int .i64 4444, .int .i64 0, .int .i64 0])), (g2, (cellsF Cf.cs C ++ [.int .i64 4444, .int .i64 0, .int .i64 0, .int .i64 0, .int .i64 4444, .int .i64 0, .int .i64 0, .int .i64 0]))] := ((TyS.start hR).call hR1.out hK1.out hFz.out).sub (fun q hq => hq) (fun p hp => List.mem_append_left _ hp)
  have T2 := T1.alloc #[.string pn, .slice (some ⟨g1, 0, none⟩) G.length c1, .slice (some ⟨g2, 0, none⟩) C.length c2, .slice (some ⟨g3, 0, none⟩) D.length c3, .slice (some ⟨g4, 0, none⟩) TM.length c4, .slice (some ⟨g5, 0, none⟩) CT.length c5, .slice (some ⟨gv, 0, none⟩) VR.length cv, .slice (some ⟨gs, 0, none⟩) SG.length cs, .int .i64 stt] 31
  have S2 := (hS1.out.mv' (Mv.re (fun b hb => nxO_old (t := 3) hb))).mv' (Mv.below (bel1 (.cells #[.string pn, .slice (some ⟨g1, 0, none⟩) G.length c1, .slice (some ⟨g2, 0, none⟩) C.length c2, .slice (some ⟨g3, 0, none⟩) D.length c3, .slice (some ⟨g4, 0, none⟩) TM.length c4, .slice (some ⟨g5, 0, none⟩) CT.length c5, .slice (some ⟨gv, 0, none⟩) VR.length cv, .slice (some ⟨gs, 0, none⟩) SG.length cs, .int .i64 stt] 31)))
  clear k6 hR1 hK1 hFz hS1 T1 hR
  go_wp2_with fail
  generalize (w1.alloc (.cells #[.string pn, .slice (some ⟨g1, 0, none⟩) G.length c1, .slice (some ⟨g2, 0, none⟩) C.length c2, .slice (some ⟨g3, 0, none⟩) D.length c3, .slice (some ⟨g4, 0, none⟩) TM.length c4, .slice (some ⟨g5, 0, none⟩) CT.length c5, .slice (some ⟨gv, 0, none⟩) VR.length cv, .slice (some ⟨gs, 0, none⟩) SG.length cs, .int .i64 stt] 31)) = w2 at *
  generalize nxO o1 w1.heap.size 3 = o2 at *
  generalize w1.heap.size = bx at *
  have k7 := roomNodes_any L ea ec (w.heap.size + 1) o2 w.heap.size F1 V1 w2 (hE.below (hbA.trans (T2.bel hBA o5))) lL T2.rm (by have h : (F1 0).length ≤ 0 + 4398046511104 := l0; omega)
  go_at_call 7
  refine Calls.mono k7 ?_
  rintro e w3 ⟨o4, gn, cn, V3, rfl, hR3, hK3, capn, hFn⟩
  have T3 := T2.call (Ps' := [(gn, (cellsF Nd.cs L ++ [.int .i64 4444, .int .i32 0, .string ⟨#[]⟩, .int .i64 0, .int .i64 0, .int .i64 4444, .int .i32 0, .string ⟨#[]⟩, .int .i64 0, .int .i64 0]))]) hR3.out hK3.out (by intro p hp; rw [List.mem_singleton.1 hp]; exact hFn.out)
  have S3 := (S2.mv' hK3.out.mv).mv' (Mv.weak (S' := fun _ => True) fun _ _ _ => trivial)
  have KT3 := T3.ky.has KT (by rw [o3]; decide) (by rw [o3]; decide)
  have KX3 := T3.has (.head _)
  have hXw : Below w.heap.size w w3 := hbA.trans (T3.bel hBA o5)
  have tq := hideQ (tpl_below hP hXw)
  have fz := T3.fz
  have tp : Hid (TPl w3 G C D TM CT VR SG pn (some ⟨g1, 0, none⟩) (some ⟨g2, 0, none⟩) (some ⟨g3, 0, none⟩) (some ⟨g4, 0, none⟩) (some ⟨g5, 0, none⟩) (some ⟨gv, 0, none⟩) (some ⟨gs, 0, none⟩) c1 c2 c3 c4 c5 cv cs stt) := ⟨fl_fz gp_len (fz _ (.tail _ (.tail _ (.tail _ (.tail _ (.tail _ (.head _))))))) (by omega), fl_fz cf_len (fz _ (.tail _ (.tail _ (.tail _ (.tail _ (.tail _ (.tail _ (.head _)))))))) (by omega), fl_fz dtLenR (fz _ (.tail _ (.tail _ (.tail _ (.tail _ (.head _)))))) (by omega), fl_fz tmLenR (fz _ (.tail _ (.tail _ (.tail _ (.head _))))) (by omega), fl_fz tmLenR (fz _ (.tail _ (.tail _ (.head _)))) (by omega), fl_fz vr_lenR (fz _ (.tail _ (.head _))) (by omega), S3, hP.lG, hP.lF, hP.lD, hP.lT, hP.lC, hP.lV, hP.lS, hP.hm, hP.hp, hP.hr⟩
  have fn := hideQ (fl_fz nd_len1 (fz _ (.head _)) (by omega : L.length ≤ cn))
  have fe := hideQ (hE.below hXw)
  have t3 := tb.below hXw
  clear fz S2 S3 T2 hFn hK3 hR3 k7 KT hbA
  have k8 := hideQ (fun (X : World) (hX : Below w3.heap.size w3 X) => grid_any G C _ _ X (tp.out.hG.below hX) (tp.out.hF.below hX) hP.lG hP.lF)
  have k9 := hideQ (fun (X : World) (hX : Below w3.heap.size w3 X) => refGrid_any G C _ _ X (tq.out.hG.below hX) (tq.out.hF.below hX) hP.lG hP.lF)
  have k10 := hideQ (fun (X : World) (hX : Below w3.heap.size w3 X) => sound_any G C D TM CT VR SG pn (some ⟨g1, 0, none⟩) (some ⟨g2, 0, none⟩) (some ⟨g3, 0, none⟩) (some ⟨g4, 0, none⟩) (some ⟨g5, 0, none⟩) (some ⟨gv, 0, none⟩) (some ⟨gs, 0, none⟩) c1 c2 c3 c4 c5 cv cs stt X (tpl_below tp.out hX) (t3.wt.below hX t3.lo))
  have k11 := hideQ (fun (X : World) (hX : Below w3.heap.size w3 X) => refSound_of G C D TM CT VR SG pn ga ca da ta ka va sa gc cc dc tc kc vc sc stt X (tpl_below tq.out hX) (t3.below hX) (fun Y hY lG lS => rStages_any G C D TM CT VR SG pn ga ca da ta ka va sa gc cc dc tc kc vc sc stt Y (Tss.below (tpl_below tq.out hX).hS hY) lG lS hP.hr hgr))
  have k12 := hideQ (fun (X : World) (hX : Below w3.heap.size w3 X) => soundExpr_any G D TM CT VR SG pn (some ⟨g1, 0, none⟩) (some ⟨g2, 0, none⟩) (some ⟨g3, 0, none⟩) (some ⟨g4, 0, none⟩) (some ⟨g5, 0, none⟩) (some ⟨gv, 0, none⟩) (some ⟨gs, 0, none⟩) c1 C.length c2 c3 c4 c5 cv cs stt L (.slice (some ⟨gn, 0, none⟩) L.length cn) typ X (fn.out.below hX) (by omega) hv)
  have k13 := hideQ (fun (X : World) (hX : Below w3.heap.size w3 X) => rExpr_any ⟨G.length, D.length, TM.length, CT.length, VR.length⟩ pn ga ca da ta ka va sa gc C.length cc dc tc kc vc SG.length sc stt L (.slice ea L.length ec) typ X (nds_fl (fe.out.below hX)) (by omega) hv)
  have k14 := hideQ (fun (X : World) (hX : Below w3.heap.size w3 X) => sameTyped_any G C D TM CT VR SG pn _ _ _ _ _ _ _ _ _ _ _ _ _ _ _ _ _ _ _ _ _ _ _ _ _ _ _ _ stt X (tp.out.hG.below hX) (tp.out.hF.below hX) (tp.out.hD.below hX) (tp.out.hT.below hX) (tp.out.hC.below hX) (tp.out.hV.below hX) (Tss.below tp.out.hS hX) (tq.out.hG.below hX) (tq.out.hF.below hX) (tq.out.hD.below hX) (tq.out.hT.below hX) (tq.out.hC.below hX) (tq.out.hV.below hX) (Tss.below tq.out.hS hX) (by omega) (by omega) (by omega) (by omega) (by omega) (by omega) (by omega))
  have k15 := hideQ (fun (X : World) (hX : Below w3.heap.size w3 X) => sameNodes_any L _ _ X (fn.out.below hX) (fe.out.below hX) (by omega))
  have k16 := hideQ (fun (X : World) (hX : Below w3.heap.size w3 X) => whole_any o4 w.heap.size (w.heap.size + 1) _ _ X (T3.rm.below hX) (fun k hk => by rw [upd_other _ _ (by omega)]; exact hu k hk (by first | rfl | trivial)) (by rw [upd_other _ _ (by decide), upd_other _ _ (by decide), l6, l7]))
  clear tp tq fn fe T3 hu l0 l6 l7 hP tb hE
  generalize gridB G C = bG at *
  generalize sdB G C D TM CT VR SG pn stt = bS at *
  generalize sxB ⟨G.length, D.length, TM.length, CT.length, VR.length⟩ L typ = bE at *
  have hX0 : Below w3.heap.size w3 w3.drew := (Below.refl _ _).drew
  obtain ⟨_, v1, _⟩ := id KT3
  obtain ⟨_, y1, _⟩ := id KX3
  go_wp2_with fail
  refine wp_region_noPanic ?_
  refine wp_region_held_drew (S := fun w' => w'.cell? ⟨w.heap.size, 0, none⟩ = some (.string pn) ∧ w'.cell? ⟨w.heap.size, 1, none⟩ = some (.slice ga G.length gc) ∧ w'.cell? ⟨w.heap.size, 2, none⟩ = some (.slice ca C.length cc) ∧ w'.cell? ⟨w.heap.size, 3, none⟩ = some (.slice da D.length dc) ∧ w'.cell? ⟨w.heap.size, 4, none⟩ = some (.slice ta TM.length tc) ∧ w'.cell? ⟨w.heap.size, 5, none⟩ = some (.slice ka CT.length kc) ∧ w'.cell? ⟨w.heap.size, 6, none⟩ = some (.slice va VR.length vc) ∧ w'.cell? ⟨w.heap.size, 7, none⟩ = some (.slice sa SG.length sc) ∧ w'.cell? ⟨w.heap.size, 8, none⟩ = some (.int .i64 stt) ∧ w'.cell? ⟨bx, 0, none⟩ = some (.string pn) ∧ w'.cell? ⟨bx, 1, none⟩ = some (.slice (some ⟨g1, 0, none⟩) G.length c1) ∧ w'.cell? ⟨bx, 2, none⟩ = some (.slice (some ⟨g2, 0, none⟩) C.length c2) ∧ w'.cell? ⟨bx, 3, none⟩ = some (.slice (some ⟨g3, 0, none⟩) D.length c3) ∧ w'.cell? ⟨bx, 4, none⟩ = some (.slice (some ⟨g4, 0, none⟩) TM.length c4) ∧ w'.cell? ⟨bx, 5, none⟩ = some (.slice (some ⟨g5, 0, none⟩) CT.length c5) ∧ w'.cell? ⟨bx, 6, none⟩ = some (.slice (some ⟨gv, 0, none⟩) VR.length cv) ∧ w'.cell? ⟨bx, 7, none⟩ = some (.slice (some ⟨gs, 0, none⟩) SG.length cs) ∧ w'.cell? ⟨bx, 8, none⟩ = some (.int .i64 stt)) (by kernel_rfl) ?_ (fun hHeld => ?_)
  · (try dsimp only)
    exact ⟨(KT3.below hX0).2.1 0, (KT3.below hX0).2.1 1, (KT3.below hX0).2.1 2, (KT3.below hX0).2.1 3, (KT3.below hX0).2.1 4, (KT3.below hX0).2.1 5, (KT3.below hX0).2.1 6, (KT3.below hX0).2.1 7, (KT3.below hX0).2.1 8, (KX3.below hX0).2.1 0, (KX3.below hX0).2.1 1, (KX3.below hX0).2.1 2, (KX3.below hX0).2.1 3, (KX3.below hX0).2.1 4, (KX3.below hX0).2.1 5, (KX3.below hX0).2.1 6, (KX3.below hX0).2.1 7, (KX3.below hX0).2.1 8⟩
  refine tkY 0 ⟨some 18, .fieldAddr 31 (.tmp 8) 1, 0, "law.go:111", #[], none⟩ ?_ rfl ⟨by rfl, ?_⟩ ?_
  rotate_left
  · intro wz hSz; (try dsimp only at hSz); go_simp; all_goals (with_reducible rfl)
  (try simp only [Act.put, List.setIfInBounds_toArray, List.set_cons_zero, List.set_cons_succ])
  refine tkY 1 ⟨some 19, .load 25 (.tmp 18), 25, "law.go:111", #[⟨0, .data⟩], none⟩ ?_ rfl ⟨by rfl, ?_⟩ ?_
  rotate_left
  · intro wz hSz; (try dsimp only at hSz); go_simp; all_goals (with_reducible rfl)
  (try simp only [Act.put, List.setIfInBounds_toArray, List.set_cons_zero, List.set_cons_succ])
  refine tkY 3 ⟨some 21, .fieldAddr 31 (.tmp 3) 1, 0, "law.go:111", #[], none⟩ ?_ rfl ⟨by rfl, ?_⟩ ?_
  rotate_left
  · intro wz hSz; (try dsimp only at hSz); go_simp; all_goals (with_reducible rfl)
  (try simp only [Act.put, List.setIfInBounds_toArray, List.set_cons_zero, List.set_cons_succ])
  refine tkY 4 ⟨some 22, .load 25 (.tmp 21), 25, "law.go:111", #[⟨3, .data⟩], none⟩ ?_ rfl ⟨by rfl, ?_⟩ ?_
  rotate_left
  · intro wz hSz; (try dsimp only at hSz); go_simp; all_goals (with_reducible rfl)
  (try simp only [Act.put, List.setIfInBounds_toArray, List.set_cons_zero, List.set_cons_succ])
  refine wpAnyH_ready (rs := [2]) (by kernel_rfl) (by simp) ?_
  refine AllReadyH.cons (o := ⟨some 20, .call { callee := Callee.value (.func 8), args := #[.tmp 19], argTypes := #[25] }, 4, "law.go:111", #[⟨1, .data⟩], none⟩) rfl (fun K hK => ?_) AllReadyH.nil
  go_simp
  go_at_call 8
  (with_reducible refine Calls.mono (k8.out _ hX0) ?_)
  rintro e z1 ⟨rfl, hz1⟩
  have hX1 := bel_after hX0 hX0.size hz1
  clear k8
  go_wp2_with fail
  refine hK.out _ _ ?_ (fun hHeld => ?_)
  · (try dsimp only)
    exact ⟨(KT3.below hX1).2.1 0, (KT3.below hX1).2.1 1, (KT3.below hX1).2.1 2, (KT3.below hX1).2.1 3, (KT3.below hX1).2.1 4, (KT3.below hX1).2.1 5, (KT3.below hX1).2.1 6, (KT3.below hX1).2.1 7, (KT3.below hX1).2.1 8, (KX3.below hX1).2.1 0, (KX3.below hX1).2.1 1, (KX3.below hX1).2.1 2, (KX3.below hX1).2.1 3, (KX3.below hX1).2.1 4, (KX3.below hX1).2.1 5, (KX3.below hX1).2.1 6, (KX3.below hX1).2.1 7, (KX3.below hX1).2.1 8⟩
  clear hK K
  (try simp only [Act.put, List.setIfInBounds_toArray, List.set_cons_zero, List.set_cons_succ])
  refine wpAnyH_ready (rs := [5]) (by kernel_rfl) (by simp) ?_
  refine AllReadyH.cons (o := ⟨some 23, .call { callee := Callee.value (.func 9), args := #[.tmp 22], argTypes := #[25] }, 4, "law.go:111", #[⟨4, .data⟩, ⟨2, .chain⟩], none⟩) rfl (fun K hK => ?_) AllReadyH.nil
  go_simp
  go_at_call 9
  (with_reducible refine Calls.mono (k9.out _ hX1) ?_)
  rintro e z2 ⟨rfl, hz2⟩
  have hX2 := bel_after hX1 hX1.size hz2
  clear k9
  go_wp2_with fail
  refine hK.out _ _ ?_ (fun hHeld => ?_)
  · (try dsimp only)
    exact ⟨(KT3.below hX2).2.1 0, (KT3.below hX2).2.1 1, (KT3.below hX2).2.1 2, (KT3.below hX2).2.1 3, (KT3.below hX2).2.1 4, (KT3.below hX2).2.1 5, (KT3.below hX2).2.1 6, (KT3.below hX2).2.1 7, (KT3.below hX2).2.1 8, (KX3.below hX2).2.1 0, (KX3.below hX2).2.1 1, (KX3.below hX2).2.1 2, (KX3.below hX2).2.1 3, (KX3.below hX2).2.1 4, (KX3.below hX2).2.1 5, (KX3.below hX2).2.1 6, (KX3.below hX2).2.1 7, (KX3.below hX2).2.1 8⟩
  clear hK K
  (try simp only [Act.put, List.setIfInBounds_toArray, List.set_cons_zero, List.set_cons_succ])
  refine tkY 6 ⟨some 24, .binOp BinOp.neq 4 (.tmp 20) (.tmp 23) 4, 4, "law.go:111", #[⟨2, .data⟩, ⟨5, .data⟩], none⟩ ?_ rfl ⟨by rfl, ?_⟩ ?_
  rotate_left
  · intro wz hSz; (try dsimp only at hSz); go_simp; all_goals (with_reducible rfl)
  (try simp only [Act.put, List.setIfInBounds_toArray, List.set_cons_zero, List.set_cons_succ])
  refine tkY 7 ⟨some 25, .move (.tmp 24), 4, "law.go:111", #[⟨6, .data⟩, ⟨5, .chain⟩], none⟩ ?_ rfl ⟨by rfl, ?_⟩ ?_
  rotate_left
  · intro wz hSz; (try dsimp only at hSz); go_simp; all_goals (with_reducible rfl)
  (try simp only [Act.put, List.setIfInBounds_toArray, List.set_cons_zero, List.set_cons_succ])
  refine tkY 8 ⟨some 26, .load 31 (.tmp 8), 31, "law.go:111", #[⟨7, .guard⟩], some (7, false)⟩ ?_ rfl ⟨by rfl, ?_⟩ ?_
  rotate_left
  · intro wz hSz; (try dsimp only at hSz); go_simp; all_goals (with_reducible rfl)
  (try simp only [Act.put, List.setIfInBounds_toArray, List.set_cons_zero, List.set_cons_succ])
  refine tkY 10 ⟨some 28, .load 31 (.tmp 3), 31, "law.go:111", #[⟨7, .guard⟩], some (7, false)⟩ ?_ rfl ⟨by rfl, ?_⟩ ?_
  rotate_left
  · intro wz hSz; (try dsimp only at hSz); go_simp; all_goals (with_reducible rfl)
  (try simp only [Act.put, List.setIfInBounds_toArray, List.set_cons_zero, List.set_cons_succ])
  refine wpAnyH_ready (rs := [9]) (by kernel_rfl) (by simp) ?_
  refine AllReadyH.cons (o := ⟨some 27, .call { callee := Callee.value (.func 10), args := #[.tmp 26], argTypes := #[31] }, 4, "law.go:111", #[⟨8, .data⟩, ⟨7, .chain⟩, ⟨7, .guard⟩], some (7, false)⟩) rfl (fun K hK => ?_) AllReadyH.nil
  go_simp
  go_at_call 10
  (with_reducible refine Calls.mono (k10.out _ hX2) ?_)
  rintro e z3 ⟨rfl, hz3⟩
  have hX3 := bel_after hX2 hX2.size hz3
  clear k10
  go_wp2_with fail
  refine hK.out _ _ ?_ (fun hHeld => ?_)
  · (try dsimp only)
    exact ⟨(KT3.below hX3).2.1 0, (KT3.below hX3).2.1 1, (KT3.below hX3).2.1 2, (KT3.below hX3).2.1 3, (KT3.below hX3).2.1 4, (KT3.below hX3).2.1 5, (KT3.below hX3).2.1 6, (KT3.below hX3).2.1 7, (KT3.below hX3).2.1 8, (KX3.below hX3).2.1 0, (KX3.below hX3).2.1 1, (KX3.below hX3).2.1 2, (KX3.below hX3).2.1 3, (KX3.below hX3).2.1 4, (KX3.below hX3).2.1 5, (KX3.below hX3).2.1 6, (KX3.below hX3).2.1 7, (KX3.below hX3).2.1 8⟩
  clear hK K
  (try simp only [Act.put, List.setIfInBounds_toArray, List.set_cons_zero, List.set_cons_succ])
  refine wpAnyH_ready (rs := [11]) (by kernel_rfl) (by simp) ?_
  refine AllReadyH.cons (o := ⟨some 29, .call { callee := Callee.value (.func 11), args := #[.tmp 28], argTypes := #[31] }, 4, "law.go:111", #[⟨10, .data⟩, ⟨9, .chain⟩, ⟨7, .guard⟩], some (7, false)⟩) rfl (fun K hK => ?_) AllReadyH.nil
  go_simp
  go_at_call 11
  (with_reducible refine Calls.mono (k11.out _ hX3) ?_)
  rintro e z4 ⟨rfl, hz4⟩
  have hX4 := bel_after hX3 hX3.size hz4
  clear k11
  go_wp2_with fail
  refine hK.out _ _ ?_ (fun hHeld => ?_)
  · (try dsimp only)
    exact ⟨(KT3.below hX4).2.1 0, (KT3.below hX4).2.1 1, (KT3.below hX4).2.1 2, (KT3.below hX4).2.1 3, (KT3.below hX4).2.1 4, (KT3.below hX4).2.1 5, (KT3.below hX4).2.1 6, (KT3.below hX4).2.1 7, (KT3.below hX4).2.1 8, (KX3.below hX4).2.1 0, (KX3.below hX4).2.1 1, (KX3.below hX4).2.1 2, (KX3.below hX4).2.1 3, (KX3.below hX4).2.1 4, (KX3.below hX4).2.1 5, (KX3.below hX4).2.1 6, (KX3.below hX4).2.1 7, (KX3.below hX4).2.1 8⟩
  clear hK K
  (try simp only [Act.put, List.setIfInBounds_toArray, List.set_cons_zero, List.set_cons_succ])
  refine tkY 12 ⟨some 30, .binOp BinOp.neq 4 (.tmp 27) (.tmp 29) 4, 4, "law.go:111", #[⟨9, .data⟩, ⟨11, .data⟩, ⟨7, .guard⟩], some (7, false)⟩ ?_ rfl ⟨by rfl, ?_⟩ ?_
  rotate_left
  · intro wz hSz; (try dsimp only at hSz); go_simp; all_goals (with_reducible rfl)
  (try simp only [Act.put, List.setIfInBounds_toArray, List.set_cons_zero, List.set_cons_succ])
  refine tkY 13 ⟨some 31, .pick (.tmp 25) (.const (Value.bool true)) (.tmp 30), 4, "law.go:111", #[⟨7, .data⟩, ⟨12, .data⟩], none⟩ ?_ rfl ⟨by rfl, ?_⟩ ?_
  rotate_left
  · intro wz hSz; (try dsimp only at hSz); go_simp; all_goals (with_reducible rfl)
  (try simp only [Act.put, List.setIfInBounds_toArray, List.set_cons_zero, List.set_cons_succ])
  refine tkY 14 ⟨some 32, .move (.tmp 31), 4, "law.go:111", #[⟨13, .data⟩, ⟨11, .chain⟩], none⟩ ?_ rfl ⟨by rfl, ?_⟩ ?_
  rotate_left
  · intro wz hSz; (try dsimp only at hSz); go_simp; all_goals (with_reducible rfl)
  (try simp only [Act.put, List.setIfInBounds_toArray, List.set_cons_zero, List.set_cons_succ])
  refine tkY 15 ⟨some 33, .load 31 (.tmp 8), 31, "law.go:111", #[⟨14, .guard⟩], some (14, false)⟩ ?_ rfl ⟨by rfl, ?_⟩ ?_
  rotate_left
  · intro wz hSz; (try dsimp only at hSz); go_simp; all_goals (with_reducible rfl)
  (try simp only [Act.put, List.setIfInBounds_toArray, List.set_cons_zero, List.set_cons_succ])
  refine tkY 16 ⟨some 34, .move (.tmp 9), 32, "law.go:111", #[⟨14, .guard⟩], some (14, false)⟩ ?_ rfl ⟨by rfl, ?_⟩ ?_
  rotate_left
  · intro wz hSz; (try dsimp only at hSz); go_simp; all_goals (with_reducible rfl)
  (try simp only [Act.put, List.setIfInBounds_toArray, List.set_cons_zero, List.set_cons_succ])
  refine tkY 17 ⟨some 35, .move (.tmp 2), 3, "law.go:111", #[⟨14, .guard⟩], some (14, false)⟩ ?_ rfl ⟨by rfl, ?_⟩ ?_
  rotate_left
  · intro wz hSz; (try dsimp only at hSz); go_simp; all_goals (with_reducible rfl)
  (try simp only [Act.put, List.setIfInBounds_toArray, List.set_cons_zero, List.set_cons_succ])
  refine tkY 19 ⟨some 37, .load 31 (.tmp 3), 31, "law.go:111", #[⟨14, .guard⟩], some (14, false)⟩ ?_ rfl ⟨by rfl, ?_⟩ ?_
  rotate_left
  · intro wz hSz; (try dsimp only at hSz); go_simp; all_goals (with_reducible rfl)
  (try simp only [Act.put, List.setIfInBounds_toArray, List.set_cons_zero, List.set_cons_succ])
  refine tkY 20 ⟨some 38, .move (.tmp 1), 32, "law.go:111", #[⟨14, .guard⟩], some (14, false)⟩ ?_ rfl ⟨by rfl, ?_⟩ ?_
  rotate_left
  · intro wz hSz; (try dsimp only at hSz); go_simp; all_goals (with_reducible rfl)
  (try simp only [Act.put, List.setIfInBounds_toArray, List.set_cons_zero, List.set_cons_succ])
  refine tkY 21 ⟨some 39, .move (.tmp 2), 3, "law.go:111", #[⟨14, .guard⟩], some (14, false)⟩ ?_ rfl ⟨by rfl, ?_⟩ ?_
  rotate_left
  · intro wz hSz; (try dsimp only at hSz); go_simp; all_goals (with_reducible rfl)
  (try simp only [Act.put, List.setIfInBounds_toArray, List.set_cons_zero, List.set_cons_succ])
  refine wpAnyH_ready (rs := [18]) (by kernel_rfl) (by simp) ?_
  refine AllReadyH.cons (o := ⟨some 36, .call { callee := Callee.value (.func 12), args := #[.tmp 33, .tmp 34, .tmp 35], argTypes := #[31, 32, 3] }, 4, "law.go:111", #[⟨15, .data⟩, ⟨16, .data⟩, ⟨17, .data⟩, ⟨14, .chain⟩, ⟨14, .guard⟩], some (14, false)⟩) rfl (fun K hK => ?_) AllReadyH.nil
  go_simp
  go_at_call 12
  (with_reducible refine Calls.mono (k12.out _ hX4) ?_)
  rintro e z5 ⟨rfl, hz5⟩
  have hX5 := bel_after hX4 hX4.size hz5
  clear k12
  go_wp2_with fail
  refine hK.out _ _ ?_ (fun hHeld => ?_)
  · (try dsimp only)
    exact ⟨(KT3.below hX5).2.1 0, (KT3.below hX5).2.1 1, (KT3.below hX5).2.1 2, (KT3.below hX5).2.1 3, (KT3.below hX5).2.1 4, (KT3.below hX5).2.1 5, (KT3.below hX5).2.1 6, (KT3.below hX5).2.1 7, (KT3.below hX5).2.1 8, (KX3.below hX5).2.1 0, (KX3.below hX5).2.1 1, (KX3.below hX5).2.1 2, (KX3.below hX5).2.1 3, (KX3.below hX5).2.1 4, (KX3.below hX5).2.1 5, (KX3.below hX5).2.1 6, (KX3.below hX5).2.1 7, (KX3.below hX5).2.1 8⟩
  clear hK K
  (try simp only [Act.put, List.setIfInBounds_toArray, List.set_cons_zero, List.set_cons_succ])
  refine wpAnyH_ready (rs := [22]) (by kernel_rfl) (by simp) ?_
  refine AllReadyH.cons (o := ⟨some 40, .call { callee := Callee.value (.func 13), args := #[.tmp 37, .tmp 38, .tmp 39], argTypes := #[31, 32, 3] }, 4, "law.go:111", #[⟨19, .data⟩, ⟨20, .data⟩, ⟨21, .data⟩, ⟨18, .chain⟩, ⟨14, .guard⟩], some (14, false)⟩) rfl (fun K hK => ?_) AllReadyH.nil
  go_simp
  go_at_call 13
  (with_reducible refine Calls.mono (k13.out _ hX5) ?_)
  rintro e z6 ⟨rfl, hz6⟩
  have hX6 := bel_after hX5 hX5.size hz6
  clear k13
  go_wp2_with fail
  refine hK.out _ _ ?_ (fun hHeld => ?_)
  · (try dsimp only)
    exact ⟨(KT3.below hX6).2.1 0, (KT3.below hX6).2.1 1, (KT3.below hX6).2.1 2, (KT3.below hX6).2.1 3, (KT3.below hX6).2.1 4, (KT3.below hX6).2.1 5, (KT3.below hX6).2.1 6, (KT3.below hX6).2.1 7, (KT3.below hX6).2.1 8, (KX3.below hX6).2.1 0, (KX3.below hX6).2.1 1, (KX3.below hX6).2.1 2, (KX3.below hX6).2.1 3, (KX3.below hX6).2.1 4, (KX3.below hX6).2.1 5, (KX3.below hX6).2.1 6, (KX3.below hX6).2.1 7, (KX3.below hX6).2.1 8⟩
  clear hK K
  (try simp only [Act.put, List.setIfInBounds_toArray, List.set_cons_zero, List.set_cons_succ])
  refine tkY 23 ⟨some 41, .binOp BinOp.neq 4 (.tmp 36) (.tmp 40) 4, 4, "law.go:111", #[⟨18, .data⟩, ⟨22, .data⟩, ⟨14, .guard⟩], some (14, false)⟩ ?_ rfl ⟨by rfl, ?_⟩ ?_
  rotate_left
  · intro wz hSz; (try dsimp only at hSz); go_simp; all_goals (with_reducible rfl)
  (try simp only [Act.put, List.setIfInBounds_toArray, List.set_cons_zero, List.set_cons_succ])
  refine tkY 24 ⟨some 42, .pick (.tmp 32) (.const (Value.bool true)) (.tmp 41), 4, "law.go:111", #[⟨14, .data⟩, ⟨23, .data⟩], none⟩ ?_ rfl ⟨by rfl, ?_⟩ ?_
  rotate_left
  · intro wz hSz; (try dsimp only at hSz); go_simp; all_goals (with_reducible rfl)
  (try simp only [Act.put, List.setIfInBounds_toArray, List.set_cons_zero, List.set_cons_succ])
  refine wpAnyH_done (by kernel_rfl) ?_ _
  refine NoPanic.normal ?_
  clear v1 y1
  obtain ⟨_, v1, _⟩ := id (KT3.below hX6)
  obtain ⟨_, y1, _⟩ := id (KX3.below hX6)
  go_wp2_with fail
  go_at_call 14
  (with_reducible refine Calls.mono (k14.out _ hX6) ?_)
  rintro e z7 ⟨rfl, hz7⟩
  have hX7 := bel_after hX6 hX6.size hz7
  go_wp2_with fail
  go_at_call 15
  (with_reducible refine Calls.mono (k15.out _ hX7) ?_)
  rintro e z8 ⟨rfl, hz8⟩
  have hX8 := bel_after hX7 hX7.size hz8
  go_wp2_with fail
  go_at_call 16
  (with_reducible refine Calls.mono (k16.out _ hX8) ?_)
  rintro e z9 ⟨rfl, hz9⟩
  have hX9 := bel_after hX8 hX8.size hz9
  go_wp2_with fail
  go_ret
  exact ⟨rfl, bel_after hXw hXw.size hX9⟩
end Go.Proofs.YtnicolaphmffkaaGreatDoor
