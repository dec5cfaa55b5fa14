import Derived.Test.YtnicolaphmffkaaGreatDoorTkk
import Derived.Test.YtnicolaphmffkaaGreatDoorRmV
import Derived.Test.YtnicolaphmffkaaGreatDoorRmW
import Derived.Test.YtnicolaphmffkaaGreatDoorRmX
import Derived.Test.YtnicolaphmffkaaGreatDoorRmS
set_option linter.unusedVariables false
set_option linter.unusedSimpArgs false
namespace Go.Proofs.YtnicolaphmffkaaGreatDoor
open Go.RowKit
theorem infoY84 : (Tryz.prog.info? 84).map (fun i => (i.zero, i.size, i.bytes)) = some (some (.agg #[.int .i64 0, .slice none 0 0]), 2, 32) := by kernel_rfl
theorem infoY81 : (Tryz.prog.info? 81).map (fun i => (i.zero, i.size, i.bytes)) = some (some (.agg #[.string ⟨#[]⟩, .int .i64 0, .int .u64 0, .slice none 0 0, .slice none 0 0, .slice none 0 0, .slice none 0 0]), 7, 128) := by kernel_rfl
theorem infoY28 : (Tryz.prog.info? 28).map (fun i => (i.zero, i.size, i.bytes)) = some (some (.slice none 0 0), 1, 24) := by kernel_rfl
theorem infoY79 : (Tryz.prog.info? 79).map (fun i => (i.zero, i.size, i.bytes)) = some (some (.slice none 0 0), 1, 24) := by kernel_rfl
theorem infoY29 : (Tryz.prog.info? 29).map (fun i => (i.zero, i.size, i.bytes)) = some (some (.slice none 0 0), 1, 24) := by kernel_rfl
/-- What Room.Typed answers. -/
def RmY (o : Nat → Nat) (B : Nat) (W : World) (rb : Nat) (F : Nat → List Lr) (G : List Gp) (C : List Cf) (D : List Dt) (TM CT : List ByteArray) (VR : List Vr) (SG : List Ts) (pn : ByteArray) (stt : Int) (e : Ending) (W' : World) : Prop :=
  ∃ (o' : Nat → Nat) (V' : Nat → Value) (F' : Nat → List Lr) (g1 c1 g2 c2 g3 c3 g4 c4 g5 c5 gv cv gs cs : Nat), e = .returned (.agg #[.string pn, .slice (some ⟨g1, 0, none⟩) G.length c1, .slice (some ⟨g2, 0, none⟩) C.length c2, .slice (some ⟨g3, 0, none⟩) D.length c3, .slice (some ⟨g4, 0, none⟩) TM.length c4, .slice (some ⟨g5, 0, none⟩) CT.length c5, .slice (some ⟨gv, 0, none⟩) VR.length cv, .slice (some ⟨gs, 0, none⟩) SG.length cs, .int .i64 stt]) ∧ Hid (Rm o' B W' rb F' V') ∧ Hid (KyR o W o' W') ∧ G.length + 2 ≤ c1 ∧ C.length + 2 ≤ c2 ∧ D.length + 2 ≤ c3 ∧ TM.length + 2 ≤ c4 ∧ CT.length + 2 ≤ c5 ∧ VR.length + 2 ≤ cv ∧ Hid (∀ p ∈ [(gv, (cellsF Vr.cs VR ++ [.string ⟨#[]⟩, .int .i32 4444, .string ⟨#[]⟩, .int .i32 4444])), (g5, (cellsF txC CT ++ [.string ⟨#[114, 111, 111, 109]⟩, .string ⟨#[114, 111, 111, 109]⟩])), (g4, (cellsF txC TM ++ [.string ⟨#[114, 111, 111, 109]⟩, .string ⟨#[114, 111, 111, 109]⟩])), (g3, (cellsF Dt.cs D ++ [.string ⟨#[]⟩, .bool false, .int .i64 4444, .int .i64 0, .string ⟨#[]⟩, .bool false, .int .i64 4444, .int .i64 0])), (g1, (cellsF Gp.cs G ++ [.string ⟨#[]⟩, .int .i64 0, .int .i64 4444, .int .i64 0, .int .i64 0, .string ⟨#[]⟩, .int .i64 0, .int .i64 4444, .int .i64 0, .int .i64 0])), (g2, (cellsF Cf.cs C ++ [.int .i64 4444, .int .i64 0, .int .i64 0, .int .i64 0, .int .i64 4444, .int .i64 0, .int .i64 0, .int .i64 0]))], Fz o' W' p.1 p.2) ∧ Hid (Tss (Zo o') W' (.slice (some ⟨gs, 0, none⟩) SG.length cs) SG) ∧ (F' 0).length ≤ (F 0).length + 4398046511104 ∧ (F' 6).length = (F 6).length + 1 ∧ (F' 7).length = (F 7).length + 1 ∧ ∀ k, (k = 3 ∨ k = 5 ∨ k = 10 ∨ 12 ≤ k) → F k = [] → F' k = []
set_option maxRecDepth 100000 in
set_option maxHeartbeats 16000000 in
/-- Room.Typed. -/
theorem roomTyped_any (G : List Gp) (C : List Cf) (D : List Dt) (TM CT : List ByteArray) (VR : List Vr) (SG : List Ts) (pn : ByteArray) (ga ca da ta ka va sa : Option Addr) (gc cc dc tc kc vc sc rb : Nat) (stt : Int) (o : Nat → Nat) (B : Nat) (F : Nat → List Lr) (V : Nat → Value) (W : World)
    (hG : ∀ Y, Below B W Y → Fl 5 Gp.cs Y (.slice ga G.length gc) G) (hC : ∀ Y, Below B W Y → Fl 4 Cf.cs Y (.slice ca C.length cc) C) (hD : ∀ Y, Below B W Y → Fl 4 Dt.cs Y (.slice da D.length dc) D) (hT : ∀ Y, Below B W Y → Fl 1 txC Y (.slice ta TM.length tc) TM) (hCT : ∀ Y, Below B W Y → Fl 1 txC Y (.slice ka CT.length kc) CT) (hV : ∀ Y, Below B W Y → Fl 2 Vr.cs Y (.slice va VR.length vc) VR) (hS : Tss (fun b => b < B) W (.slice sa SG.length sc) SG)
    (lG : G.length ≤ 1048576) (lC : C.length ≤ 1048576) (lD : D.length ≤ 1048576) (lT : TM.length ≤ 1048576) (lCT : CT.length ≤ 1048576) (lV : VR.length ≤ 1048576) (lS : SG.length ≤ 1048576) (lx : ∀ x ∈ SG, SzT x) (ho5 : ∀ b, b < B → o b = 5) (hb : ∀ k, (F k).length ≤ 1000000) (hR : Rm o B W rb F V) :
    Calls Tryz.prog 6 #[.pointer (some ⟨rb, 0, none⟩), .agg #[.string pn, .slice ga G.length gc, .slice ca C.length cc, .slice da D.length dc, .slice ta TM.length tc, .slice ka CT.length kc, .slice va VR.length vc, .slice sa SG.length sc, .int .i64 stt]] W fun e W' => RmY o B W rb F G C D TM CT VR SG pn stt e W' := by
  obtain ⟨t84, h84, h840, h841, h842⟩ := info_parts infoY84
  obtain ⟨t81, h81, h810, h811, h812⟩ := info_parts infoY81
  obtain ⟨t28, h28, h280, h281, h282⟩ := info_parts infoY28
  obtain ⟨t79, h79, h790, h791, h792⟩ := info_parts infoY79
  obtain ⟨t29, h29, h290, h291, h292⟩ := info_parts infoY29
  have hBW : B ≤ W.heap.size := Nat.le_trans hR.bb (Nat.le_of_lt hR.lt)
  have T0 : TyS o W B rb (nxO (nxO o W.heap.size 3) (W.heap.size + 1) 3) ((W.alloc (.cells #[.string pn, .slice ga G.length gc, .slice ca C.length cc, .slice da D.length dc, .slice ta TM.length tc, .slice ka CT.length kc, .slice va VR.length vc, .slice sa SG.length sc, .int .i64 stt] 31)).alloc (.cells #[.string ⟨#[]⟩, .slice none 0 0, .slice none 0 0, .slice none 0 0, .slice none 0 0, .slice none 0 0, .slice none 0 0, .slice none 0 0, .int .i64 0] 31)) F V [(W.heap.size + 1, #[.string ⟨#[]⟩, .slice none 0 0, .slice none 0 0, .slice none 0 0, .slice none 0 0, .slice none 0 0, .slice none 0 0, .slice none 0 0, .int .i64 0]), (W.heap.size, #[.string pn, .slice ga G.length gc, .slice ca C.length cc, .slice da D.length dc, .slice ta TM.length tc, .slice ka CT.length kc, .slice va VR.length vc, .slice sa SG.length sc, .int .i64 stt])] [] := by
    have h := ((TyS.start hR).alloc #[.string pn, .slice ga G.length gc, .slice ca C.length cc, .slice da D.length dc, .slice ta TM.length tc, .slice ka CT.length kc, .slice va VR.length vc, .slice sa SG.length sc, .int .i64 stt] 31).alloc #[.string ⟨#[]⟩, .slice none 0 0, .slice none 0 0, .slice none 0 0, .slice none 0 0, .slice none 0 0, .slice none 0 0, .slice none 0 0, .int .i64 0] 31
    rw [show (W.alloc (.cells #[.string pn, .slice ga G.length gc, .slice ca C.length cc, .slice da D.length dc, .slice ta TM.length tc, .slice ka CT.length kc, .slice va VR.length vc, .slice sa SG.length sc, .int .i64 stt] 31)).heap.size = W.heap.size + 1 by simp] at h
    exact h
  have lxH := hideQ lx
  have hSH := hideQ hS
  clear lx hS
  go_enter Tryz.func6, Tryz.ntmps6
  go_wp2_with fail
  generalize ((W.alloc (.cells #[.string pn, .slice ga G.length gc, .slice ca C.length cc, .slice da D.length dc, .slice ta TM.length tc, .slice ka CT.length kc, .slice va VR.length vc, .slice sa SG.length sc, .int .i64 stt] 31)).alloc (.cells #[.string ⟨#[]⟩, .slice none 0 0, .slice none 0 0, .slice none 0 0, .slice none 0 0, .slice none 0 0, .slice none 0 0, .slice none 0 0, .int .i64 0] 31)) = W1 at *
  refine Code.wp_mono ?_ (typedR1 G C D TM CT pn ga ca da ta ka va sa gc cc dc tc kc vc VR.length SG.length sc rb W.heap.size (W.heap.size + 1) stt o _ B F V W W1 hG hC hD hT hCT lG lC lD lT lCT hBW ho5 (by have := hb 6; omega) (by have := hb 7; omega) (by have := hb 8; omega) (by have := hb 11; omega) T0)
  rintro c a' w1 ⟨rfl, o1, V1, F1, b5, g1, c1, g2, c2, g3, c3, g4, c4, g5, c5, cap1, cap2, cap3, cap4, cap5, gr1, nb1, nb0, T1, rfl⟩
  clear T0 hG hC hD hT hCT
  have T2 := T1.alloc #[.string ⟨#[]⟩, .int .i32 4444] 76
  clear T1
  go_wp2_with fail
  generalize (w1.alloc (.cells #[.string ⟨#[]⟩, .int .i32 4444] 76)) = w2 at *
  generalize w1.heap.size = b6 at *
  generalize nxO o1 b6 3 = o2 at *
  have hBw2 := T2.bel hBW ho5
  refine Code.wp_mono ?_ (typedR3 G C D TM CT pn ga ca da ta ka va sa gc cc dc tc kc vc SG.length sc rb W.heap.size (W.heap.size + 1) stt VR g1 c1 g2 c2 g3 c3 g4 c4 g5 c5 b5 b6 w2 (fun Y hY => fl_src vr_lenR (by decide) (hV Y (bel_after hBw2 (Nat.le_trans hBW T2.ky.size) hY))) lV (T2.has (.tail _ (.tail _ (.tail _ (.head _))))) (T2.has (.head _)))
  rintro c a' w3 ⟨rfl, gv, cv, t39, t42, b3, ow3, capv, rfl⟩
  clear hV
  have hm3 : MkP (rS 9) (rO 9) (rV 9) (nwO w2.heap.size) w3 ⟨gv, VR.length + 2, cv⟩ := rm_mark (n := VR.length) ow3 (cellsF_len vr_lenR VR) lV (Nat.le_refl _) (by rfl) (by rfl)
  have hF3 := hideQ (fz_own0 ow3 (Nat.le_refl _))
  have hb9 : (F1 9).length ≤ 1000000 := by have h := gr1.len 9; have e : (upd (upd (upd (upd (upd (fun _ => 0) 6 1) 7 1) 8 1) 11 1) 11 2) 9 = 0 := rfl; have := hb 9; omega
  have hR2 := T2.rm
  have hR6 := hR2.below b3
  have hF6 := (hR6.fl 9 (by decide)).own.own
  have c6 := hR6.cl 9 (by decide)
  have f6 := hR6.fz 9
  have l6 := hR6.lt
  obtain ⟨fa7, fc7, hV⟩ := own_form hF6
  have hVh := hideQ hV
  rw [hV] at c6 hF6
  have hb7 := bel1 (w := w3) (.cells #[.slice (some ⟨gv, 0, none⟩) (VR.length + 2) cv] 28)
  have hF7 := own_bel hF6 hb7
  have s7 : B ≤ (w3.alloc (.cells #[.slice (some ⟨gv, 0, none⟩) (VR.length + 2) cv] 28)).heap.size := by have := hR6.bb; simp; omega
  clear hR6 hV hF6
  go_upto_region 5 with (at_builtin; (refine wpList_append_mine _ rfl _ _ 43 rfl B 28 t28 _ 1 24 Tryz.underlying43 h28 h280 h281 h282 rfl (by decide) (.slice fa7 (F1 9).length fc7) (F1 9).length (cellsF Lr.cs (F1 9)) rfl hF7 ⟨w3.heap.size, 0, none⟩ 1 1 [.slice (some ⟨gv, 0, none⟩) (VR.length + 2) cv] rfl rfl (cells_at (W := w3) rfl _ _) (all_one rfl) (by decide) (by unfold maxLen; omega) (by omega) s7 ?_); intro g7 k7 w7 o7 gr7 at7 _ hc7; have q7 := rm_gw hR2 (k := 9) (by decide) (bel_after b3 b3.size hb7) (by rw [hVh.out]; exact gr7) (by rw [hVh.out]; exact at7); have c7 := (cell_heap (j := 9) (q7.ky.block rb hR2.lt (by rw [hR2.ob]; decide))).trans (hR2.cl 9 (by decide)); rw [hVh.out] at c7; have f7 := rm_fz hR2 q7 9; have l7 : rb < w7.heap.size := Nat.lt_of_lt_of_le hR2.lt q7.ky.size)
  have hP := hR2.push (r := ⟨gv, VR.length + 2, cv⟩) (by decide) q7 o7 ((hm3.mv (Mv.below hb7)).mv q7.mvI)
  have T3 := T2.call (Ps' := [(gv, (cellsF Vr.cs VR ++ [.string ⟨#[]⟩, .int .i32 4444, .string ⟨#[]⟩, .int .i32 4444]))]) hP.1 hP.2 (by intro p hp; rw [List.mem_singleton.1 hp]; exact ((hF3.out.mv (Mv.below hb7)).mv q7.mvI).mv (hR2.ksm 19 g7 9 (.slice (some ⟨g7, 0, none⟩) ((F1 9).length + 1) k7) w7))
  have gr2 := gr1.upd 9 [(⟨gv, VR.length + 2, cv⟩ : Lr)]
  clear hP q7 o7 gr7 at7 hc7 c7 f7 l7 c6 f6 l6 hF7 hb7 s7 hVh hR2 hm3 hF3 ow3 b3 T2 hBw2 gr1 hb9
  generalize mkO o2 w2.heap.size (10 + 9) g7 = o3 at *
  generalize w7.setCell ⟨rb, 9, none⟩ (.slice (some ⟨g7, 0, none⟩) ((F1 9).length + 1) k7) = w8 at *
  generalize upd V1 9 (.slice (some ⟨g7, 0, none⟩) ((F1 9).length + 1) k7) = V3 at *
  have hF9 : Hid (∀ k, (upd F1 9 (F1 9 ++ [(⟨gv, VR.length + 2, cv⟩ : Lr)]) k).length = (F k).length + (upd (upd (upd (upd (upd (upd (fun _ => 0) 6 1) 7 1) 8 1) 11 1) 11 2) 9 1) k) := fun k => gr2.len k
  generalize upd F1 9 (F1 9 ++ [(⟨gv, VR.length + 2, cv⟩ : Lr)]) = F2 at *
  clear gr2
  have T4 : TyS o W B rb o3 w8 F2 V3 ((b5, #[.string pn, .slice (some ⟨g1, 0, none⟩) G.length c1, .slice (some ⟨g2, 0, none⟩) C.length c2, .slice (some ⟨g3, 0, none⟩) D.length c3, .slice (some ⟨g4, 0, none⟩) TM.length c4, .slice (some ⟨g5, 0, none⟩) CT.length c5, .slice none 0 0, .slice none 0 0, .int .i64 stt]) :: [(W.heap.size + 1, #[.string ⟨#[]⟩, .slice none 0 0, .slice none 0 0, .slice none 0 0, .slice none 0 0, .slice none 0 0, .slice none 0 0, .slice none 0 0, .int .i64 0]), (W.heap.size, #[.string pn, .slice ga G.length gc, .slice ca C.length cc, .slice da D.length dc, .slice ta TM.length tc, .slice ka CT.length kc, .slice va VR.length vc, .slice sa SG.length sc, .int .i64 stt])]) [(gv, (cellsF Vr.cs VR ++ [.string ⟨#[]⟩, .int .i32 4444, .string ⟨#[]⟩, .int .i32 4444])), (g5, (cellsF txC CT ++ [.string ⟨#[114, 111, 111, 109]⟩, .string ⟨#[114, 111, 111, 109]⟩])), (g4, (cellsF txC TM ++ [.string ⟨#[114, 111, 111, 109]⟩, .string ⟨#[114, 111, 111, 109]⟩])), (g3, (cellsF Dt.cs D ++ [.string ⟨#[]⟩, .bool false, .int .i64 4444, .int .i64 0, .string ⟨#[]⟩, .bool false, .int .i64 4444, .int .i64 0])), (g1, (cellsF Gp.cs G ++ [.string ⟨#[]⟩, .int .i64 0, .int .i64 4444, .int .i64 0, .int .i64 0, .string ⟨#[]⟩, .int .i64 0, .int .i64 4444, .int .i64 0, .int .i64 0])), (g2, (cellsF Cf.cs C ++ [.int .i64 4444, .int .i64 0, .int .i64 0, .int .i64 0, .int .i64 4444, .int .i64 0, .int .i64 0, .int .i64 0]))] := T3.sub (fun q hq => List.mem_cons_of_mem _ hq) (fun p hp => hp)
  clear T3
  have hne : ∀ q ∈ ([(W.heap.size + 1, #[.string ⟨#[]⟩, .slice none 0 0, .slice none 0 0, .slice none 0 0, .slice none 0 0, .slice none 0 0, .slice none 0 0, .slice none 0 0, .int .i64 0]), (W.heap.size, #[.string pn, .slice ga G.length gc, .slice ca C.length cc, .slice da D.length dc, .slice ta TM.length tc, .slice ka CT.length kc, .slice va VR.length vc, .slice sa SG.length sc, .int .i64 stt])] : List (Nat × Array Value)), q.1 ≠ b5 := by intro q hq; rcases List.mem_cons.1 hq with rfl | hq; exact nb1; rw [List.mem_singleton.1 hq]; exact nb0
  have T5 := T4.set hne 6 (by simp) (.slice (some ⟨gv, 0, none⟩) VR.length cv)
  simp only [List.setIfInBounds_toArray, List.set_cons_succ, List.set_cons_zero] at T5
  obtain ⟨_, n1, n2⟩ := id (T4.has (.tail _ (.tail _ (.head _))))
  obtain ⟨_, d1, d2⟩ := id (T4.has (.head _))
  clear T4
  have i1 : (VR.length : Int) ≤ (cv : Int) := by omega
  have i2 : (0 : Int) ≤ (VR.length : Int) := by omega
  have i3 : VR.length ≤ cv := by omega
  go_wp2_with fail
  generalize (w8.setCell ⟨b5, 6, none⟩ (.slice (some ⟨gv, 0, none⟩) VR.length cv)) = w9 at *
  clear n1 n2 d1 d2
  go_loopg [8, 9, 10, 11, 12, 13] SG.length (fun gk s8 s9 s10 s11 s12 s13 wr => ∃ (k : Nat) (o' : Nat → Nat) (F' : Nat → List Lr) (V' : Nat → Value) (fa : Option Addr) (fc : Nat) (Y : List Sv), k + gk = SG.length ∧ s8 = .slice fa k fc ∧ s9 = .int .i64 (k : Int) ∧ Hid (Y.map (·.x) = SG.take k) ∧ Hid (Y.length = k) ∧ Hid (FB F2 F' (4194304 * k) (3 * k) k) ∧ Hid (TyL o W B rb o' wr F' V' ((b5, #[.string pn, .slice (some ⟨g1, 0, none⟩) G.length c1, .slice (some ⟨g2, 0, none⟩) C.length c2, .slice (some ⟨g3, 0, none⟩) D.length c3, .slice (some ⟨g4, 0, none⟩) TM.length c4, .slice (some ⟨g5, 0, none⟩) CT.length c5, .slice (some ⟨gv, 0, none⟩) VR.length cv, .slice none 0 0, .int .i64 stt]) :: [(W.heap.size + 1, #[.string ⟨#[]⟩, .slice none 0 0, .slice none 0 0, .slice none 0 0, .slice none 0 0, .slice none 0 0, .slice none 0 0, .slice none 0 0, .int .i64 0]), (W.heap.size, #[.string pn, .slice ga G.length gc, .slice ca C.length cc, .slice da D.length dc, .slice ta TM.length tc, .slice ka CT.length kc, .slice va VR.length vc, .slice sa SG.length sc, .int .i64 stt])]) [(gv, (cellsF Vr.cs VR ++ [.string ⟨#[]⟩, .int .i32 4444, .string ⟨#[]⟩, .int .i32 4444])), (g5, (cellsF txC CT ++ [.string ⟨#[114, 111, 111, 109]⟩, .string ⟨#[114, 111, 111, 109]⟩])), (g4, (cellsF txC TM ++ [.string ⟨#[114, 111, 111, 109]⟩, .string ⟨#[114, 111, 111, 109]⟩])), (g3, (cellsF Dt.cs D ++ [.string ⟨#[]⟩, .bool false, .int .i64 4444, .int .i64 0, .string ⟨#[]⟩, .bool false, .int .i64 4444, .int .i64 0])), (g1, (cellsF Gp.cs G ++ [.string ⟨#[]⟩, .int .i64 0, .int .i64 4444, .int .i64 0, .int .i64 0, .string ⟨#[]⟩, .int .i64 0, .int .i64 4444, .int .i64 0, .int .i64 0])), (g2, (cellsF Cf.cs C ++ [.int .i64 4444, .int .i64 0, .int .i64 0, .int .i64 0, .int .i64 4444, .int .i64 0, .int .i64 0, .int .i64 0]))] (.slice fa k fc) Y (.slice none 0 0) [] [] []))
  case atStart => exact ⟨0, o3, F2, V3, none, 0, [], by omega, rfl, rfl, rfl, rfl, FB.refl _, T5.loop⟩
  case round =>
    clear T5
    obtain ⟨k, o', F', V', fa, fc, Y, hk, rfl, rfl, hY, hYl, hFB, hL⟩ := hrel
    have hBw : Hid (Below B W wr) := hL.out.ty.bel hBW ho5
    have q1 := hF9.out 0
    have q2 := hF9.out 1
    have q3 := hF9.out 2
    have q4 := hb 0
    have q5 := hb 1
    have q6 := hb 2
    have q7 : (upd (upd (upd (upd (upd (upd (fun _ => 0) 6 1) 7 1) 8 1) 11 1) 11 2) 9 1) 0 = 0 := rfl
    have q8 : (upd (upd (upd (upd (upd (upd (fun _ => 0) 6 1) 7 1) 8 1) 11 1) 11 2) 9 1) 1 = 0 := rfl
    have q9 : (upd (upd (upd (upd (upd (upd (fun _ => 0) 6 1) 7 1) 8 1) 11 1) 11 2) 9 1) 2 = 0 := rfl
    have hF0 : Hid ((F2 0).length ≤ 1000000 ∧ (F2 1).length ≤ 1000000 ∧ (F2 2).length ≤ 1000000) := ⟨by omega, by omega, by omega⟩
    clear q1 q2 q3 q4 q5 q6 q7 q8 q9
    obtain ⟨_, n1, n2⟩ := id (hL.out.ty.has (.tail _ (.tail _ (.head _))))
    by_cases hlt : k < SG.length
    · have u1 : (k : Int) < (SG.length : Int) := by omega
      have u0 : (0 : Int) ≤ (k : Int) := by omega
      obtain ⟨sa', sc', e1, _, kS⟩ := Rows.any hSH.out
      injection e1 with e1 _ e2
      subst e1
      subst e2
      obtain ⟨sg, so, rfl, hgB, hg0, P⟩ := kS.resolve_left (by intro e; rw [e] at hlt; simp at hlt)
      obtain ⟨cs, _, ⟨ve, vd, vl, vn, rfl, qe, qd, ql, qn⟩, P2⟩ := P k hlt
      have p0 := (hBw.out.cell (p := ⟨sg, _, none⟩) hgB).trans (P2 0 _ rfl)
      have p1 := (hBw.out.cell (p := ⟨sg, _, none⟩) hgB).trans (P2 1 _ rfl)
      have p2 := (hBw.out.cell (p := ⟨sg, _, none⟩) hgB).trans (P2 2 _ rfl)
      have p3 := (hBw.out.cell (p := ⟨sg, _, none⟩) hgB).trans (P2 3 _ rfl)
      have p4 := (hBw.out.cell (p := ⟨sg, _, none⟩) hgB).trans (P2 4 _ rfl)
      have p5 := (hBw.out.cell (p := ⟨sg, _, none⟩) hgB).trans (P2 5 _ rfl)
      have p6 := (hBw.out.cell (p := ⟨sg, _, none⟩) hgB).trans (P2 6 _ rfl)
      simp only [Nat.add_zero] at p0
      have hz := hideQ (lxH.out SG[k] (List.getElem_mem hlt))
      have htk : Hid (SG.take (k + 1) = SG.take k ++ [SG[k]]) := List.take_succ_eq_append_getElem hlt
      clear P P2 kS hg0
      generalize SG[k] = x at *
      obtain ⟨ea, ec, rfl, -⟩ := Rows.any qe
      obtain ⟨la', lc', rfl, -⟩ := Rows.any qd
      obtain ⟨va', vc', rfl, -⟩ := Rows.any ql
      obtain ⟨xa, xc, rfl, -⟩ := Rows.any qn
      replace qe := hideQ qe
      replace qd := hideQ qd
      replace ql := hideQ ql
      replace qn := hideQ qn
      have La := hideQ (hL.out.alloc #[.string x.name, .int .i64 x.id, .int .u64 x.green, .slice ea x.enter.length ec, .slice la' x.during.length lc', .slice va' x.leave.length vc', .slice xa x.nexts.length xc] 81)
      have hneA : Hid (∀ q ∈ (((b5, #[.string pn, .slice (some ⟨g1, 0, none⟩) G.length c1, .slice (some ⟨g2, 0, none⟩) C.length c2, .slice (some ⟨g3, 0, none⟩) D.length c3, .slice (some ⟨g4, 0, none⟩) TM.length c4, .slice (some ⟨g5, 0, none⟩) CT.length c5, .slice (some ⟨gv, 0, none⟩) VR.length cv, .slice none 0 0, .int .i64 stt]) :: [(W.heap.size + 1, #[.string ⟨#[]⟩, .slice none 0 0, .slice none 0 0, .slice none 0 0, .slice none 0 0, .slice none 0 0, .slice none 0 0, .slice none 0 0, .int .i64 0]), (W.heap.size, #[.string pn, .slice ga G.length gc, .slice ca C.length cc, .slice da D.length dc, .slice ta TM.length tc, .slice ka CT.length kc, .slice va VR.length vc, .slice (some ⟨sg, so, none⟩) SG.length sc, .int .i64 stt])]) : List (Nat × Array Value)), q.1 ≠ wr.heap.size) := fun q hq => Nat.ne_of_lt (hL.out.ty.bx q hq).2.2.1
      clear hL
      go_upto_region 11 with fail
      generalize (wr.alloc (.cells #[.string x.name, .int .i64 x.id, .int .u64 x.green, .slice ea x.enter.length ec, .slice la' x.during.length lc', .slice va' x.leave.length vc', .slice xa x.nexts.length xc] 81)) = w3 at *
      generalize nxO o' wr.heap.size 3 = o4 at *
      clear p0 p1 p2 p3 p4 p5 p6 n1 n2 hBw u1 u0
      generalize wr.heap.size = b10 at *
      have hBc : Hid (Below B W w3) := La.out.ty.bel hBW ho5
      have kS := hideQ (roomStmts_any x.enter ea ec rb o4 B F' V' w3 (fun X hX => stsB qe.out (hBc.out.trans hX)) (La.out.ty.five hBW ho5) hz.out.e hz.out.xe La.out.ty.rm (by have h := hFB.out.l0; have h2 := hF0.out; have h3 := hz.out.e; have h4 := hz.out.d; have h5 := hz.out.l; omega) (by have h := hFB.out.l1; have h2 := hF0.out; omega))
      obtain ⟨_, s1, s2⟩ := id (La.out.ty.has (.head _))
      go_wp2_with fail
      go_at_call 27
      refine Calls.mono kS.out ?_
      rintro e x0 ⟨oo0, ge, ce, RR0, VV0, rfl, hRl0, hR0, hK0, hc0, hS0⟩
      have Lc := (La.out.call hR0.out hK0.out).addE hS0.out
      have fb0 := hideQ (hFB.out.stmts (r := ⟨ge, x.enter.length + 2, ce⟩) hRl0)
      clear s1 s2 kS hBc La hFB hR0 hK0 hS0 hRl0
      generalize (upd (upd F' 0 (F' 0 ++ RR0)) 1 (F' 1 ++ [(⟨ge, x.enter.length + 2, ce⟩ : Lr)])) = FF0 at *
      have L0 := Lc.set hneA.out 3 (by simp) (.slice (some ⟨ge, 0, none⟩) x.enter.length ce)
      simp only [List.setIfInBounds_toArray, List.set_cons_succ, List.set_cons_zero] at L0
      replace L0 := hideQ L0
      obtain ⟨_, s1, s2⟩ := id (Lc.ty.has (.head _))
      clear Lc
      go_upto_region 12 with fail
      generalize (x0.setCell ⟨b10, 3, none⟩ (.slice (some ⟨ge, 0, none⟩) x.enter.length ce)) = y0 at *
      clear s1 s2
      have hBc : Hid (Below B W y0) := L0.out.ty.bel hBW ho5
      have kS := hideQ (roomStmts_any x.during la' lc' rb oo0 B FF0 VV0 y0 (fun X hX => stsB qd.out (hBc.out.trans hX)) (L0.out.ty.five hBW ho5) hz.out.d hz.out.xd L0.out.ty.rm (by have h := fb0.out.l0; have h2 := hF0.out; have h3 := hz.out.e; have h4 := hz.out.d; have h5 := hz.out.l; omega) (by have h := fb0.out.l1; have h2 := hF0.out; omega))
      obtain ⟨_, s1, s2⟩ := id (L0.out.ty.has (.head _))
      go_wp2_with fail
      go_at_call 27
      refine Calls.mono kS.out ?_
      rintro e x1 ⟨oo1, gd, cd, RR1, VV1, rfl, hRl1, hR1, hK1, hc1, hS1⟩
      have Lc := (L0.out.call hR1.out hK1.out).addE hS1.out
      have fb1 := hideQ (fb0.out.stmts (r := ⟨gd, x.during.length + 2, cd⟩) hRl1)
      clear s1 s2 kS hBc L0 fb0 hR1 hK1 hS1 hRl1
      generalize (upd (upd FF0 0 (FF0 0 ++ RR1)) 1 (FF0 1 ++ [(⟨gd, x.during.length + 2, cd⟩ : Lr)])) = FF1 at *
      have L1 := Lc.set hneA.out 4 (by simp) (.slice (some ⟨gd, 0, none⟩) x.during.length cd)
      simp only [List.setIfInBounds_toArray, List.set_cons_succ, List.set_cons_zero] at L1
      replace L1 := hideQ L1
      obtain ⟨_, s1, s2⟩ := id (Lc.ty.has (.head _))
      clear Lc
      go_upto_region 13 with fail
      generalize (x1.setCell ⟨b10, 4, none⟩ (.slice (some ⟨gd, 0, none⟩) x.during.length cd)) = y1 at *
      clear s1 s2
      have hBc : Hid (Below B W y1) := L1.out.ty.bel hBW ho5
      have kS := hideQ (roomStmts_any x.leave va' vc' rb oo1 B FF1 VV1 y1 (fun X hX => stsB ql.out (hBc.out.trans hX)) (L1.out.ty.five hBW ho5) hz.out.l hz.out.xl L1.out.ty.rm (by have h := fb1.out.l0; have h2 := hF0.out; have h3 := hz.out.e; have h4 := hz.out.d; have h5 := hz.out.l; omega) (by have h := fb1.out.l1; have h2 := hF0.out; omega))
      obtain ⟨_, s1, s2⟩ := id (L1.out.ty.has (.head _))
      go_wp2_with fail
      go_at_call 27
      refine Calls.mono kS.out ?_
      rintro e x2 ⟨oo2, gl, cl, RR2, VV2, rfl, hRl2, hR2, hK2, hc2, hS2⟩
      have Lc := (L1.out.call hR2.out hK2.out).addE hS2.out
      have fb2 := hideQ (fb1.out.stmts (r := ⟨gl, x.leave.length + 2, cl⟩) hRl2)
      clear s1 s2 kS hBc L1 fb1 hR2 hK2 hS2 hRl2
      generalize (upd (upd FF1 0 (FF1 0 ++ RR2)) 1 (FF1 1 ++ [(⟨gl, x.leave.length + 2, cl⟩ : Lr)])) = FF2 at *
      have L2 := Lc.set hneA.out 5 (by simp) (.slice (some ⟨gl, 0, none⟩) x.leave.length cl)
      simp only [List.setIfInBounds_toArray, List.set_cons_succ, List.set_cons_zero] at L2
      replace L2 := hideQ L2
      obtain ⟨_, s1, s2⟩ := id (Lc.ty.has (.head _))
      clear Lc
      go_upto_region 14 with fail
      generalize (x2.setCell ⟨b10, 5, none⟩ (.slice (some ⟨gl, 0, none⟩) x.leave.length cl)) = y2 at *
      clear s1 s2
      have Ld := hideQ (L2.out.alloc #[.int .i64 4444, .slice none 0 0] 84)
      have hneB : Hid (∀ q ∈ ((b10, #[.string x.name, .int .i64 x.id, .int .u64 x.green, .slice (some ⟨ge, 0, none⟩) x.enter.length ce, .slice (some ⟨gd, 0, none⟩) x.during.length cd, .slice (some ⟨gl, 0, none⟩) x.leave.length cl, .slice xa x.nexts.length xc]) :: ((b5, #[.string pn, .slice (some ⟨g1, 0, none⟩) G.length c1, .slice (some ⟨g2, 0, none⟩) C.length c2, .slice (some ⟨g3, 0, none⟩) D.length c3, .slice (some ⟨g4, 0, none⟩) TM.length c4, .slice (some ⟨g5, 0, none⟩) CT.length c5, .slice (some ⟨gv, 0, none⟩) VR.length cv, .slice none 0 0, .int .i64 stt]) :: [(W.heap.size + 1, #[.string ⟨#[]⟩, .slice none 0 0, .slice none 0 0, .slice none 0 0, .slice none 0 0, .slice none 0 0, .slice none 0 0, .slice none 0 0, .int .i64 0]), (W.heap.size, #[.string pn, .slice ga G.length gc, .slice ca C.length cc, .slice da D.length dc, .slice ta TM.length tc, .slice ka CT.length kc, .slice va VR.length vc, .slice (some ⟨sg, so, none⟩) SG.length sc, .int .i64 stt])]) : List (Nat × Array Value)), q.1 ≠ y2.heap.size) := fun q hq => Nat.ne_of_lt (L2.out.ty.bx q hq).2.2.1
      clear L2
      go_wp2_with fail
      generalize (y2.alloc (.cells #[.int .i64 4444, .slice none 0 0] 84)) = z0 at *
      generalize nxO oo2 y2.heap.size 3 = o5 at *
      generalize y2.heap.size = b11 at *
      obtain ⟨gK, hgK⟩ : ∃ g, g = gk := ⟨_, rfl⟩
      go_loopg [12, 13] x.nexts.length (fun gj s12 s13 wj => ∃ (j : Nat) (o' : Nat → Nat) (F' : Nat → List Lr) (V' : Nat → Value) (na : Option Addr) (nc : Nat) (Q : List Nv), j + gj = x.nexts.length ∧ s12 = .slice na j nc ∧ s13 = .int .i64 (j : Int) ∧ Hid (Q.map (·.x) = x.nexts.take j) ∧ Hid (Q.length = j) ∧ Hid (FB F2 F' (4194304 * k + x.enter.length + x.during.length + x.leave.length + j) (3 * k + 1 + 1 + 1) k) ∧ Hid (TyL o W B rb o' wj F' V' ((b11, #[.int .i64 4444, .slice none 0 0]) :: (b10, #[.string x.name, .int .i64 x.id, .int .u64 x.green, .slice (some ⟨ge, 0, none⟩) x.enter.length ce, .slice (some ⟨gd, 0, none⟩) x.during.length cd, .slice (some ⟨gl, 0, none⟩) x.leave.length cl, .slice xa x.nexts.length xc]) :: ((b5, #[.string pn, .slice (some ⟨g1, 0, none⟩) G.length c1, .slice (some ⟨g2, 0, none⟩) C.length c2, .slice (some ⟨g3, 0, none⟩) D.length c3, .slice (some ⟨g4, 0, none⟩) TM.length c4, .slice (some ⟨g5, 0, none⟩) CT.length c5, .slice (some ⟨gv, 0, none⟩) VR.length cv, .slice none 0 0, .int .i64 stt]) :: [(W.heap.size + 1, #[.string ⟨#[]⟩, .slice none 0 0, .slice none 0 0, .slice none 0 0, .slice none 0 0, .slice none 0 0, .slice none 0 0, .slice none 0 0, .int .i64 0]), (W.heap.size, #[.string pn, .slice ga G.length gc, .slice ca C.length cc, .slice da D.length dc, .slice ta TM.length tc, .slice ka CT.length kc, .slice va VR.length vc, .slice (some ⟨sg, so, none⟩) SG.length sc, .int .i64 stt])])) [(gv, (cellsF Vr.cs VR ++ [.string ⟨#[]⟩, .int .i32 4444, .string ⟨#[]⟩, .int .i32 4444])), (g5, (cellsF txC CT ++ [.string ⟨#[114, 111, 111, 109]⟩, .string ⟨#[114, 111, 111, 109]⟩])), (g4, (cellsF txC TM ++ [.string ⟨#[114, 111, 111, 109]⟩, .string ⟨#[114, 111, 111, 109]⟩])), (g3, (cellsF Dt.cs D ++ [.string ⟨#[]⟩, .bool false, .int .i64 4444, .int .i64 0, .string ⟨#[]⟩, .bool false, .int .i64 4444, .int .i64 0])), (g1, (cellsF Gp.cs G ++ [.string ⟨#[]⟩, .int .i64 0, .int .i64 4444, .int .i64 0, .int .i64 0, .string ⟨#[]⟩, .int .i64 0, .int .i64 4444, .int .i64 0, .int .i64 0])), (g2, (cellsF Cf.cs C ++ [.int .i64 4444, .int .i64 0, .int .i64 0, .int .i64 0, .int .i64 4444, .int .i64 0, .int .i64 0, .int .i64 0]))] (.slice fa k fc) Y (.slice na j nc) Q [(.slice (some ⟨gl, 0, none⟩) x.leave.length cl, x.leave), (.slice (some ⟨gd, 0, none⟩) x.during.length cd, x.during), (.slice (some ⟨ge, 0, none⟩) x.enter.length ce, x.enter)] []))
      case atStart => exact ⟨0, o5, FF2, VV2, none, 0, [], by omega, rfl, rfl, rfl, rfl, fb2, Ld⟩
      case round =>
        clear Ld fb2
        obtain ⟨j, o', F', V', na, nc, Q, hj, rfl, rfl, hQ, hQl, hFB, hL⟩ := hrel
        have hBw : Hid (Below B W wr) := hL.out.ty.bel hBW ho5
        obtain ⟨_, s1, s2⟩ := id (hL.out.ty.has (.tail _ (.head _)))
        by_cases hlj : j < x.nexts.length
        · have u1 : (j : Int) < (x.nexts.length : Int) := by omega
          have u0 : (0 : Int) ≤ (j : Int) := by omega
          obtain ⟨xa', xc', e1, _, kX⟩ := Rows.any qn.out
          injection e1 with e1 _ e2
          subst e1
          subst e2
          obtain ⟨xg, xo, rfl, hgB, hg0, P⟩ := kX.resolve_left (by intro e; rw [e] at hlj; simp at hlj)
          obtain ⟨cs, _, ⟨v, rfl, qx⟩, P2⟩ := P j hlj
          have P0 := P2 0 _ rfl
          have P1 := P2 1 _ rfl
          simp only [Nat.add_zero] at P0
          have hwl := hz.out.xn x.nexts[j] (List.getElem_mem hlj)
          have htj : Hid (x.nexts.take (j + 1) = x.nexts.take j ++ [x.nexts[j]]) := List.take_succ_eq_append_getElem hlj
          clear P P2 kX hg0
          generalize x.nexts[j] = y at *
          obtain ⟨wa, wc, rfl, -⟩ := Rows.any qx
          have p0 := (hBw.out.cell (p := ⟨xg, _, none⟩) hgB).trans P0
          have p1 := (hBw.out.cell (p := ⟨xg, _, none⟩) hgB).trans P1
          replace P0 := hideQ P0
          replace P1 := hideQ P1
          go_upto_region 19 with fail
          have hfl : Fl 5 Nd.cs wr.drew (.slice wa y.wh.length wc) y.wh := (Exs.flat (qx.mv (mvB hBw.out))).below (Below.refl _ _).drew
          have kN := hideQ (roomNodes_any y.wh wa wc rb o' B F' V' wr.drew hfl hwl (hL.out.drew).ty.rm (by have h := hFB.out.l0; have h2 := hF0.out; have h3 := hz.out.e; have h4 := hz.out.d; have h5 := hz.out.l; have h6 := hz.out.n; omega))
          clear hfl
          refine wp_region_noPanic ?_
          refine wp_region_held_drew (S := fun w' => w'.cell? ⟨b10, 6, none⟩ = some (.slice (some ⟨xg, xo, none⟩) x.nexts.length xc) ∧ w'.cell? ⟨xg, xo + j * 2, none⟩ = some (.int .i64 y.dst) ∧ w'.cell? ⟨xg, xo + j * 2 + 1, none⟩ = some (.slice wa y.wh.length wc)) (by kernel_rfl) ?_ (fun hHeld => ?_)
          · (try dsimp only)
            exact ⟨s1 6, p0, p1⟩
          refine tkY 0 ⟨some 95, .move (.tmp 12), 79, "room.go:123", #[], none⟩ ?_ rfl ⟨by rfl, ?_⟩ ?_
          rotate_left
          · intro wz hSz; (try dsimp only at hSz); go_simp; all_goals (with_reducible rfl)
          (try simp only [Act.put, List.setIfInBounds_toArray, List.set_cons_zero, List.set_cons_succ])
          refine tkY 1 ⟨some 96, .fieldAddr 81 (.tmp 10) 6, 0, "room.go:123", #[], none⟩ ?_ rfl ⟨by rfl, ?_⟩ ?_
          rotate_left
          · intro wz hSz; (try dsimp only at hSz); go_simp; all_goals (with_reducible rfl)
          (try simp only [Act.put, List.setIfInBounds_toArray, List.set_cons_zero, List.set_cons_succ])
          refine tkY 2 ⟨some 97, .load 79 (.tmp 96), 79, "room.go:123", #[⟨1, .data⟩], none⟩ ?_ rfl ⟨by rfl, ?_⟩ ?_
          rotate_left
          · intro wz hSz; (try dsimp only at hSz); go_simp; all_goals (with_reducible rfl)
          (try simp only [Act.put, List.setIfInBounds_toArray, List.set_cons_zero, List.set_cons_succ])
          refine tkY 3 ⟨some 98, .move (.tmp 13), 3, "room.go:123", #[], none⟩ ?_ rfl ⟨by rfl, ?_⟩ ?_
          rotate_left
          · intro wz hSz; (try dsimp only at hSz); go_simp; all_goals (with_reducible rfl)
          (try simp only [Act.put, List.setIfInBounds_toArray, List.set_cons_zero, List.set_cons_succ])
          refine tkY 4 ⟨some 99, .indexAddr 79 (.tmp 97) (.tmp 98), 0, "room.go:123", #[⟨2, .data⟩, ⟨3, .data⟩], none⟩ ?_ rfl ⟨by rfl, ?_⟩ ?_
          rotate_left
          · intro wz hSz; (try dsimp only at hSz); go_simp; all_goals (with_reducible rfl)
          (try simp only [Act.put, List.setIfInBounds_toArray, List.set_cons_zero, List.set_cons_succ])
          refine tkY 5 ⟨some 100, .fieldAddr 84 (.tmp 99) 0, 0, "room.go:123", #[⟨4, .data⟩], none⟩ ?_ rfl ⟨by rfl, ?_⟩ ?_
          rotate_left
          · intro wz hSz; (try dsimp only at hSz); go_simp; all_goals (with_reducible rfl)
          (try simp only [Act.put, List.setIfInBounds_toArray, List.set_cons_zero, List.set_cons_succ])
          refine tkY 6 ⟨some 101, .load 3 (.tmp 100), 3, "room.go:123", #[⟨5, .data⟩], none⟩ ?_ rfl ⟨by rfl, ?_⟩ ?_
          rotate_left
          · intro wz hSz; (try dsimp only at hSz); go_simp; all_goals (with_reducible rfl)
          (try simp only [Act.put, List.setIfInBounds_toArray, List.set_cons_zero, List.set_cons_succ])
          refine tkY 7 ⟨some 102, .move (.tmp 0), 33, "room.go:123", #[], none⟩ ?_ rfl ⟨by rfl, ?_⟩ ?_
          rotate_left
          · intro wz hSz; (try dsimp only at hSz); go_simp; all_goals (with_reducible rfl)
          (try simp only [Act.put, List.setIfInBounds_toArray, List.set_cons_zero, List.set_cons_succ])
          refine tkY 8 ⟨some 103, .fieldAddr 81 (.tmp 10) 6, 0, "room.go:123", #[], none⟩ ?_ rfl ⟨by rfl, ?_⟩ ?_
          rotate_left
          · intro wz hSz; (try dsimp only at hSz); go_simp; all_goals (with_reducible rfl)
          (try simp only [Act.put, List.setIfInBounds_toArray, List.set_cons_zero, List.set_cons_succ])
          refine tkY 9 ⟨some 104, .load 79 (.tmp 103), 79, "room.go:123", #[⟨8, .data⟩], none⟩ ?_ rfl ⟨by rfl, ?_⟩ ?_
          rotate_left
          · intro wz hSz; (try dsimp only at hSz); go_simp; all_goals (with_reducible rfl)
          (try simp only [Act.put, List.setIfInBounds_toArray, List.set_cons_zero, List.set_cons_succ])
          refine tkY 10 ⟨some 105, .move (.tmp 13), 3, "room.go:123", #[], none⟩ ?_ rfl ⟨by rfl, ?_⟩ ?_
          rotate_left
          · intro wz hSz; (try dsimp only at hSz); go_simp; all_goals (with_reducible rfl)
          (try simp only [Act.put, List.setIfInBounds_toArray, List.set_cons_zero, List.set_cons_succ])
          refine tkY 11 ⟨some 106, .indexAddr 79 (.tmp 104) (.tmp 105), 0, "room.go:123", #[⟨9, .data⟩, ⟨10, .data⟩], none⟩ ?_ rfl ⟨by rfl, ?_⟩ ?_
          rotate_left
          · intro wz hSz; (try dsimp only at hSz); go_simp; all_goals (with_reducible rfl)
          (try simp only [Act.put, List.setIfInBounds_toArray, List.set_cons_zero, List.set_cons_succ])
          refine tkY 12 ⟨some 107, .fieldAddr 84 (.tmp 106) 1, 0, "room.go:123", #[⟨11, .data⟩], none⟩ ?_ rfl ⟨by rfl, ?_⟩ ?_
          rotate_left
          · intro wz hSz; (try dsimp only at hSz); go_simp; all_goals (with_reducible rfl)
          (try simp only [Act.put, List.setIfInBounds_toArray, List.set_cons_zero, List.set_cons_succ])
          refine tkY 13 ⟨some 108, .load 32 (.tmp 107), 32, "room.go:123", #[⟨12, .data⟩], none⟩ ?_ rfl ⟨by rfl, ?_⟩ ?_
          rotate_left
          · intro wz hSz; (try dsimp only at hSz); go_simp; all_goals (with_reducible rfl)
          (try simp only [Act.put, List.setIfInBounds_toArray, List.set_cons_zero, List.set_cons_succ])
          refine wpAnyH_ready (rs := [14]) (by kernel_rfl) (by simp) ?_
          refine AllReadyH.cons (o := ⟨some 109, .call { callee := Callee.value (.func 7), args := #[.tmp 102, .tmp 108], argTypes := #[33, 32] }, 32, "room.go:123", #[⟨7, .data⟩, ⟨13, .data⟩], none⟩) rfl (fun K hK => ?_) AllReadyH.nil
          go_simp
          go_at_call 7
          refine Calls.mono kN.out ?_
          rintro e x4 ⟨o6, g6, c6, V6, rfl, hR6, hK6, hc6, hF6⟩
          have Le := hideQ (hL.out.drew.call hR6.out hK6.out)
          have fb6 := hideQ (hFB.out.node (r := ⟨g6, y.wh.length + 2, c6⟩))
          have hX6 := hideQ (exs_fz (c := c6) hF6.out hwl (by omega))
          have hBw6 := Le.out.ty.bel hBW ho5
          have p06 := (hBw6.cell (p := ⟨xg, _, none⟩) hgB).trans P0.out
          have p16 := (hBw6.cell (p := ⟨xg, _, none⟩) hgB).trans P1.out
          obtain ⟨_, s16, _⟩ := id (Le.out.ty.has (.tail _ (.head _)))
          clear hR6 hK6 hF6 kN hL hFB
          generalize (upd F' 0 (F' 0 ++ [(⟨g6, y.wh.length + 2, c6⟩ : Lr)])) = F6 at *
          go_wp2_with fail
          refine hK.out _ _ ?_ (fun hHeld => ?_)
          · (try dsimp only)
            exact ⟨s16 6, p06, p16⟩
          clear hK K
          (try simp only [Act.put, List.setIfInBounds_toArray, List.set_cons_zero, List.set_cons_succ])
          refine tkY 15 ⟨some 110, .build 84 #[(0, .tmp 101), (1, .tmp 109)], 84, "room.go:123", #[⟨6, .data⟩, ⟨14, .data⟩], none⟩ ?_ rfl ⟨by rfl, ?_⟩ ?_
          rotate_left
          · intro wz hSz; (try dsimp only at hSz); go_simp; all_goals (with_reducible rfl)
          (try simp only [Act.put, List.setIfInBounds_toArray, List.set_cons_zero, List.set_cons_succ])
          refine wpAnyH_ready (rs := [16]) (by kernel_rfl) (by simp) ?_
          refine AllReadyH.cons (o := ⟨some 111, .buildSlice 79 1 #[(0, .tmp 110)], 79, "room.go:123", #[⟨15, .data⟩], none⟩) rfl (fun K hK => ?_) AllReadyH.nil
          go_simp
          have hb16 := bel1 (w := x4) (.cells #[.int .i64 y.dst, .slice (some ⟨g6, 0, none⟩) y.wh.length c6] 84)
          have L16 := Le.out.below hb16
          have hBw16 := L16.ty.bel hBW ho5
          have p016 := (hBw16.cell (p := ⟨xg, _, none⟩) hgB).trans P0.out
          have p116 := (hBw16.cell (p := ⟨xg, _, none⟩) hgB).trans P1.out
          obtain ⟨_, s116, _⟩ := id (L16.ty.has (.tail _ (.head _)))
          refine hK.out _ _ ?_ (fun hHeld => ?_)
          · (try dsimp only)
            exact ⟨s116 6, p016, p116⟩
          clear hK K L16 hBw16 p016 p116 s116 hb16
          (try simp only [Act.put, List.setIfInBounds_toArray, List.set_cons_zero, List.set_cons_succ])
          refine wpAnyH_ready (rs := [17]) (by kernel_rfl) (by simp) ?_
          have own6 := own_bel Le.out.no.own (bel1 (.cells #[.int .i64 y.dst, .slice (some ⟨g6, 0, none⟩) y.wh.length c6] 84))
          rw [hQl.out] at own6
          have s6 : W.heap.size ≤ (x4.alloc (.cells #[.int .i64 y.dst, .slice (some ⟨g6, 0, none⟩) y.wh.length c6] 84)).heap.size := by have := Le.out.ty.ky.size; simp; omega
          refine AllReadyH.cons (o := ⟨some 112, .call { callee := Callee.builtin Builtin.append, args := #[.tmp 95, .tmp 111], argTypes := #[79, 79] }, 79, "room.go:123", #[⟨0, .data⟩, ⟨16, .data⟩, ⟨14, .chain⟩], none⟩) rfl (fun K hK => ?_) AllReadyH.nil
          refine step_append_lies _ rfl _ _ 79 rfl W.heap.size 84 t84 _ 2 32 Tryz.underlying79 h84 h840 h841 h842 rfl (by decide) (.slice na j nc) j (cellsF Nv.cs Q) rfl own6 ⟨x4.heap.size, 0, none⟩ 1 1 [.int .i64 y.dst, .slice (some ⟨g6, 0, none⟩) y.wh.length c6] rfl rfl (cells_at (W := x4) rfl _ _) (all_one rfl) (by decide) (by unfold maxLen; omega) (by omega) s6 _ rfl ?_
          intro g9 k9 w9 o9 gr9 at9 lt9
          have q9 : Gw o6 1 x4 (x4.alloc (.cells #[.int .i64 y.dst, .slice (some ⟨g6, 0, none⟩) y.wh.length c6] 84)) w9 (.slice na j nc) g9 := ⟨bel1 _, gr9, at9.imp id (fun e => Nat.le_of_eq e.symm), fun q hq => ⟨(own_lt Le.out.no.own q hq).2, Le.out.no.tag q hq⟩, by decide⟩
          rw [← hQl.out] at o9
          have Lf := hideQ (Le.out.gwN (y := ⟨y, some ⟨g6, 0, none⟩, c6⟩) q9 o9 (hX6.out.mv q9.mv))
          rw [hQl.out] at Lf
          have hBw9 := Lf.out.ty.bel hBW ho5
          have p09 := (hBw9.cell (p := ⟨xg, _, none⟩) hgB).trans P0.out
          have p19 := (hBw9.cell (p := ⟨xg, _, none⟩) hgB).trans P1.out
          obtain ⟨_, s19, _⟩ := id (Lf.out.ty.has (.tail _ (.head _)))
          clear q9 o9 gr9 at9 lt9 hX6 Le own6 s6 p06 p16 s16 hBw6
          refine hK.out _ _ ?_ (fun hHeld => ?_)
          · (try dsimp only)
            exact ⟨s19 6, p09, p19⟩
          clear hK K
          (try simp only [Act.put, List.setIfInBounds_toArray, List.set_cons_zero, List.set_cons_succ])
          refine tkY 18 ⟨some 12, .assign (.tmp 112), 79, "room.go:123", #[⟨17, .data⟩, ⟨17, .chain⟩, ⟨0, .phase⟩, ⟨1, .phase⟩, ⟨2, .phase⟩, ⟨3, .phase⟩, ⟨4, .phase⟩, ⟨5, .phase⟩, ⟨6, .phase⟩, ⟨7, .phase⟩, ⟨8, .phase⟩, ⟨9, .phase⟩, ⟨10, .phase⟩, ⟨11, .phase⟩, ⟨12, .phase⟩, ⟨13, .phase⟩, ⟨14, .phase⟩, ⟨15, .phase⟩, ⟨16, .phase⟩, ⟨17, .phase⟩], none⟩ ?_ rfl ⟨by rfl, ?_⟩ ?_
          rotate_left
          · intro wz hSz; (try dsimp only at hSz); go_simp; all_goals (with_reducible rfl)
          (try simp only [Act.put, List.setIfInBounds_toArray, List.set_cons_zero, List.set_cons_succ])
          refine wpAnyH_done (by kernel_rfl) ?_ _
          refine NoPanic.normal ?_
          go_wp2_with fail
          go_roundg (gk - 1)
          case measure => go_light; omega
          case rel => exact ⟨j + 1, _, _, _, _, k9, _, by omega, rfl, by go_num, (by show _ = _; rw [List.map_append, hQ.out, htj.out]; rfl), (by show _ = _; rw [List.length_append, hQl.out]; rfl), fb6, Lf⟩
        · have u1 : ¬ (j : Int) < (x.nexts.length : Int) := by omega
          obtain rfl : j = x.nexts.length := by omega
          obtain ⟨_, m1, m2⟩ := id (hL.out.ty.has (.head _))
          have own6 := own_bel hL.out.no.own (bel1 (.cells #[.int .i64 4444, .slice none 0 0, .int .i64 4444, .slice none 0 0] 84))
          rw [hQl.out] at own6
          have s6 : W.heap.size ≤ (wr.alloc (.cells #[.int .i64 4444, .slice none 0 0, .int .i64 4444, .slice none 0 0] 84)).heap.size := by have := hL.out.ty.ky.size; simp; omega
          have lnx := hz.out.n
          go_upto_region 21 with (at_builtin; (refine wpList_append_mine _ rfl _ _ 79 rfl W.heap.size 84 t84 _ 2 32 Tryz.underlying79 h84 h840 h841 h842 rfl (by decide) (.slice na x.nexts.length nc) x.nexts.length (cellsF Nv.cs Q) rfl own6 ⟨wr.heap.size, 0, none⟩ 2 2 [.int .i64 4444, .slice none 0 0, .int .i64 4444, .slice none 0 0] rfl rfl (cells_at (W := wr) rfl _ _) (all_one rfl) (by decide) (by unfold maxLen; omega) (by omega) s6 ?_); intro g9 k9 w9 o9 gr9 at9 _ hc9)
          have q9 : Gw o' 1 wr (wr.alloc (.cells #[.int .i64 4444, .slice none 0 0, .int .i64 4444, .slice none 0 0] 84)) w9 (.slice na x.nexts.length nc) g9 := ⟨bel1 _, gr9, at9, fun q hq => ⟨(own_lt hL.out.no.own q hq).2, hL.out.no.tag q hq⟩, by decide⟩
          rw [← hQl.out] at o9
          obtain ⟨Le, mk9, cap9⟩ := hL.out.endN (L := x.nexts) q9 o9 (by rw [hQ.out, List.take_length]) lnx rfl rfl
          rw [hQl.out] at o9
          replace Le := hideQ Le
          clear q9 o9 gr9 at9 hc9 hL own6 s6 m1 m2 s1 s2 hBw hQ hQl
          generalize frO (mkO o' wr.heap.size 1 g9) g9 = o6 at *
          have hRe := Le.out.ty.rm
          have b9 : Below w9.heap.size w9 w9 := Below.refl _ _
          have hb2 : (F' 2).length ≤ 5000000 := by have h := hFB.out.l2; have h2 := hF0.out; omega
          have hR6 := hRe.below b9
          have hF6 := (hR6.fl 2 (by decide)).own.own
          have c6 := hR6.cl 2 (by decide)
          have f6 := hR6.fz 2
          have l6 := hR6.lt
          obtain ⟨fa7, fc7, hV⟩ := own_form hF6
          have hVh := hideQ hV
          rw [hV] at c6 hF6
          have hb7 := bel1 (w := w9) (.cells #[.slice (some ⟨g9, 0, none⟩) (x.nexts.length + 2) k9] 79)
          have hF7 := own_bel hF6 hb7
          have s7 : B ≤ (w9.alloc (.cells #[.slice (some ⟨g9, 0, none⟩) (x.nexts.length + 2) k9] 79)).heap.size := by have := hR6.bb; simp; omega
          clear hR6 hV hF6
          go_upto_region 22 with (at_builtin; (refine wpList_append_mine _ rfl _ _ 36 rfl B 79 t79 _ 1 24 Tryz.underlying36 h79 h790 h791 h792 rfl (by decide) (.slice fa7 (F' 2).length fc7) (F' 2).length (cellsF Lr.cs (F' 2)) rfl hF7 ⟨w9.heap.size, 0, none⟩ 1 1 [.slice (some ⟨g9, 0, none⟩) (x.nexts.length + 2) k9] rfl rfl (cells_at (W := w9) rfl _ _) (all_one rfl) (by decide) (by unfold maxLen; omega) (by omega) s7 ?_); intro g7 k7 w7 o7 gr7 at7 _ hc7; have q7 := rm_gw hRe (k := 2) (by decide) (bel_after b9 b9.size hb7) (by rw [hVh.out]; exact gr7) (by rw [hVh.out]; exact at7); have c7 := (cell_heap (j := 2) (q7.ky.block rb hRe.lt (by rw [hRe.ob]; decide))).trans (hRe.cl 2 (by decide)); rw [hVh.out] at c7; have f7 := rm_fz hRe q7 2; have l7 : rb < w7.heap.size := Nat.lt_of_lt_of_le hRe.lt q7.ky.size)
          have hP := hRe.push (r := ⟨g9, x.nexts.length + 2, k9⟩) (by decide) q7 o7 (mk9.mv q7.mv)
          have Lf := hideQ (Le.out.call hP.1 hP.2)
          have fb7 := hideQ (hFB.out.next (r := ⟨g9, x.nexts.length + 2, k9⟩))
          clear hP q7 o7 gr7 at7 hc7 c7 f7 l7 c6 f6 l6 hF7 hb7 s7 hVh hRe mk9 b9 Le hFB hb2
          generalize mkO o6 w9.heap.size (10 + 2) g7 = o7 at *
          generalize w7.setCell ⟨rb, 2, none⟩ (.slice (some ⟨g7, 0, none⟩) ((F' 2).length + 1) k7) = w8 at *
          generalize upd V' 2 (.slice (some ⟨g7, 0, none⟩) ((F' 2).length + 1) k7) = V7 at *
          generalize upd F' 2 (F' 2 ++ [(⟨g9, x.nexts.length + 2, k9⟩ : Lr)]) = F7 at *
          have hneC : ∀ q ∈ ((b11, #[.int .i64 4444, .slice none 0 0]) :: ((b5, #[.string pn, .slice (some ⟨g1, 0, none⟩) G.length c1, .slice (some ⟨g2, 0, none⟩) C.length c2, .slice (some ⟨g3, 0, none⟩) D.length c3, .slice (some ⟨g4, 0, none⟩) TM.length c4, .slice (some ⟨g5, 0, none⟩) CT.length c5, .slice (some ⟨gv, 0, none⟩) VR.length cv, .slice none 0 0, .int .i64 stt]) :: [(W.heap.size + 1, #[.string ⟨#[]⟩, .slice none 0 0, .slice none 0 0, .slice none 0 0, .slice none 0 0, .slice none 0 0, .slice none 0 0, .slice none 0 0, .int .i64 0]), (W.heap.size, #[.string pn, .slice ga G.length gc, .slice ca C.length cc, .slice da D.length dc, .slice ta TM.length tc, .slice ka CT.length kc, .slice va VR.length vc, .slice (some ⟨sg, so, none⟩) SG.length sc, .int .i64 stt])]) : List (Nat × Array Value)), q.1 ≠ b10 := by
            intro q hq
            rcases List.mem_cons.1 hq with rfl | hq
            · exact fun e => hneB.out (b10, #[.string x.name, .int .i64 x.id, .int .u64 x.green, .slice (some ⟨ge, 0, none⟩) x.enter.length ce, .slice (some ⟨gd, 0, none⟩) x.during.length cd, .slice (some ⟨gl, 0, none⟩) x.leave.length cl, .slice xa x.nexts.length xc]) List.mem_cons_self e.symm
            · exact hneA.out q hq
          have Lg := (Lf.out.sub (Bs' := ((b10, #[.string x.name, .int .i64 x.id, .int .u64 x.green, .slice (some ⟨ge, 0, none⟩) x.enter.length ce, .slice (some ⟨gd, 0, none⟩) x.during.length cd, .slice (some ⟨gl, 0, none⟩) x.leave.length cl, .slice xa x.nexts.length xc]) :: (b11, #[.int .i64 4444, .slice none 0 0]) :: ((b5, #[.string pn, .slice (some ⟨g1, 0, none⟩) G.length c1, .slice (some ⟨g2, 0, none⟩) C.length c2, .slice (some ⟨g3, 0, none⟩) D.length c3, .slice (some ⟨g4, 0, none⟩) TM.length c4, .slice (some ⟨g5, 0, none⟩) CT.length c5, .slice (some ⟨gv, 0, none⟩) VR.length cv, .slice none 0 0, .int .i64 stt]) :: [(W.heap.size + 1, #[.string ⟨#[]⟩, .slice none 0 0, .slice none 0 0, .slice none 0 0, .slice none 0 0, .slice none 0 0, .slice none 0 0, .slice none 0 0, .int .i64 0]), (W.heap.size, #[.string pn, .slice ga G.length gc, .slice ca C.length cc, .slice da D.length dc, .slice ta TM.length tc, .slice ka CT.length kc, .slice va VR.length vc, .slice (some ⟨sg, so, none⟩) SG.length sc, .int .i64 stt])]))) (fun q hq => by
            rcases List.mem_cons.1 hq with rfl | hq
            · exact List.mem_cons_of_mem _ List.mem_cons_self
            · rcases List.mem_cons.1 hq with rfl | hq
              · exact List.mem_cons_self
              · exact List.mem_cons_of_mem _ (List.mem_cons_of_mem _ hq))).set hneC 6 (by simp) (.slice (some ⟨g9, 0, none⟩) x.nexts.length k9)
          simp only [List.setIfInBounds_toArray, List.set_cons_succ, List.set_cons_zero] at Lg
          replace Lg := hideQ Lg
          obtain ⟨_, s1, s2⟩ := id (Lf.out.ty.has (.tail _ (.head _)))
          clear Lf
          have i1 : (x.nexts.length : Int) ≤ (k9 : Int) := by omega
          have i2 : (0 : Int) ≤ (x.nexts.length : Int) := by omega
          have i3 : x.nexts.length ≤ k9 := by omega
          go_upto_region 23 with fail
          generalize (w8.setCell ⟨b10, 6, none⟩ (.slice (some ⟨g9, 0, none⟩) x.nexts.length k9)) = y8 at *
          clear s1 s2
          obtain ⟨_, s1, s2⟩ := id (Lg.out.ty.has (.head _))
          have own6 := own_bel Lg.out.so.own (bel1 (.cells #[.string x.name, .int .i64 x.id, .int .u64 x.green, .slice (some ⟨ge, 0, none⟩) x.enter.length ce, .slice (some ⟨gd, 0, none⟩) x.during.length cd, .slice (some ⟨gl, 0, none⟩) x.leave.length cl, .slice (some ⟨g9, 0, none⟩) x.nexts.length k9] 81))
          rw [hYl.out] at own6
          have s6 : W.heap.size ≤ (y8.alloc (.cells #[.string x.name, .int .i64 x.id, .int .u64 x.green, .slice (some ⟨ge, 0, none⟩) x.enter.length ce, .slice (some ⟨gd, 0, none⟩) x.during.length cd, .slice (some ⟨gl, 0, none⟩) x.leave.length cl, .slice (some ⟨g9, 0, none⟩) x.nexts.length k9] 81)).heap.size := by have := Lg.out.ty.ky.size; simp; omega
          go_wp2_with (at_builtin; (refine wpList_append_mine _ rfl _ _ 29 rfl W.heap.size 81 t81 _ 7 128 Tryz.underlying29 h81 h810 h811 h812 rfl (by decide) (.slice fa k fc) k (cellsF Sv.cs Y) rfl own6 ⟨y8.heap.size, 0, none⟩ 1 1 [.string x.name, .int .i64 x.id, .int .u64 x.green, .slice (some ⟨ge, 0, none⟩) x.enter.length ce, .slice (some ⟨gd, 0, none⟩) x.during.length cd, .slice (some ⟨gl, 0, none⟩) x.leave.length cl, .slice (some ⟨g9, 0, none⟩) x.nexts.length k9] rfl rfl (cells_at (W := y8) rfl _ _) (all_one rfl) (by decide) (by unfold maxLen; omega) (by omega) s6 ?_); intro g8 k8 v8 o8 gr8 at8 _ hc8)
          have q8 : Gw o7 2 y8 (y8.alloc (.cells #[.string x.name, .int .i64 x.id, .int .u64 x.green, .slice (some ⟨ge, 0, none⟩) x.enter.length ce, .slice (some ⟨gd, 0, none⟩) x.during.length cd, .slice (some ⟨gl, 0, none⟩) x.leave.length cl, .slice (some ⟨g9, 0, none⟩) x.nexts.length k9] 81)) v8 (.slice fa k fc) g8 := ⟨bel1 _, gr8, at8, fun q hq => ⟨(own_lt Lg.out.so.own q hq).2, Lg.out.so.tag q hq⟩, by decide⟩
          rw [← hYl.out] at o8
          have Lh := Lg.out.gwS (y := ⟨x, some ⟨ge, 0, none⟩, ce, some ⟨gd, 0, none⟩, cd, some ⟨gl, 0, none⟩, cl, some ⟨g9, 0, none⟩, k9, []⟩) q8 o8 ⟨Lg.out.es _ (.tail _ (.tail _ (.head _))), Lg.out.es _ (.tail _ (.head _)), Lg.out.es _ (.head _), Lg.out.ns _ (.head _)⟩
          rw [hYl.out] at Lh
          have Li := hideQ ((Lh.sub (Bs' := ((b5, #[.string pn, .slice (some ⟨g1, 0, none⟩) G.length c1, .slice (some ⟨g2, 0, none⟩) C.length c2, .slice (some ⟨g3, 0, none⟩) D.length c3, .slice (some ⟨g4, 0, none⟩) TM.length c4, .slice (some ⟨g5, 0, none⟩) CT.length c5, .slice (some ⟨gv, 0, none⟩) VR.length cv, .slice none 0 0, .int .i64 stt]) :: [(W.heap.size + 1, #[.string ⟨#[]⟩, .slice none 0 0, .slice none 0 0, .slice none 0 0, .slice none 0 0, .slice none 0 0, .slice none 0 0, .slice none 0 0, .int .i64 0]), (W.heap.size, #[.string pn, .slice ga G.length gc, .slice ca C.length cc, .slice da D.length dc, .slice ta TM.length tc, .slice ka CT.length kc, .slice va VR.length vc, .slice (some ⟨sg, so, none⟩) SG.length sc, .int .i64 stt])])) (fun q hq => List.mem_cons_of_mem _ (List.mem_cons_of_mem _ hq))).lists (Es' := []) (Ns' := []) (fun p hp => by cases hp) (fun p hp => by cases hp))
          have hY8 : Hid ((Y ++ [(⟨x, some ⟨ge, 0, none⟩, ce, some ⟨gd, 0, none⟩, cd, some ⟨gl, 0, none⟩, cl, some ⟨g9, 0, none⟩, k9, []⟩ : Sv)]).map (·.x) = SG.take (k + 1)) := by show _ = _; rw [List.map_append, hY.out, htk.out]; rfl
          have hYl8 : Hid ((Y ++ [(⟨x, some ⟨ge, 0, none⟩, ce, some ⟨gd, 0, none⟩, cd, some ⟨gl, 0, none⟩, cl, some ⟨g9, 0, none⟩, k9, []⟩ : Sv)]).length = k + 1) := by show _ = _; rw [List.length_append, hYl.out]; rfl
          have fb8 : Hid (FB F2 F7 (4194304 * (k + 1)) (3 * (k + 1)) (k + 1)) := fb7.out.le (by have h3 := hz.out.e; have h4 := hz.out.d; have h5 := hz.out.l; omega) (by omega) (by omega)
          clear q8 o8 gr8 at8 hc8 own6 s6 s1 s2 Lg Lh fb7
          go_roundg (gK - 1)
          case measure => go_light; omega
          case rel => exact ⟨k + 1, _, _, _, _, k8, _, by omega, rfl, by go_num, hY8, hYl8, fb8, Li⟩
    · have u1 : ¬ (k : Int) < (SG.length : Int) := by omega
      obtain rfl : k = SG.length := by omega
      have La := hideQ (hL.out.alloc #[.string ⟨#[]⟩, .int .i64 4444, .int .u64 0, .slice none 0 0, .slice none 0 0, .slice none 0 0, .slice none 0 0] 81)
      clear hL hBw
      go_upto_region 25 with fail
      generalize (wr.alloc (.cells #[.string ⟨#[]⟩, .int .i64 4444, .int .u64 0, .slice none 0 0, .slice none 0 0, .slice none 0 0, .slice none 0 0] 81)) = w3 at *
      generalize nxO o' wr.heap.size 3 = o4 at *
      generalize wr.heap.size = b14 at *
      clear n1 n2
      obtain ⟨_, m1, m2⟩ := id (La.out.ty.has (.head _))
      have own6 := own_bel La.out.so.own (bel1 (.cells #[.string ⟨#[]⟩, .int .i64 4444, .int .u64 0, .slice none 0 0, .slice none 0 0, .slice none 0 0, .slice none 0 0, .string ⟨#[]⟩, .int .i64 4444, .int .u64 0, .slice none 0 0, .slice none 0 0, .slice none 0 0, .slice none 0 0] 81))
      rw [hYl.out] at own6
      have s6 : W.heap.size ≤ (w3.alloc (.cells #[.string ⟨#[]⟩, .int .i64 4444, .int .u64 0, .slice none 0 0, .slice none 0 0, .slice none 0 0, .slice none 0 0, .string ⟨#[]⟩, .int .i64 4444, .int .u64 0, .slice none 0 0, .slice none 0 0, .slice none 0 0, .slice none 0 0] 81)).heap.size := by have := La.out.ty.ky.size; simp; omega
      go_upto_region 26 with (at_builtin; (refine wpList_append_mine _ rfl _ _ 29 rfl W.heap.size 81 t81 _ 7 128 Tryz.underlying29 h81 h810 h811 h812 rfl (by decide) (.slice fa SG.length fc) SG.length (cellsF Sv.cs Y) rfl own6 ⟨w3.heap.size, 0, none⟩ 2 2 [.string ⟨#[]⟩, .int .i64 4444, .int .u64 0, .slice none 0 0, .slice none 0 0, .slice none 0 0, .slice none 0 0, .string ⟨#[]⟩, .int .i64 4444, .int .u64 0, .slice none 0 0, .slice none 0 0, .slice none 0 0, .slice none 0 0] rfl rfl (cells_at (W := w3) rfl _ _) (all_one rfl) (by decide) (by unfold maxLen; omega) (by omega) s6 ?_); intro g8 k8 v8 o8 gr8 at8 _ hc8)
      have q8 : Gw o4 2 w3 (w3.alloc (.cells #[.string ⟨#[]⟩, .int .i64 4444, .int .u64 0, .slice none 0 0, .slice none 0 0, .slice none 0 0, .slice none 0 0, .string ⟨#[]⟩, .int .i64 4444, .int .u64 0, .slice none 0 0, .slice none 0 0, .slice none 0 0, .slice none 0 0] 81)) v8 (.slice fa SG.length fc) g8 := ⟨bel1 _, gr8, at8, fun q hq => ⟨(own_lt La.out.so.own q hq).2, La.out.so.tag q hq⟩, by decide⟩
      rw [← hYl.out] at o8
      obtain ⟨T6, S6, mk8, cap8⟩ := La.out.endS (L := SG) q8 o8 (by rw [hY.out, List.take_length]) lS rfl rfl
      rw [hYl.out] at o8
      replace S6 := hideQ S6
      clear q8 o8 gr8 at8 hc8 La own6 s6 m1 m2 hY hYl
      generalize frO (mkO o4 w3.heap.size 2 g8) g8 = o6 at *
      have hRe := T6.rm
      have b9 : Below v8.heap.size v8 v8 := Below.refl _ _
      have hb4 : (F' 4).length ≤ 1000001 := by
        rw [hFB.out.ot 4 (by decide)]
        have h := hF9.out 4
        have := hb 4
        have e : (upd (upd (upd (upd (upd (upd (fun _ => 0) 6 1) 7 1) 8 1) 11 1) 11 2) 9 1) 4 = 0 := rfl
        omega
      have hR6 := hRe.below b9
      have hF6 := (hR6.fl 4 (by decide)).own.own
      have c6 := hR6.cl 4 (by decide)
      have f6 := hR6.fz 4
      have l6 := hR6.lt
      obtain ⟨fa7, fc7, hV⟩ := own_form hF6
      have hVh := hideQ hV
      rw [hV] at c6 hF6
      have hb7 := bel1 (w := v8) (.cells #[.slice (some ⟨g8, 0, none⟩) (SG.length + 2) k8] 29)
      have hF7 := own_bel hF6 hb7
      have s7 : B ≤ (v8.alloc (.cells #[.slice (some ⟨g8, 0, none⟩) (SG.length + 2) k8] 29)).heap.size := by have := hR6.bb; simp; omega
      clear hR6 hV hF6
      go_upto_region 27 with (at_builtin; (refine wpList_append_mine _ rfl _ _ 38 rfl B 29 t29 _ 1 24 Tryz.underlying38 h29 h290 h291 h292 rfl (by decide) (.slice fa7 (F' 4).length fc7) (F' 4).length (cellsF Lr.cs (F' 4)) rfl hF7 ⟨v8.heap.size, 0, none⟩ 1 1 [.slice (some ⟨g8, 0, none⟩) (SG.length + 2) k8] rfl rfl (cells_at (W := v8) rfl _ _) (all_one rfl) (by decide) (by unfold maxLen; omega) (by omega) s7 ?_); intro g7 k7 w7 o7 gr7 at7 _ hc7; have q7 := rm_gw hRe (k := 4) (by decide) (bel_after b9 b9.size hb7) (by rw [hVh.out]; exact gr7) (by rw [hVh.out]; exact at7); have c7 := (cell_heap (j := 4) (q7.ky.block rb hRe.lt (by rw [hRe.ob]; decide))).trans (hRe.cl 4 (by decide)); rw [hVh.out] at c7; have f7 := rm_fz hRe q7 4; have l7 : rb < w7.heap.size := Nat.lt_of_lt_of_le hRe.lt q7.ky.size)
      have hP := hRe.push (r := ⟨g8, SG.length + 2, k8⟩) (by decide) q7 o7 (mk8.mv q7.mv)
      have T7 := T6.call (Ps' := []) hP.1 hP.2 (fun p hp => by cases hp)
      have S7 := hideQ (S6.out.mv' hP.2.mv)
      clear hP q7 o7 gr7 at7 hc7 c7 f7 l7 c6 f6 l6 hF7 hb7 s7 hVh hRe mk8 b9 T6 S6 hb4
      generalize mkO o6 v8.heap.size (10 + 4) g7 = o7 at *
      generalize w7.setCell ⟨rb, 4, none⟩ (.slice (some ⟨g7, 0, none⟩) ((F' 4).length + 1) k7) = w8 at *
      generalize upd V' 4 (.slice (some ⟨g7, 0, none⟩) ((F' 4).length + 1) k7) = V7 at *
      have T8 : TyS o W B rb o7 w8 (upd F' 4 (F' 4 ++ [⟨g8, SG.length + 2, k8⟩])) V7 ((b5, #[.string pn, .slice (some ⟨g1, 0, none⟩) G.length c1, .slice (some ⟨g2, 0, none⟩) C.length c2, .slice (some ⟨g3, 0, none⟩) D.length c3, .slice (some ⟨g4, 0, none⟩) TM.length c4, .slice (some ⟨g5, 0, none⟩) CT.length c5, .slice (some ⟨gv, 0, none⟩) VR.length cv, .slice none 0 0, .int .i64 stt]) :: [(W.heap.size + 1, #[.string ⟨#[]⟩, .slice none 0 0, .slice none 0 0, .slice none 0 0, .slice none 0 0, .slice none 0 0, .slice none 0 0, .slice none 0 0, .int .i64 0]), (W.heap.size, #[.string pn, .slice ga G.length gc, .slice ca C.length cc, .slice da D.length dc, .slice ta TM.length tc, .slice ka CT.length kc, .slice va VR.length vc, .slice sa SG.length sc, .int .i64 stt])]) [(gv, (cellsF Vr.cs VR ++ [.string ⟨#[]⟩, .int .i32 4444, .string ⟨#[]⟩, .int .i32 4444])), (g5, (cellsF txC CT ++ [.string ⟨#[114, 111, 111, 109]⟩, .string ⟨#[114, 111, 111, 109]⟩])), (g4, (cellsF txC TM ++ [.string ⟨#[114, 111, 111, 109]⟩, .string ⟨#[114, 111, 111, 109]⟩])), (g3, (cellsF Dt.cs D ++ [.string ⟨#[]⟩, .bool false, .int .i64 4444, .int .i64 0, .string ⟨#[]⟩, .bool false, .int .i64 4444, .int .i64 0])), (g1, (cellsF Gp.cs G ++ [.string ⟨#[]⟩, .int .i64 0, .int .i64 4444, .int .i64 0, .int .i64 0, .string ⟨#[]⟩, .int .i64 0, .int .i64 4444, .int .i64 0, .int .i64 0])), (g2, (cellsF Cf.cs C ++ [.int .i64 4444, .int .i64 0, .int .i64 0, .int .i64 0, .int .i64 4444, .int .i64 0, .int .i64 0, .int .i64 0]))] := T7.sub (fun q hq => List.mem_cons_of_mem _ hq) (fun p hp => hp)
      clear T7
      have T9 := T8.set hne 7 (by simp) (.slice (some ⟨g8, 0, none⟩) SG.length k8)
      simp only [List.setIfInBounds_toArray, List.set_cons_succ, List.set_cons_zero] at T9
      obtain ⟨_, d1, d2⟩ := id (T8.has (.head _))
      obtain ⟨_, n1, n2⟩ := id (T8.has (.tail _ (.tail _ (.head _))))
      have ks : Ky o7 3 w8 (w8.setCell ⟨b5, 7, none⟩ (.slice (some ⟨g8, 0, none⟩) SG.length k8)) := Ky.set (T8.bx _ List.mem_cons_self).2.1
      have S8 := hideQ (S7.out.mv' (ks.mv (by decide)))
      clear S7 ks T8
      have i1 : (SG.length : Int) ≤ (k8 : Int) := by omega
      have i2 : (0 : Int) ≤ (SG.length : Int) := by omega
      have i3 : SG.length ≤ k8 := by omega
      go_upto_region 28 with fail
      generalize (w8.setCell ⟨b5, 7, none⟩ (.slice (some ⟨g8, 0, none⟩) SG.length k8)) = w9' at *
      clear d1 d2 n1 n2
      have hne2 : ∀ q ∈ ([(b5, #[.string pn, .slice (some ⟨g1, 0, none⟩) G.length c1, .slice (some ⟨g2, 0, none⟩) C.length c2, .slice (some ⟨g3, 0, none⟩) D.length c3, .slice (some ⟨g4, 0, none⟩) TM.length c4, .slice (some ⟨g5, 0, none⟩) CT.length c5, .slice (some ⟨gv, 0, none⟩) VR.length cv, .slice (some ⟨g8, 0, none⟩) SG.length k8, .int .i64 stt]), (W.heap.size, #[.string pn, .slice ga G.length gc, .slice ca C.length cc, .slice da D.length dc, .slice ta TM.length tc, .slice ka CT.length kc, .slice va VR.length vc, .slice sa SG.length sc, .int .i64 stt])] : List (Nat × Array Value)), q.1 ≠ W.heap.size + 1 := by
        intro q hq
        rcases List.mem_cons.1 hq with rfl | hq
        · exact fun e => nb1 e.symm
        · rw [List.mem_singleton.1 hq]; exact Nat.ne_of_lt (Nat.lt_succ_self _)
      have Ta := (T9.sub (Bs' := ((W.heap.size + 1, #[.string ⟨#[]⟩, .slice none 0 0, .slice none 0 0, .slice none 0 0, .slice none 0 0, .slice none 0 0, .slice none 0 0, .slice none 0 0, .int .i64 0]) :: [(b5, #[.string pn, .slice (some ⟨g1, 0, none⟩) G.length c1, .slice (some ⟨g2, 0, none⟩) C.length c2, .slice (some ⟨g3, 0, none⟩) D.length c3, .slice (some ⟨g4, 0, none⟩) TM.length c4, .slice (some ⟨g5, 0, none⟩) CT.length c5, .slice (some ⟨gv, 0, none⟩) VR.length cv, .slice (some ⟨g8, 0, none⟩) SG.length k8, .int .i64 stt]), (W.heap.size, #[.string pn, .slice ga G.length gc, .slice ca C.length cc, .slice da D.length dc, .slice ta TM.length tc, .slice ka CT.length kc, .slice va VR.length vc, .slice sa SG.length sc, .int .i64 stt])])) (Ps' := [(gv, (cellsF Vr.cs VR ++ [.string ⟨#[]⟩, .int .i32 4444, .string ⟨#[]⟩, .int .i32 4444])), (g5, (cellsF txC CT ++ [.string ⟨#[114, 111, 111, 109]⟩, .string ⟨#[114, 111, 111, 109]⟩])), (g4, (cellsF txC TM ++ [.string ⟨#[114, 111, 111, 109]⟩, .string ⟨#[114, 111, 111, 109]⟩])), (g3, (cellsF Dt.cs D ++ [.string ⟨#[]⟩, .bool false, .int .i64 4444, .int .i64 0, .string ⟨#[]⟩, .bool false, .int .i64 4444, .int .i64 0])), (g1, (cellsF Gp.cs G ++ [.string ⟨#[]⟩, .int .i64 0, .int .i64 4444, .int .i64 0, .int .i64 0, .string ⟨#[]⟩, .int .i64 0, .int .i64 4444, .int .i64 0, .int .i64 0])), (g2, (cellsF Cf.cs C ++ [.int .i64 4444, .int .i64 0, .int .i64 0, .int .i64 0, .int .i64 4444, .int .i64 0, .int .i64 0, .int .i64 0]))]) (fun q hq => by
        rcases List.mem_cons.1 hq with rfl | hq
        · exact .tail _ (.head _)
        · rcases List.mem_cons.1 hq with rfl | hq
          · exact .head _
          · rw [List.mem_singleton.1 hq]; exact .tail _ (.tail _ (.head _))) (fun p hp => hp)).setCells hne2 [.string pn, .slice (some ⟨g1, 0, none⟩) G.length c1, .slice (some ⟨g2, 0, none⟩) C.length c2, .slice (some ⟨g3, 0, none⟩) D.length c3, .slice (some ⟨g4, 0, none⟩) TM.length c4, .slice (some ⟨g5, 0, none⟩) CT.length c5, .slice (some ⟨gv, 0, none⟩) VR.length cv, .slice (some ⟨g8, 0, none⟩) SG.length k8, .int .i64 stt] rfl
      obtain ⟨_, d1, d2⟩ := id (T9.has (.head _))
      obtain ⟨_, z1, z2⟩ := id (T9.has (.tail _ (.head _)))
      obtain ⟨_, r1, _⟩ := id (Ta.has (.head _))
      have ks : Ky o7 3 w9' (World.setCells w9' (W.heap.size + 1) 0 [.string pn, .slice (some ⟨g1, 0, none⟩) G.length c1, .slice (some ⟨g2, 0, none⟩) C.length c2, .slice (some ⟨g3, 0, none⟩) D.length c3, .slice (some ⟨g4, 0, none⟩) TM.length c4, .slice (some ⟨g5, 0, none⟩) CT.length c5, .slice (some ⟨gv, 0, none⟩) VR.length cv, .slice (some ⟨g8, 0, none⟩) SG.length k8, .int .i64 stt]) := cells_ky (T9.bx _ (.tail _ (.head _))).2.1 _ _ _
      have S9 := hideQ (S8.out.mv' (ks.mv (by decide)))
      go_wp2_with fail
      (try simp only [Exit.inBlock, Exit.then])
      refine bodyPost_ret (v := .agg #[.string pn, .slice (some ⟨g1, 0, none⟩) G.length c1, .slice (some ⟨g2, 0, none⟩) C.length c2, .slice (some ⟨g3, 0, none⟩) D.length c3, .slice (some ⟨g4, 0, none⟩) TM.length c4, .slice (some ⟨g5, 0, none⟩) CT.length c5, .slice (some ⟨gv, 0, none⟩) VR.length cv, .slice (some ⟨g8, 0, none⟩) SG.length k8, .int .i64 stt]) (w := World.setCells w9' (W.heap.size + 1) 0 [.string pn, .slice (some ⟨g1, 0, none⟩) G.length c1, .slice (some ⟨g2, 0, none⟩) C.length c2, .slice (some ⟨g3, 0, none⟩) D.length c3, .slice (some ⟨g4, 0, none⟩) TM.length c4, .slice (some ⟨g5, 0, none⟩) CT.length c5, .slice (some ⟨gv, 0, none⟩) VR.length cv, .slice (some ⟨g8, 0, none⟩) SG.length k8, .int .i64 stt]) ?_ rfl ?_
      · generalize (World.setCells w9' (W.heap.size + 1) 0 [.string pn, .slice (some ⟨g1, 0, none⟩) G.length c1, .slice (some ⟨g2, 0, none⟩) C.length c2, .slice (some ⟨g3, 0, none⟩) D.length c3, .slice (some ⟨g4, 0, none⟩) TM.length c4, .slice (some ⟨g5, 0, none⟩) CT.length c5, .slice (some ⟨gv, 0, none⟩) VR.length cv, .slice (some ⟨g8, 0, none⟩) SG.length k8, .int .i64 stt]) = XE at *
        simp [results, Tryz.results6, go_sem, r1]
      refine ⟨o7, V7, _, g1, c1, g2, c2, g3, c3, g4, c4, g5, c5, gv, cv, g8, k8, rfl, Ta.rm, Ta.ky, cap1, cap2, cap3, cap4, cap5, capv, Ta.fz, S9.out, ?_, ?_, ?_, ?_⟩
      · have h := hFB.out.l0
        have h2 := hF9.out 0
        have e : (upd (upd (upd (upd (upd (upd (fun _ => 0) 6 1) 7 1) 8 1) 11 1) 11 2) 9 1) 0 = 0 := rfl
        rw [upd_other _ _ (by decide)]
        omega
      · have h2 := hF9.out 6
        have e : (upd (upd (upd (upd (upd (upd (fun _ => 0) 6 1) 7 1) 8 1) 11 1) 11 2) 9 1) 6 = 1 := rfl
        rw [upd_other _ _ (by decide), hFB.out.ot 6 (by decide)]
        omega
      · have h2 := hF9.out 7
        have e : (upd (upd (upd (upd (upd (upd (fun _ => 0) 6 1) 7 1) 8 1) 11 1) 11 2) 9 1) 7 = 1 := rfl
        rw [upd_other _ _ (by decide), hFB.out.ot 7 (by decide)]
        omega
      · intro k hk he
        have h2 := hF9.out k
        have e : (upd (upd (upd (upd (upd (upd (fun _ => 0) 6 1) 7 1) 8 1) 11 1) 11 2) 9 1) k = 0 := by
          rw [upd_other _ _ (by omega), upd_other _ _ (by omega), upd_other _ _ (by omega), upd_other _ _ (by omega), upd_other _ _ (by omega), upd_other _ _ (by omega)]
        rw [upd_other _ _ (by omega), hFB.out.ot k (by omega)]
        rw [e, he] at h2
        exact List.eq_nil_of_length_eq_zero h2
end Go.Proofs.YtnicolaphmffkaaGreatDoor
