import Derived.Test.YtjfieclmagbfbaaGreatDoorCuB
set_option linter.unusedSimpArgs false
set_option linter.unusedVariables false
set_option maxRecDepth 100000
set_option maxHeartbeats 8000000
namespace Go.Proofs.YtjfieclmagbfbaaGreatDoor
open Go.RowKit
theorem set_map {α β : Type} (f : α → β) {L : List α} {p : Nat} {z : α} (h : ∀ x, L[p]? = some x → f z = f x) : (L.set p z).map f = L.map f := by
 rw [List.map_set]
 apply List.ext_getElem?
 intro i
 rw [List.getElem?_set]
 split
 ·rename_i e
  subst e; split
  ·rename_i hl
   rw [List.length_map] at hl; rw [List.getElem?_map, List.getElem?_eq_getElem hl, h _ (List.getElem?_eq_getElem hl)]; rfl
  ·rename_i hl
   rw [List.getElem?_eq_none (by omega)]
 ·rfl
def Ts.bare (x : Ts) (nx : List Tn) : Ts := ⟨x.name, x.id, x.green, [], [], [], nx⟩
def Sv.bare (s : Sv) (na : Option Addr) (nc : Nat) (nx : List Tn) : Sv := ⟨s.x.bare nx, none, 0, none, 0, none, 0, na, nc, []⟩
theorem cellsF_bare (A R : List Sv) (s : Sv) (na : Option Addr) (nc : Nat) (nx : List Tn) :
  (((((cellsF Sv.cs (A ++ s :: R)).set (A.length * 7 + 3) (.slice none 0 0)).set (A.length * 7 + 4) (.slice none 0 0)).set (A.length * 7 + 5) (.slice none 0 0)).set (A.length * 7 + 6) (.slice na nx.length nc)) = cellsF Sv.cs (A ++ s.bare na nc nx :: R) := by
 rw [cellsF_append, cellsF_append]
 have e1 : (cellsF Sv.cs A).length = A.length * 7 := cellsF_len sv_len A
 rw [List.set_append_right _ _ (by omega), e1, show A.length * 7 + 3 - A.length * 7 = 3 by omega]
 rw [List.set_append_right _ _ (by omega), e1, show A.length * 7 + 4 - A.length * 7 = 4 by omega]
 rw [List.set_append_right _ _ (by omega), e1, show A.length * 7 + 5 - A.length * 7 = 5 by omega]
 rw [List.set_append_right _ _ (by omega), e1, show A.length * 7 + 6 - A.length * 7 = 6 by omega]
 simp [cellsF, Sv.cs, Sv.bare, Ts.bare]
theorem set_cut {α : Type} {L : List α} {p : Nat} {s z : α} (h : L[p]? = some s) : L.set p z = L.take p ++ z :: L.drop (p + 1) := by
 obtain ⟨h1, _⟩ := List.getElem?_eq_some_iff.1 h
 rw [List.set_eq_take_append_cons_drop, if_pos h1]
theorem cells_bare {Ls : List Sv} {p : Nat} {s : Sv} (h : Ls[p]? = some s) (na : Option Addr) (nc : Nat) (nx : List Tn) :
  (((((cellsF Sv.cs Ls).set (p * 7 + 3) (.slice none 0 0)).set (p * 7 + 4) (.slice none 0 0)).set (p * 7 + 5) (.slice none 0 0)).set (p * 7 + 6) (.slice na nx.length nc)) = cellsF Sv.cs (Ls.set p (s.bare na nc nx)) := by
 obtain ⟨e, hl⟩ := cut_at9 h
 have := cellsF_bare (Ls.take p) (Ls.drop (p + 1)) s na nc nx
 rw [hl, ← e] at this
 rw [set_cut h]
 exact this
structure UT (B g sd : Nat) (W : World) (Os : List Ow) (Ls : List Sv) : Prop where
 own : W.ownsRow B 51 7 (.slice (some ⟨g, 0, none⟩) Ls.length sd) Ls.length (cellsF Sv.cs Ls)
 fl : ∀ y ∈ Os, W.ownsRow B y.e y.s y.v y.n y.xs ∧ ∀ q, y.v.ownBlock = some q → q ≠ g
 st : ∀ (i : Nat) (s : Sv), Ls[i]? = some s → Sts (fun b => b ≠ g) W (.slice s.ea s.x.enter.length s.ec) s.x.enter ∧ Sts (fun b => b ≠ g) W (.slice s.da s.x.during.length s.dc) s.x.during ∧ Sts (fun b => b ≠ g) W (.slice s.la s.x.leave.length s.lc) s.x.leave ∧ Tns (fun b => b ≠ g) W (.slice s.na s.x.nexts.length s.nc) s.x.nexts
theorem StI.tns {o : Nat → Nat} {B t g : Nat} {w : World} {s : Sv} (h : StI o B w t s) (hn : s.x.nexts.length ≤ 4398046511000) (hz : ∀ b, o b = 0 → b ≠ g) (ht : ∀ b, o b = t → b ≠ g) : Tns (fun b => b ≠ g) w (.slice s.na s.x.nexts.length s.nc) s.x.nexts := by
 have hn' := h.n.own
 have hx : s.xs.length = s.x.nexts.length * 2 := h.r.1
 rcases h.n.own.2 with ⟨h0, h1⟩ | ⟨q, cap, cur, h1, h2, h3, h4⟩
 ·rw [h0]; exact .inl ⟨rfl, List.length_eq_zero_iff.1 h1⟩
 ·have tg := h.n.tag q (by rw [h1]; rfl)
  injection h1 with e1 _ e2
  subst e2; rw [e1] at hn' ⊢; refine .inr ⟨⟨q, 0, none⟩, s.nc, rfl, h4.1, hn, .inr ⟨rfl, ht _ tg, (Array.getElem?_eq_some_iff.1 h3).1, fun i hi => ?_⟩⟩; obtain ⟨cs, h1, h2, h3⟩ := h.r.2 i hi; refine ⟨cs, h1, tnr_mv h2 (Mv.weak fun b _ hb => hz b hb), fun j u hu => ?_⟩; have hj : j < 2 := by have := (List.getElem?_eq_some_iff.1 hu).1; rw [h1] at this; exact this
  show w.cell? ⟨q, 0 + i * 2 + j, none⟩ = some u; rw [Nat.zero_add]; refine own_reads hn' rfl _ u ?_; rw [h3 j hj]; exact hu
theorem CtE.ut {w W : World} {o : Nat → Nat} {Os : List Ow} {Ls : List Sv} {g sd : Nat} (h : CtE w o W Os Ls (.slice (some ⟨g, 0, none⟩) Ls.length sd)) (hn : ∀ s ∈ Ls, s.x.nexts.length ≤ 4398046511000) : UT w.heap.size g sd W Os Ls := by
 have tg : o g = 1 := h.own.tag g rfl
 have hz : ∀ b, o b = 0 → b ≠ g := fun b hb e => by rw [e, tg] at hb; cases hb
 refine ⟨h.own.own, fun y hy => ⟨(h.fl y hy).own, fun q hq => hz q ((h.fl y hy).tag q hq)⟩, fun i s hs => ?_⟩
 have hd := h.st i s hs
 have mv : Mv (Zo o) W (fun b => b ≠ g) W := Mv.weak fun b _ hb => hz b hb
 exact ⟨hd.e.mv mv, hd.d.mv mv, hd.l.mv mv, hd.tns (hn s (List.mem_of_getElem? hs)) hz (fun b hb e => by rw [e, tg] at hb; omega)⟩
theorem Tns.mv {S S' : Nat → Prop} {w w' : World} {v : Value} {L : List Tn} (h : Tns S w v L) (hm : Mv S w S' w') : Tns S' w' v L := Rows.mv h hm (fun _ _ h => tnr_mv h hm)
theorem UT.bare {B g sd p : Nat} {W W' : World} {Os : List Ow} {Ls : List Sv} {s : Sv} {na : Option Addr} {nc : Nat} {nx : List Tn} (h : UT B g sd W Os Ls) (hs : Ls[p]? = some s) (ho : Only (fun q => q = g) W W')
  (hw : W'.ownsRow B 51 7 (.slice (some ⟨g, 0, none⟩) Ls.length sd) Ls.length (((((cellsF Sv.cs Ls).set (p * 7 + 3) (.slice none 0 0)).set (p * 7 + 4) (.slice none 0 0)).set (p * 7 + 5) (.slice none 0 0)).set (p * 7 + 6) (.slice na nx.length nc)))
  (hT : Tns (fun b => b ≠ g) W' (.slice na nx.length nc) nx) : UT B g sd W' Os (Ls.set p (s.bare na nc nx)) := by
 rw [cells_bare hs] at hw
 have mv : Mv (fun b => b ≠ g) W (fun b => b ≠ g) W' := ⟨ho.size, fun k hk hs => ⟨ho.block k hk hs, hs⟩⟩
 refine ⟨by rw [List.length_set]; exact hw, fun y hy => ?_, fun i z hz => ?_⟩
 ·obtain ⟨h1, h2⟩ := h.fl y hy
  exact ⟨own_keepH h1 (fun q hq => ho.block q (own_lt h1 q hq).2 (h2 q hq)), h2⟩
 ·rw [List.getElem?_set] at hz
  split at hz
  ·split at hz
   ·injection hz with hz
    subst hz; exact ⟨.inl ⟨rfl, rfl⟩, .inl ⟨rfl, rfl⟩, .inl ⟨rfl, rfl⟩, hT⟩
   ·cases hz
  ·obtain ⟨h1, h2, h3, h4⟩ := h.st i z hz
   exact ⟨h1.mv mv, h2.mv mv, h3.mv mv, h4.mv mv⟩
theorem UT.tpl {B g sd : Nat} {W : World} {G : List Gp} {C : List Cf} {D : List Dt} {TM CT : List ByteArray} {VR : List Vr} {SG T : List Ts} {pn : ByteArray} {ga ca da ta ka va sa a1 a2 a3 a4 a5 a6 : Option Addr} {gc cc dc tc kc vc sc c1 c2 c3 c4 c5 c6 : Nat} {stt : Int} {Ls : List Sv}
  (h : UT B g sd W [⟨117, 2, .slice a6 VR.length c6, VR.length, cellsF Vr.cs VR⟩, ⟨9, 1, .slice a5 CT.length c5, CT.length, cellsF txC CT⟩, ⟨9, 1, .slice a4 TM.length c4, TM.length, cellsF txC TM⟩, ⟨89, 4, .slice a3 D.length c3, D.length, cellsF Dt.cs D⟩, ⟨75, 4, .slice a2 C.length c2, C.length, cellsF Cf.cs C⟩, ⟨73, 5, .slice a1 G.length c1, G.length, cellsF Gp.cs G⟩] Ls)
  (hP : TPl W G C D TM CT VR SG pn ga ca da ta ka va sa gc cc dc tc kc vc sc stt) (hm : Ls.map (·.x) = T) (hl : T.length = SG.length) (hne : T ≠ []) (hnm : T.map (·.name) = SG.map (·.name)) (hr : ∀ s ∈ T, s.ok) : TPl W G C D TM CT VR T pn a1 a2 a3 a4 a5 a6 (some ⟨g, 0, none⟩) c1 c2 c3 c4 c5 c6 sd stt := by
 have hlT : Ls.length = T.length := by rw [← hm, List.length_map]
 have f := fun y hy => (h.fl y hy).1
 refine ⟨fl_ofK gp_len (f ⟨73, 5, .slice a1 G.length c1, G.length, cellsF Gp.cs G⟩ (by simp)), fl_ofK cf_len (f ⟨75, 4, .slice a2 C.length c2, C.length, cellsF Cf.cs C⟩ (by simp)), fl_ofK dtlen (f ⟨89, 4, .slice a3 D.length c3, D.length, cellsF Dt.cs D⟩ (by simp)), fl_ofK tmlen (f ⟨9, 1, .slice a4 TM.length c4, TM.length, cellsF txC TM⟩ (by simp)), fl_ofK tmlen (f ⟨9, 1, .slice a5 CT.length c5, CT.length, cellsF txC CT⟩ (by simp)), fl_ofK vrlen (f ⟨117, 2, .slice a6 VR.length c6, VR.length, cellsF Vr.cs VR⟩ (by simp)), ?_, hP.lG, hP.lF, hP.lD, hP.lT, hP.lC, hP.lV, by rw [hl]; exact hP.lS, ?_, hP.hp, hr⟩
 ·have hn0 : 0 < Ls.length := by
   rw [hlT]; exact List.length_pos_iff.2 hne
  have hc := own_cap h.own hn0; refine .inr ⟨⟨g, 0, none⟩, sd, rfl, by omega, by rw [hl]; exact Rows.le hP.hS, .inr ⟨rfl, trivial, (own_lt h.own g rfl).2, fun i hi => ?_⟩⟩; have hi' : i < Ls.length := by omega
  have hx : T[i] = Ls[i].x := by simp only [← hm, List.getElem_map]
  obtain ⟨h1, h2, h3, h4⟩ := h.st i _ (List.getElem?_eq_getElem hi'); have mvw : Mv (fun b => b ≠ g) W (fun _ => True) W := Mv.weak fun _ _ _ => trivial
  rw [hx]; refine ⟨Ls[i].cs, rfl, ⟨_, _, _, _, rfl, h1.mv mvw, h2.mv mvw, h3.mv mvw, h4.mv mvw⟩, fun j u hu => ?_⟩; have hj : j < 7 := (List.getElem?_eq_some_iff.1 hu).1; show W.cell? ⟨g, 0 + i * 7 + j, none⟩ = some u; rw [Nat.zero_add]; refine own_reads h.own rfl _ u ?_; rw [cellsF_get sv_len Ls i j hi' hj]; exact hu
 ·have := hP.hm
  unfold nmsL at this ⊢; rw [hnm]; exact this
open Go.RowKit Go.Maps Go.WideMaps
theorem row47 : 47 < Tryz.prog.types.size := of_decide_eq_true (by kernel_rfl)
theorem size47 : (Tryz.prog.types[47]'row47).size = 1 := by kernel_rfl
def measV (G : List Gp) (C : List Cf) (F T A : Nat) : Int × Int := if gridB G C = true then (if ((clashF G.length F C).2.2 || (clashF G.length T C).2.2) = true then (0, 60) else (thF F T (fun i => wA C A (i : Int) G 0 0) G 0 0, 0)) else (0, 70)
theorem measure_any (G : List Gp) (C : List Cf) (vg vc : Value) (F T A : Nat) (w : World) (hF : F < 18446744073709551616) (hT : T < 18446744073709551616) (hA : A < 18446744073709551616) (h1 : Fl 5 Gp.cs w vg G) (h2 : Fl 4 Cf.cs w vc C) (lG : G.length ≤ 2932031007317) (lC : C.length ≤ 4398046511000) (ok : ∀ (i : Nat) (h : i < C.length), C[i].ok) :
  Calls Tryz.prog 70 #[.agg #[vg, vc], .int .u64 (F : Int), .int .u64 (T : Int), .int .u64 (A : Int)] w fun e w' => e = .returned (.tuple #[.int .i64 (measV G C F T A).1, .int .i64 (measV G C F T A).2]) ∧ Below w.heap.size w w' := by
 have hGr := fun (W : World) (hW : Below w.heap.size w W) => grid_any G C vg vc W (h1.below hW) (h2.below hW) lG lC
 obtain ⟨va, cg, rfl, -⟩ := h1.any
 have hC1 := fun (W : World) (hW : Below w.heap.size w W) => clash_any G.length F C va cg vc W hF lG (h2.below hW) lC ok
 have hC2 := fun (W : World) (hW : Below w.heap.size w W) => clash_any G.length T C va cg vc W hT lG (h2.below hW) lC ok
 have hSt := fun (W : World) (hW : Below w.heap.size w W) => streetOf_any C (.slice va G.length cg) vc W (h2.below hW) lC ok ⟨_, _, _, rfl⟩
 have hWt := fun (gr : gridB G C = true) (mb : Nat) (W : World) (hW : Below w.heap.size w W) hm hmb => waitsFor_any G C (.slice va G.length cg) mb A W hA (h1.below hW) lG lC gr ok hm hmb
 have hTh := fun (gr : gridB G C = true) (vm : Value) (aw : Option Addr) (cw : Nat) (W : World) (hW : Below w.heap.size w W) hws => through_any G (.slice va G.length cg) vm F T (fun i => wA C A (i : Int) G 0 0) aw cw W hF hT (h1.below hW) lG (fun k hk => (grid_min gr k hk).2.2) hws
 clear h1 h2 ok
 generalize eV : measV G C F T A = M
 unfold measV at eV
 cases eg : gridB G C with
 | false =>
   rw [eg] at hGr eV; simp at eV; subst eV; clear hC1 hC2 hSt hWt hTh eg; go_enter Tryz.func70, Tryz.ntmps70
   go_wp2_with (go_at_call 53; (with_reducible refine Calls.mono (hGr _ (by exact belN1)) ?_); rintro e w1 ⟨rfl, hb1⟩; have hbM := bel_after belN1 (by simp) hb1; clear hb1)
   exact bodyPost_ret (v := .tuple #[.int .i64 0, .int .i64 70]) (by simp [results, Tryz.results70, go_sem]) rfl ⟨rfl, hbM⟩
 | true =>
   replace hWt := hWt eg
   replace hTh := hTh eg
   rw [eg] at hGr eV; clear eg; generalize clashF G.length F C = X1 at *; generalize clashF G.length T C = X2 at *; obtain ⟨p1, p2, p3⟩ := X1; obtain ⟨q1, q2, q3⟩ := X2; simp only [if_true] at *; generalize thF F T (fun i => wA C A (i : Int) G 0 0) G 0 0 = Z at *; go_enter Tryz.func70, Tryz.ntmps70
   go_wp2_with (go_at_call 53; (with_reducible refine Calls.mono (hGr _ (by exact belN1)) ?_); rintro e w1 ⟨rfl, hb1⟩; have B1 : Has w1 w.heap.size #[.slice va G.length cg, vc] := (Has.new w _ _ rfl).below hb1; have hbM := bel_after belN1 (by simp) hb1; clear hb1)
   have x0 : ∀ W : World, (Instr.index 177 (.agg #[.int .u64 (F : Int), .int .u64 (T : Int)]) (.int .i64 0)).run Tryz.prog W = .ok (.int .u64 (F : Int)) W := fun W => by first | rfl | (simp [Instr.index, go_sem, Tryz.underlying177, size47]; done) | (simp [Instr.index, go_sem]; rfl)
   have x1 : ∀ W : World, (Instr.index 177 (.agg #[.int .u64 (F : Int), .int .u64 (T : Int)]) (.int .i64 1)).run Tryz.prog W = .ok (.int .u64 (T : Int)) W := fun W => by first | rfl | (simp [Instr.index, go_sem, Tryz.underlying177, size47]; done) | (simp [Instr.index, go_sem]; rfl)
   go_loopw [22] (fun t wr => ∃ k : Nat, k ≤ 2 ∧ t = .int .i64 (k : Int) ∧ Hid (1 ≤ k → p3 = false) ∧ Hid (2 ≤ k → q3 = false) ∧ Hid (Has wr w.heap.size #[.slice va G.length cg, vc]) ∧ Hid (Below w.heap.size w wr)) (fun t _ => 2 - (intOf t).toNat)
   case atStart => exact ⟨0, by omega, rfl, fun h => absurd h (by omega), fun h => absurd h (by omega), B1, hbM⟩
   case round =>
    clear B1 hbM hGr; obtain ⟨k, hk, rfl, hp, hq, B, hb⟩ := hrel; obtain ⟨_, b1, _⟩ := id B.out; obtain rfl | rfl | rfl : k = 0 ∨ k = 1 ∨ k = 2 := by omega
    ·cases p3 with
     | true =>
       simp at eV; subst eV
       go_wp2_with (go_at_call 33; (with_reducible refine Calls.mono (hC1 _ hb.out) ?_); rintro e w2 ⟨rfl, hb2⟩; have hbK := bel_after hb.out hb.out.size hb2; clear hb2)
       exact bodyPost_ret (v := .tuple #[.int .i64 0, .int .i64 60]) (by simp [results, Tryz.results70, go_sem]) rfl ⟨rfl, hbK⟩
     | false =>
       go_wp2_with (go_at_call 33; (with_reducible refine Calls.mono (hC1 _ hb.out) ?_); rintro e w2 ⟨rfl, hb2⟩; have B2 := B.out.below hb2; have hbK := bel_after hb.out hb.out.size hb2; clear hb2)
       go_roundw
       case rel => exact ⟨1, by omega, by go_num, fun _ => by first | rfl | trivial, fun h => absurd h (by omega), B2, hbK⟩
       case measure => simp [intOf]
    ·have hp' := hp.out (by omega)
     subst hp'
     cases q3 with
     | true =>
       simp at eV; subst eV
       go_wp2_with (go_at_call 33; (with_reducible refine Calls.mono (hC2 _ hb.out) ?_); rintro e w2 ⟨rfl, hb2⟩; have hbK := bel_after hb.out hb.out.size hb2; clear hb2)
       exact bodyPost_ret (v := .tuple #[.int .i64 0, .int .i64 60]) (by simp [results, Tryz.results70, go_sem]) rfl ⟨rfl, hbK⟩
     | false =>
       go_wp2_with (go_at_call 33; (with_reducible refine Calls.mono (hC2 _ hb.out) ?_); rintro e w2 ⟨rfl, hb2⟩; have B2 := B.out.below hb2; have hbK := bel_after hb.out hb.out.size hb2; clear hb2)
       go_roundw
       case rel => exact ⟨2, by omega, by go_num, fun _ => by first | rfl | trivial, fun _ => by first | rfl | trivial, B2, hbK⟩
       case measure => simp [intOf]
    ·have hp' := hp.out (by omega)
     have hq' := hq.out (by omega); subst hp' hq'; simp at eV; subst eV
     go_wp2_with (go_at_call 59; (with_reducible refine Calls.mono (hSt _ hb.out) ?_); rintro e w2 ⟨⟨mb, rfl, hm, hm1, hm2⟩, hb2⟩; have hbK := bel_after hb.out hb.out.size hb2; clear hb2)
     have K0 : Has (w2.alloc (.cells #[.slice va G.length cg, .map (some mb)] 79)) w2.heap.size #[.slice va G.length cg, .map (some mb)] := Has.new _ _ _ rfl; have hm3 := (hm.alloc (.cells #[.slice va G.length cg, .map (some mb)] 79)).drew; have hbL : Below w.heap.size w (w2.alloc (.cells #[.slice va G.length cg, .map (some mb)] 79)) := hbK.alloc hbK.size _; have z3 : mb < (w2.alloc (.cells #[.slice va G.length cg, .map (some mb)] 79)).heap.size := by simp; omega
     generalize (w2.alloc (.cells #[.slice va G.length cg, .map (some mb)] 79)) = W3 at *; have K0d := K0.drew; have hbLd := hbL.drew
     go_region_held3 (fun w' => w'.cell? ⟨w2.heap.size, 0, none⟩ = some (.slice va G.length cg) ∧ w'.cell? ⟨w2.heap.size, 1, none⟩ = some (.map (some mb))) (first | with_reducible exact has2b K0d | with_reducible exact has2b K4 | with_reducible exact has2b K5 | with_reducible exact has2b K0) (first
      | (go_at_call 61; (refine Calls.mono (hWt mb _ hbLd hm3 (by exact z3)) ?_); rintro e w4 ⟨⟨aw, cw, rfl, hws⟩, hb4⟩; have K4 := K0d.below hb4; have hbN := bel_after hbLd hbLd.size hb4; clear hb4)
      | (go_at_call 71; (with_reducible refine Calls.mono (hTh _ aw cw _ hbN (hws.imp id (fun ⟨gw, h1, h2, h3⟩ => ⟨gw, h1, h2, h3⟩))) ?_); rintro e w5 ⟨rfl, hb5⟩; have K5 := K4.below hb5; have hbO := bel_after hbN hbN.size hb5; clear hb5))
     go_wp2; exact bodyPost_ret (v := .tuple #[.int .i64 Z, .int .i64 0]) (by simp [results, Tryz.results70, go_sem]) rfl ⟨rfl, hbO⟩
open Go.RowKit
theorem meas_span (G : List Gp) (C : List Cf) (F T A : Nat) (all : Bool) (h : gridB G C = true → ∀ k, k < G.length → hasN A (k : Int) = (all || loses F T k)) : measV G C F T A = spanV G C F T all := by
 unfold measV spanV
 cases eg : gridB G C with
 | false => rfl
 | true =>
   have hw : ∀ k, k < G.length → wA C A (k : Int) G 0 0 = wF C F T all (k : Int) G 0 0 := fun k hk => (wF_wA C F T A all (k : Int) G 0 0 (fun j _ hj => h eg j (by omega))).symm
   have e := thF_mvF (ws := fun i => wA C A (i : Int) G 0 0) eg hw (fun k hk => (wA_max C A (k : Int) G 0 0).1) G.length 0 0 (by omega) (by omega); simp only [List.drop_zero] at e; rw [e]
theorem spanS_any (G : List Gp) (C : List Cf) (vg vc : Value) (F T : Nat) (w : World) (hF : F < 18446744073709551616) (hT : T < 18446744073709551616) (h1 : Fl 5 Gp.cs w vg G) (h2 : Fl 4 Cf.cs w vc C) (lG : G.length ≤ 2932031007317) (lC : C.length ≤ 4398046511000) (ok : ∀ (i : Nat) (h : i < C.length), C[i].ok) :
  Calls Tryz.prog 34 #[.agg #[vg, vc], .int .u64 (F : Int), .int .u64 (T : Int)] w fun e w' => e = .returned (.tuple #[.int .i64 (spanV G C F T false).1, .int .i64 (spanV G C F T false).2]) ∧ Below w.heap.size w w' := by
 have hM : bits .andNot .u64 (F : Int) (T : Int) = ((F &&& (18446744073709551615 - T) : Nat) : Int) := u64_andNot_nat F T hF hT
 have hMl : F &&& (18446744073709551615 - T) < 18446744073709551616 := Nat.lt_of_le_of_lt Nat.and_le_left hF
 have eS := meas_span G C F T (F &&& (18446744073709551615 - T)) false (fun _ k _ => by rw [hasN_andNot F T (k : Int) hT]; rfl)
 have hMe := fun (W : World) (hW : Below w.heap.size w W) => measure_any G C vg vc F T (F &&& (18446744073709551615 - T)) W hF hT hMl (h1.below hW) (h2.below hW) lG lC ok
 rw [eS] at hMe
 generalize F &&& (18446744073709551615 - T) = D at *
 generalize spanV G C F T false = S at *
 clear eS h1 h2 ok
 go_enter Tryz.func34, Tryz.ntmps34
 go_wp2_with (go_at_call 70; (with_reducible refine Calls.mono (hMe _ (by exact belN1)) ?_); rintro e w1 ⟨rfl, hb1⟩; have hbM := bel_after belN1 (by simp) hb1; clear hb1)
 exact bodyPost_ret (v := .tuple #[.int .i64 S.1, .int .i64 S.2]) (by simp [results, Tryz.results34, go_sem]) rfl ⟨rfl, hbM⟩
theorem longestS_any (G : List Gp) (C : List Cf) (vg vc : Value) (F T : Nat) (w : World) (hF : F < 18446744073709551616) (hT : T < 18446744073709551616) (h1 : Fl 5 Gp.cs w vg G) (h2 : Fl 4 Cf.cs w vc C) (lG : G.length ≤ 2932031007317) (lC : C.length ≤ 4398046511000) (ok : ∀ (i : Nat) (h : i < C.length), C[i].ok) :
  Calls Tryz.prog 35 #[.agg #[vg, vc], .int .u64 (F : Int), .int .u64 (T : Int)] w fun e w' => e = .returned (.tuple #[.int .i64 (spanV G C F T true).1, .int .i64 (spanV G C F T true).2]) ∧ Below w.heap.size w w' := by
 have eS := meas_span G C F T (2 ^ min G.length 64 - 1) true (fun gr k hk => by
  have h64 : G.length ≤ 64 := by simp [gridB] at gr; exact gr.1
  have e : min G.length 64 = G.length := by omega
  simp only [hasN, Nat.testBit_two_pow_sub_one, Bool.true_or, e]; simp; omega)
 have hMe := fun (W : World) (hW : Below w.heap.size w W) => measure_any G C vg vc F T (2 ^ min G.length 64 - 1) W hF hT (allOf_lt _) (h1.below hW) (h2.below hW) lG lC ok
 rw [eS] at hMe
 obtain ⟨va, cg, rfl, -⟩ := h1.any
 have hAl := fun (W : World) => allOf_any G.length va cg W lG
 generalize 2 ^ min G.length 64 - 1 = D at *
 generalize spanV G C F T true = S at *
 clear eS h1 h2 ok
 go_enter Tryz.func35, Tryz.ntmps35
 go_wp2
 have K0 : Has (w.alloc (.cells #[.slice va G.length cg, vc] 25)) w.heap.size #[.slice va G.length cg, vc] := Has.new _ _ _ rfl
 have hb0 : Below w.heap.size w (w.alloc (.cells #[.slice va G.length cg, vc] 25)) := belN1
 generalize (w.alloc (.cells #[.slice va G.length cg, vc] 25)) = W0 at *
 have hbd := hb0.drew
 go_region_held3 (fun w' => w'.cell? ⟨w.heap.size, 0, none⟩ = some (.slice va G.length cg) ∧ w'.cell? ⟨w.heap.size, 1, none⟩ = some vc) (first | with_reducible exact has2b K0.drew | with_reducible exact has2b K1 | with_reducible exact has2b K0) (first
  | (go_at_call 62; (with_reducible refine Calls.mono (hAl _) ?_); rintro e w1 ⟨rfl, rfl⟩)
  | (go_at_call 70; (with_reducible refine Calls.mono (hMe _ hbd) ?_); rintro e w2 ⟨rfl, hb2⟩; have K1 := K0.drew.below hb2; have hbM := bel_after hbd hbd.size hb2; clear hb2))
 go_wp2
 exact bodyPost_ret (v := .tuple #[.int .i64 S.1, .int .i64 S.2]) (by simp [results, Tryz.results35, go_sem]) rfl ⟨rfl, hbM⟩
theorem holdS_any (G : List Gp) (C : List Cf) (vg vc : Value) (F T : Nat) (w : World) (hF : F < 18446744073709551616) (hT : T < 18446744073709551616) (h1 : Fl 5 Gp.cs w vg G) (h2 : Fl 4 Cf.cs w vc C) (lG : G.length ≤ 2932031007317) (lC : C.length ≤ 4398046511000) :
  Calls Tryz.prog 36 #[.agg #[vg, vc], .int .u64 (F : Int), .int .u64 (T : Int)] w fun e w' => e = .returned (.tuple #[.int .i64 (holdV G C F T).1, .int .i64 (holdV G C F T).2]) ∧ Below w.heap.size w w' := by
 have hGr := fun (W : World) (hW : Below w.heap.size w W) => grid_any G C vg vc W (h1.below hW) (h2.below hW) lG lC
 obtain ⟨va, cg, rfl, kG⟩ := h1.any
 clear h1 h2
 have hM : bits .andNot .u64 (F : Int) (T : Int) = ((F &&& (18446744073709551615 - T) : Nat) : Int) := u64_andNot_nat F T hF hT
 have hMl : F &&& (18446744073709551615 - T) < 18446744073709551616 := Nat.lt_of_le_of_lt Nat.and_le_left hF
 have hN := fun g => hasN_andNot F T g hT
 generalize F &&& (18446744073709551615 - T) = D at *
 cases eg : gridB G C with
 | false =>
   have eV : holdV G C F T = (0, 70) := by simp [holdV, eg]
   rw [eg] at hGr; rw [eV]; clear eV eg; go_enter Tryz.func36, Tryz.ntmps36
   go_wp2_with (go_at_call 53; (with_reducible refine Calls.mono (hGr _ (by exact belN1)) ?_); rintro e w1 ⟨rfl, hb1⟩; have hbM := bel_after belN1 (by simp) hb1; clear hb1)
   exact bodyPost_ret (v := .tuple #[.int .i64 0, .int .i64 70]) (by simp [results, Tryz.results36, go_sem]) rfl ⟨rfl, hbM⟩
 | true =>
   have mins := fun k hk => grid_min eg k hk
   generalize hA : (holdV G C F T).1 = A; have eV : holdV G C F T = (A, 0) := by rw [← hA]; simp [holdV, eg]
   have hA0 : holdF F T (G.drop 0) 0 0 = A := by rw [← hA]; simp [holdV, eg]
   rw [eg] at hGr; have eV2 : (holdV G C F T).2 = 0 := by rw [eV]
   rw [eV2]; clear hA eV eg eV2; go_enter Tryz.func36, Tryz.ntmps36
   go_wp2_with (go_at_call 53; (with_reducible refine Calls.mono (hGr _ (by exact belN1)) ?_); rintro e w1 ⟨rfl, hb1⟩; have B1 : Has w1 w.heap.size #[.slice va G.length cg, vc] := (Has.new w _ _ rfl).below hb1; have hbM := bel_after belN1 (by simp) hb1; obtain ⟨_, y1, _⟩ := id B1; clear hb1)
   go_loopw [8, 17] (fun tn tk wr => ∃ (k : Nat) (n : Int), k ≤ G.length ∧ tk = .int .i64 (k : Int) ∧ tn = .int .i64 n ∧ Hid (holdF F T (G.drop k) k n = A) ∧ Hid (Has wr w.heap.size #[.slice va G.length cg, vc]) ∧ Hid (Below w.heap.size w wr)) (fun _ tk _ => G.length - (intOf tk).toNat)
   case atStart => exact ⟨0, 0, by omega, rfl, rfl, hA0, B1, hbM⟩
   case round =>
    clear B1 hbM y1 hA0 hGr; obtain ⟨k, n, hkl, rfl, rfl, hs, B, hb⟩ := hrel; obtain ⟨_, b1, _⟩ := id B.out
    by_cases hlt : k < G.length
    ·obtain ⟨g, o, rfl, hg, P⟩ := kG.resolve_left (by intro e; rw [e] at hlt; simp at hlt)
     have p0 := (hb.out.cell (p := ⟨g, _, none⟩) hg).trans (P k hlt 0 _ rfl); have p1 := (hb.out.cell (p := ⟨g, _, none⟩) hg).trans (P k hlt 1 _ rfl); have p2 := (hb.out.cell (p := ⟨g, _, none⟩) hg).trans (P k hlt 2 _ rfl); have p3 := (hb.out.cell (p := ⟨g, _, none⟩) hg).trans (P k hlt 3 _ rfl); have p4 := (hb.out.cell (p := ⟨g, _, none⟩) hg).trans (P k hlt 4 _ rfl); simp only [Nat.add_zero] at p0; have hs' := hs.out; rw [holdF_step F T G k n hlt] at hs'; have mn := mins k hlt; have t1 : (k : Int) < (G.length : Int) := by omega
     have t0 : (0 : Int) ≤ (k : Int) := by omega
     have t2 : k + 1 ≤ G.length := hlt; clear P kG hs mins; generalize G[k].name = x0 at *; generalize G[k].sort = x1 at *; generalize G[k].min = x2 at *; generalize G[k].amber = x3 at *; generalize G[k].lead = x4 at *; have wm : IntKind.i64.wrap (x2 - 1) = x2 - 1 := wrap64 _ (by omega); clear mn; have hbN : Below w.heap.size w (wr.alloc (.cells #[.string x0, .int .i64 x1, .int .i64 x2, .int .i64 x3, .int .i64 x4] 73)) := hb.out.alloc hb.out.size _; have BN : Has (wr.alloc (.cells #[.string x0, .int .i64 x1, .int .i64 x2, .int .i64 x3, .int .i64 x4] 73)) w.heap.size #[.slice (some ⟨g, o, none⟩) G.length cg, vc] := B.out.alloc (.cells #[.string x0, .int .i64 x1, .int .i64 x2, .int .i64 x3, .int .i64 x4] 73); have hH := fun (W : World) => hasS_any D (k : Int) W hMl (by omega)
     have eh : hasN D (k : Int) = loses F T k := hN (k : Int); rw [eh] at hH; clear eh
     cases el : loses F T k with
     | true =>
       rw [el] at hH; have hs2 : Hid (holdF F T (G.drop (k + 1)) (k + 1) (max n (x2 - 1)) = A) := by show _ = _; rw [← hs', el, ← mxI]; simp
       clear hs' el
       go_wp2_with (go_at_call 65; (with_reducible refine Calls.mono (hH _) ?_); rintro e w2 ⟨rfl, rfl⟩)
       go_roundw
       case rel => exact ⟨k + 1, _, by omega, by go_num, rfl, hs2, BN, hbN⟩
       case measure => simp [intOf]; omega
     | false =>
       rw [el] at hH; have hs2 : Hid (holdF F T (G.drop (k + 1)) (k + 1) (n) = A) := by show _ = _; rw [← hs', el]; simp
       clear hs' el
       go_wp2_with (go_at_call 65; (with_reducible refine Calls.mono (hH _) ?_); rintro e w2 ⟨rfl, rfl⟩)
       go_roundw
       case rel => exact ⟨k + 1, _, by omega, by go_num, rfl, hs2, BN, hbN⟩
       case measure => simp [intOf]; omega
    ·have t1 : ¬ (k : Int) < (G.length : Int) := by omega
     have hA' : n = A := by rw [← hs.out]; exact (holdF_end F T G k n (by omega)).symm
     subst hA'; clear hs kG mins; go_wp2; exact bodyPost_ret (v := .tuple #[.int .i64 n, .int .i64 0]) (by simp [results, Tryz.results36, go_sem]) rfl ⟨rfl, hb.out⟩
end Go.Proofs.YtjfieclmagbfbaaGreatDoor
