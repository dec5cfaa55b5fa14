import Derived.Test.YtjfieclmagbfbaaGreatDoorJBnO
import Derived.Test.YtjfieclmagbfbaaGreatDoorRows
import Derived.ProofKit
import Derived.LaidMore
import Derived.OpenShut
import Derived.Stop.Joined
import Derived.Stop.LaidErr
import Derived.Lib.LaidTab
set_option linter.unusedSimpArgs false
set_option linter.unusedVariables false
set_option maxRecDepth 100000
set_option maxHeartbeats 8000000
namespace Go.Proofs.YtjfieclmagbfbaaGreatDoor
open Go.RowKit
theorem RI.uniq {n st : Nat} {N : Nat → List Nat} {S T : List Bool} (h : RI n st N S []) (k : RI n st N T []) : S = T :=
 h.eq k.len k.beg k.le (fun i hi => (k.cl i hi).elim (fun e => by cases e) id)
theorem finds_law (G : List Gp) (C : List Cf) (D : List Dt) (TM CT : List ByteArray) (VR : List Vr) (SG : List Ts) (pn : ByteArray) (ga ca da ta ka va sa : Option Addr) (gc cc dc tc kc vc sc : Nat) (stt : Int) (w : World) (hP : TPl w G C D TM CT VR SG pn ga ca da ta ka va sa gc cc dc tc kc vc sc stt) (tb : Tb w) (nt : Ndt w) (cok : ∀ (i : Nat) (h : i < C.length), C[i].ok) (hgr : ∀ s ∈ SG, 0 ≤ s.green ∧ s.green < 18446744073709551616) (lG : G.length ≤ 2932031007317) (lF : C.length ≤ 4398046511000) (lD : D.length ≤ 3518437208780) (lT : TM.length ≤ 8796093022100) (lC : CT.length ≤ 8796093022100) (lV : VR.length ≤ 5864062014700) (lS : SG.length ≤ 1099511627744)
  (k9 : ∀ X : World, Below w.heap.size w X → Calls Tryz.prog 9 #[(.agg #[.string pn, .slice ga G.length gc, .slice ca C.length cc, .slice da D.length dc, .slice ta TM.length tc, .slice ka CT.length kc, .slice va VR.length vc, .slice sa SG.length sc, .int .i64 stt])] X fun e w' => e = .returned (.bool (sdB G C D TM CT VR SG pn stt)) ∧ Below X.heap.size X w') :
  Calls Tryz.prog 5 #[.agg #[.string pn, .slice ga G.length gc, .slice ca C.length cc, .slice da D.length dc, .slice ta TM.length tc, .slice ka CT.length kc, .slice va VR.length vc, .slice sa SG.length sc, .int .i64 stt]] w fun e w' => e = .returned (.bool true) ∧ Below w.heap.size w w' := by
 obtain ⟨ti, hi, hi0, hi1, hi2⟩ := info_parts info70
 have hb0 : Below w.heap.size w (w.alloc (.cells #[.string pn, .slice ga G.length gc, .slice ca C.length cc, .slice da D.length dc, .slice ta TM.length tc, .slice ka CT.length kc, .slice va VR.length vc, .slice sa SG.length sc, .int .i64 stt] 31)) := bel1 _
 have K0 : Has (w.alloc (.cells #[.string pn, .slice ga G.length gc, .slice ca C.length cc, .slice da D.length dc, .slice ta TM.length tc, .slice ka CT.length kc, .slice va VR.length vc, .slice sa SG.length sc, .int .i64 stt] 31)) w.heap.size #[.string pn, .slice ga G.length gc, .slice ca C.length cc, .slice da D.length dc, .slice ta TM.length tc, .slice ka CT.length kc, .slice va VR.length vc, .slice sa SG.length sc, .int .i64 stt] := Has.new _ _ _ rfl
 have P0 := hP.below hb0
 have k16 := roomyTyped_any G C D TM CT VR SG pn ga ca da ta ka va sa gc cc dc tc kc vc sc stt (w.alloc (.cells #[.string pn, .slice ga G.length gc, .slice ca C.length cc, .slice da D.length dc, .slice ta TM.length tc, .slice ka CT.length kc, .slice va VR.length vc, .slice sa SG.length sc, .int .i64 stt] 31)) P0.hG P0.hF P0.hD P0.hT P0.hC P0.hV P0.hS lG lF lD lT lC lV lS
 have k8 := hideG (fun (g1 d1 g2 d2 gS cS : Nat) (a3 a4 a5 a6 : Option Addr) (c3 c4 c5 c6 : Nat) (X : World) (hX : Below w.heap.size w X) (h : TPl X G C D TM CT VR SG pn (some ⟨g1, 0, none⟩) (some ⟨g2, 0, none⟩) a3 a4 a5 a6 (some ⟨gS, 0, none⟩) d1 d2 c3 c4 c5 c6 cS stt) => check_any G C D TM CT VR SG pn _ _ _ _ _ _ _ _ _ _ _ _ _ _ stt X h (tb.wt.be hX) (nt.be hX) cok hgr)
 have k17 := hideG (fun (X : World) (hX : Below w.heap.size w X) => refCheck_any G C D TM CT VR SG pn ga ca da ta ka va sa gc cc dc tc kc vc sc stt X (hP.hG.below hX) (hP.hF.below hX) (Tss.below hP.hS hX) hP.lG hP.lF cok hgr (fun Z hZ => k9 Z (zAa hX hX.size hZ)))
 have hP' := hideG hP
 clear hP P0 k9 tb nt cok hgr
 generalize hok : sdB G C D TM CT VR SG pn stt = ok at *
 clear hok
 go_enter Tryz.func5, Tryz.ntmps5
 go_wp2_with fail
 go_at_call 16
 refine Calls.mono k16 ?_
 rintro e w1 ⟨⟨g1, d1, g2, d2, gS, cS, a3, a4, a5, a6, na, c3, c4, c5, c6, nc, Ls, rfl, hR⟩, hb1⟩
 have hb1' := hb1
 have hb1 := zAa hb0 hb0.size hb1
 have K0 := K0.below hb1'
 clear k16 hb0
 go_wp2_with fail
 have hbX : Below w1.heap.size w1 ((w1.alloc (.cells #[.string pn, .slice (some ⟨g1, 0, none⟩) G.length d1, .slice (some ⟨g2, 0, none⟩) C.length d2, .slice a3 D.length c3, .slice a4 TM.length c4, .slice a5 CT.length c5, .slice a6 VR.length c6, .slice (some ⟨gS, 0, none⟩) SG.length cS, .int .i64 stt] 31)).alloc (.cells #[.slice (some ⟨g1, 0, none⟩) (G.length + 2) d1, .slice (some ⟨g2, 0, none⟩) (C.length + 2) d2, .slice (some ⟨gS, 0, none⟩) (SG.length + 2) cS, .slice na SG.length nc] 65)) := ((Below.refl _ _).alloc (Nat.le_refl _) _).alloc (by simp) _
 have HG : Has ((w1.alloc (.cells #[.string pn, .slice (some ⟨g1, 0, none⟩) G.length d1, .slice (some ⟨g2, 0, none⟩) C.length d2, .slice a3 D.length c3, .slice a4 TM.length c4, .slice a5 CT.length c5, .slice a6 VR.length c6, .slice (some ⟨gS, 0, none⟩) SG.length cS, .int .i64 stt] 31)).alloc (.cells #[.slice (some ⟨g1, 0, none⟩) (G.length + 2) d1, .slice (some ⟨g2, 0, none⟩) (C.length + 2) d2, .slice (some ⟨gS, 0, none⟩) (SG.length + 2) cS, .slice na SG.length nc] 65)) w1.heap.size #[.string pn, .slice (some ⟨g1, 0, none⟩) G.length d1, .slice (some ⟨g2, 0, none⟩) C.length d2, .slice a3 D.length c3, .slice a4 TM.length c4, .slice a5 CT.length c5, .slice a6 VR.length c6, .slice (some ⟨gS, 0, none⟩) SG.length cS, .int .i64 stt] := (Has.new w1 #[.string pn, .slice (some ⟨g1, 0, none⟩) G.length d1, .slice (some ⟨g2, 0, none⟩) C.length d2, .slice a3 D.length c3, .slice a4 TM.length c4, .slice a5 CT.length c5, .slice a6 VR.length c6, .slice (some ⟨gS, 0, none⟩) SG.length cS, .int .i64 stt] 31 rfl).alloc _
 have HM : Has ((w1.alloc (.cells #[.string pn, .slice (some ⟨g1, 0, none⟩) G.length d1, .slice (some ⟨g2, 0, none⟩) C.length d2, .slice a3 D.length c3, .slice a4 TM.length c4, .slice a5 CT.length c5, .slice a6 VR.length c6, .slice (some ⟨gS, 0, none⟩) SG.length cS, .int .i64 stt] 31)).alloc (.cells #[.slice (some ⟨g1, 0, none⟩) (G.length + 2) d1, .slice (some ⟨g2, 0, none⟩) (C.length + 2) d2, .slice (some ⟨gS, 0, none⟩) (SG.length + 2) cS, .slice na SG.length nc] 65)) (w1.heap.size + 1) #[.slice (some ⟨g1, 0, none⟩) (G.length + 2) d1, .slice (some ⟨g2, 0, none⟩) (C.length + 2) d2, .slice (some ⟨gS, 0, none⟩) (SG.length + 2) cS, .slice na SG.length nc] := Has.new _ _ _ (by simp)
 have hb2 := zAa hb1 hb1.size hbX
 have K0 := K0.below hbX
 have hR := hR.below hbX
 clear hbX hb1 hb1'
 generalize ((w1.alloc (.cells #[.string pn, .slice (some ⟨g1, 0, none⟩) G.length d1, .slice (some ⟨g2, 0, none⟩) C.length d2, .slice a3 D.length c3, .slice a4 TM.length c4, .slice a5 CT.length c5, .slice a6 VR.length c6, .slice (some ⟨gS, 0, none⟩) SG.length cS, .int .i64 stt] 31)).alloc (.cells #[.slice (some ⟨g1, 0, none⟩) (G.length + 2) d1, .slice (some ⟨g2, 0, none⟩) (C.length + 2) d2, .slice (some ⟨gS, 0, none⟩) (SG.length + 2) cS, .slice na SG.length nc] 65)) = X at *
 go_at_call 8
 refine Calls.mono (k8.out g1 d1 g2 d2 gS cS a3 a4 a5 a6 c3 c4 c5 c6 X hb2 (hR.tpl (hP'.out.below hb2))) ?_
 intro e w3 hA
 obtain ⟨F, er, fa, fc, hAF, lF64, hT1, hT0⟩ := hA.uni
 clear hA
 obtain rfl := hAF.e
 have h3 := hAF.bel
 have hb3 := zAa hb2 hb2.size h3
 have K3 := K0.below h3
 obtain ⟨_, b0, _⟩ := id K3
 go_wp2_with fail
 go_at_call 17
 refine Calls.mono (k17.out w3 hb3) ?_
 intro e w4 hA
 obtain ⟨fm, fcm, hAM⟩ := hA.same hT1 hT0
 clear hA b0
 obtain rfl := hAM.e
 have h4 := hAM.bel
 have h34 := zAa h3 h3.size h4
 have hb4 := zAa hb2 hb2.size h34
 have ownL := zAe hAF.own h4
 have ownM := hAM.own
 have bL : ∀ q, (Value.slice fa F.length fc).ownBlock = some q → X.heap.size ≤ q ∧ q < w3.heap.size := zAg hAF.own
 have bM : ∀ q, (Value.slice fm F.length fcm).ownBlock = some q → w3.heap.size ≤ q ∧ q < w4.heap.size := zAg hAM.own
 clear hAF hAM
 go_wp2_with fail
 go_at_call 10
 refine Calls.mono (zGu F _ _ w4 (zGt fd_len ownL) (zGt fd_len ownM) lF64) ?_
 rintro e w5 ⟨rfl, h5⟩
 have h35 := zAa h34 h34.size h5
 have hb5 := zAa hb2 hb2.size h35
 have ownL := zAe ownL h5
 have ownM := zAe ownM h5
 obtain ⟨_, j0, _⟩ := id (HG.below h35)
 obtain ⟨_, j1, _⟩ := id (K0.below h35)
 have tp := (hR.below h35).tpl (hP'.out.below hb5)
 have tq := hP'.out.below hb5
 go_wp2_with fail
 go_at_call 18
 (with_reducible refine Calls.mono (sameTyped_any G C D TM CT VR SG pn _ _ _ _ _ _ _ _ _ _ _ _ _ _ _ _ _ _ _ _ _ _ _ _ _ _ _ _ stt w5 tp.hG tp.hF tp.hD tp.hT tp.hC tp.hV tp.hS tq.hG tq.hF tq.hD tq.hT tq.hC tq.hV tq.hS (by omega) lF lT lC (by omega) (by omega) (by omega)) ?_)
 rintro e w10 ⟨rfl, h10⟩
 have h310 := zAa h35 h35.size h10
 have ownL := zAe ownL h10
 have ownM := zAe ownM h10
 clear j0 j1 tp tq
 obtain ⟨_, j0, _⟩ := id (HM.below h310)
 go_wp2_with fail
 go_at_call 19
 (with_reducible refine Calls.mono (kept_any G C D TM CT VR SG g1 d1 g2 d2 gS cS a3 a4 a5 a6 na c3 c4 c5 c6 nc Ls w10 (hR.below h310)) ?_)
 rintro e w11 ⟨rfl, h11⟩
 have h311 := zAa h310 h310.size h11
 have ownL := zAe ownL h11
 have ownM := zAe ownM h11
 have z3 : w3.heap.size ≤ w11.heap.size := Nat.le_trans h4.size (Nat.le_trans h5.size (Nat.le_trans h10.size h11.size))
 have z4 : w4.heap.size ≤ w11.heap.size := Nat.le_trans h5.size (Nat.le_trans h10.size h11.size)
 clear j0 h34 hb4 h35 hb5 h310 h3 h4 h5 h10 h11 hb3
 have zX : X.heap.size ≤ w11.heap.size := h311.size
 go_wp2_with fail
 go_loopw [9] (fun u wr => ∃ (k : Nat) (xs : List Value), k ≤ F.length ∧ u = .int .i64 (k : Int) ∧ Hid (wr.ownsRow X.heap.size 70 4 (.slice fa F.length fc) F.length xs) ∧ Hid (Only (fun q => (Value.slice fa F.length fc).ownBlock = some q) w11 wr)) (fun u _ => F.length - (intOf u).toNat)
 case atStart => exact ⟨0, _, by omega, rfl, ownL, Only.refl _ _⟩
 case round =>
  clear ownL; obtain ⟨k, xs, hk, rfl, ho', hO'⟩ := hrel; have ho := ho'.out; have hO := hO'.out; clear ho' hO'
  by_cases hlt : k < F.length
  case pos =>
   have t1 : (k : Int) < (F.length : Int) := by omega
   have t0 : (0 : Int) ≤ (k : Int) := by omega
   have t2 : k + 1 ≤ F.length := hlt; obtain ⟨gl, cl, e1, hcl, hgl0, hgl1⟩ := zBb ho (by omega); injection e1 with e1 _ e2
   subst e1; subst e2; obtain ⟨v0, hv0⟩ := own_some ho (k * 4 + 2) (by omega); have fz := ho.frozenAt
   go_wp2_with fail
   go_roundw
   case rel => exact ⟨k + 1, _, by omega, by go_num, (ho.stored (k * 4 + 2) (.int .i64 (-7))).1, hO.set rfl _⟩
   case measure => simp [intOf]; omega
  case neg =>
   have t1 : ¬ (k : Int) < (F.length : Int) := by omega
   have hbr : Below X.heap.size X wr := zBy h311 hO (Nat.le_refl _) (fun q hq e => by have := (bL q e).1; omega); have hzr : X.heap.size ≤ (wr.alloc (.cells #[.int .i64 0, .int .i64 0, .int .i64 (-7), .int .i64 0] 70)).heap.size := Nat.le_trans hbr.size (bel1 _).size; have hLm : F.length ≤ 64 := lF64
   go_wp2_with (at_builtin; (refine zAd _ rfl _ _ 33 rfl X.heap.size 70 ti _ 4 32 Tryz.underlying33 hi hi0 hi1 hi2 rfl (by decide) (.slice fa F.length fc) F.length xs rfl (zAe ho (bel1 _)) ⟨wr.heap.size, 0, none⟩ 1 1 [.int .i64 0, .int .i64 0, .int .i64 (-7), .int .i64 0] rfl rfl (zBa (W := wr) rfl _ _) (zAz rfl) (by decide) (by unfold maxLen; omega) (by omega) hzr ?_); intro g7 k7 w7 o7 gr7 at7 _ hc7; have hb7 : Below X.heap.size X w7 := zAn (hbr.alloc hbr.size _) gr7 (Nat.le_refl _) (fun q hq => (bL q hq).1); have J7 := (HG.below hb7).2.1)
   have hbw7 := zAa hb2 hb2.size hb7; have ownM7 : w7.ownsRow w3.heap.size 70 4 (.slice fm F.length fcm) F.length (zAc Fd.cs F) := zFq ownM (fun q hq => by
    have b1 := bM q hq; have e1 : (wr.alloc (.cells #[.int .i64 0, .int .i64 0, .int .i64 (-7), .int .i64 0] 70)).heap[q]? = wr.heap[q]? := (bel1 _).block q (by have := hO.size; omega); refine (gr7.block q (by have := hO.size; have := (bel1 (w := wr) (.cells #[.int .i64 0, .int .i64 0, .int .i64 (-7), .int .i64 0] 70)).size; omega) (fun e => by have := (bL q e.symm).2; omega)).trans (e1.trans (hO.block q (by omega) (fun e => by have := (bL q e).2; omega))))
   clear ho hO hbr hzr gr7 o7 ownM; go_at_call 8; refine Calls.mono (k8.out g1 d1 g2 d2 gS cS a3 a4 a5 a6 c3 c4 c5 c6 w7 hbw7 ((hR.below hb7).tpl (hP'.out.below hbw7))) ?_; intro e w14 hA; obtain ⟨fa2, fc2, hA2⟩ := hA.same (fun R R' a b => RI.uniq a b) hT1 hT0; clear hA; obtain rfl := hA2.e; have h14 := hA2.bel; have ownM14 := zAe ownM7 h14
   go_wp2_with fail
   go_at_call 10; refine Calls.mono (zGu F _ _ w14 (zGt fd_len hA2.own) (zGt fd_len ownM14) lF64) ?_; rintro e w15 ⟨rfl, h15⟩; have hb15 := zAa hbw7 hbw7.size (zAa h14 h14.size h15)
   go_wp2_with fail
   go_ret; exact ⟨rfl, hb15⟩
open Go.ChangeShapes Go.WideShapes Go.ChangeAt Go.RowKit
def strData {H : Type} (zs : List (List UInt8)) : DataW H := .agg (zs.map fun z => .lit (.string z))
theorem cells_of_strs {H : Type} {enc : TypeId × Value → H} {P : Program} {w : World} {base : Nat} {sp : Nat → Bool} {held : Bool} {fuel : Nat} {t e : TypeId} {n : Nat} {cs : List Value} {zs : List (List UInt8)} {p : List MemPlace}
  (ht : P.underlying t = some (.array n e)) (he : P.underlying e = some .string) (hce : P.cellsOf e = 1) (hct : P.cellsOf t = n)
  (h : DataW.trod enc P w base sp held fuel t cs = some (strData zs, p)) : cs = zs.map fun z => Value.string (bs z) := by
 cases fuel with
 | zero => simp [DataW.trod] at h
 | succ fuel =>
   simp only [DataW.trod, ht, hce, hct, Nat.mul_one] at h; split at h
   ·rename_i hl
    obtain ⟨xs, hm, hx⟩ := Option.map_eq_some_iff.1 h; have hxs : xs.map (·.1) = zs.map fun z => (DataW.lit (.string z) : DataW H) := by
     have := congrArg Prod.fst hx
     simpa [strData] using this
    have hxl : xs.length = n := by simpa using Lib.mapM_length hm
    have hzl : zs.length = n := by
     have := congrArg List.length hxs; simp at this; omega
    apply List.ext_getElem?
    intro i
    by_cases hi : i < n
    ·obtain ⟨b, hb, hf⟩ := Lib.mapM_at hm i i (by simp [hi])
     obtain ⟨z, hc, rfl, _⟩ := DataW.trod_string he hf; have h1 : cs[i]? = some (.string z) := by
      have := congrArg (·[0]?) hc
      simpa [List.getElem?_take, List.getElem?_drop] using this
     have h2 : (xs.map (·.1))[i]? = some (DataW.lit (.string z.data.toList) : DataW H) := by simp [hb]
     rw [hxs] at h2; simp only [List.getElem?_map, Option.map_eq_some_iff, DataW.lit.injEq, Lit.string.injEq] at h2; obtain ⟨z', hz', e'⟩ := h2; subst e'; simp [h1, hz', bs]
    ·rw [List.getElem?_eq_none (by omega), List.getElem?_eq_none (by simp; omega)]
   ·cases h
theorem zEm {P : Program} {W : World} {name : String} {zs : List (List UInt8)} {rest : List (String × DataW Unit)} {g : Nat} {t e : TypeId} {n : Nat}
  (hg : P.globalNamed name = some g) (hty : (P.globals[g]?).map (·.type) = some t) (ht : P.underlying t = some (.array n e)) (he : P.underlying e = some .string) (hce : P.cellsOf e = 1) (hct : P.cellsOf t = n)
  (h : laidMet P ((name, strData zs) :: rest) W) : ∀ i, i < zs.length → W.cell? ⟨g, i, none⟩ = some (.string (bs (zs.getD i []))) := by
 obtain ⟨ps, ⟨g', t', cs, fuel, p, q, hg', ht', hvar, hd, _, _⟩, _⟩ := h
 obtain rfl := Option.some.inj (hg.symm.trans hg')
 obtain rfl := Option.some.inj (hty.symm.trans ht')
 intro i hi
 have h1 := World.var?_cell hg hvar i
 have h2 := cells_of_strs ht he hce hct hd
 rw [h1]
 have h3 : cs[i]? = some (.string (bs (zs.getD i []))) := by
  rw [← Array.getElem?_toList, h2]; simp [List.getD, hi]
 exact h3
theorem own : ownKnob Tryz.prog.godebug = none := by kernel_rfl
theorem laidOut : laidOutB Tryz.prog = true := by kernel_rfl
theorem g0 : Tryz.prog.globalNamed "junction/lex.words" = some 3 := by kernel_rfl
theorem g1 : Tryz.prog.globalNamed "junction/junctionref2.words" = some 1 := by kernel_rfl
theorem g2 : Tryz.prog.globalNamed "junction/junctionref2.signs" = some 2 := by kernel_rfl
theorem tg0 : (Tryz.prog.globals[3]?).map (·.type) = some 247 := by kernel_rfl
theorem tg1 : (Tryz.prog.globals[1]?).map (·.type) = some 168 := by kernel_rfl
theorem tg2 : (Tryz.prog.globals[2]?).map (·.type) = some 169 := by kernel_rfl
theorem u54 : Tryz.prog.underlying 247 = some (.array 78 9) := by kernel_rfl
theorem u55 : Tryz.prog.underlying 168 = some (.array 41 9) := by kernel_rfl
theorem u56 : Tryz.prog.underlying 169 = some (.array 18 9) := by kernel_rfl
theorem c9 : Tryz.prog.cellsOf 9 = 1 := by kernel_rfl
theorem c54 : Tryz.prog.cellsOf 247 = 78 := by kernel_rfl
theorem c55 : Tryz.prog.cellsOf 168 = 41 := by kernel_rfl
theorem c56 : Tryz.prog.cellsOf 169 = 18 := by kernel_rfl
def wdL : List (List UInt8) := (List.range 78).map wordL
theorem wdL_get (i : Nat) (h : i < 78) : wdL.getD i [] = wordL i := by simp [wdL, List.getD, h]
theorem zEu {W : World} {b o : Nat} {v : Value} (h : W.cell? ⟨b, o, none⟩ = some v) : b < W.heap.size := by
 rcases Nat.lt_or_ge b W.heap.size with h0 | h0
 ·exact h0
 ·have : W.heap[b]? = none := by simp [h0]
  simp [World.cell?, this] at h
theorem g3n : Tryz.prog.globalNamed "junction/safety.needs" = some 0 := by kernel_rfl
theorem tg3n : (Tryz.prog.globals[0]?).map (·.type) = some 127 := by kernel_rfl
theorem c126n : Tryz.prog.cellsOf 126 = 3 := by kernel_rfl
theorem c127n : Tryz.prog.cellsOf 127 = 9 := by kernel_rfl
section
variable {H : Type} {enc : TypeId × Value → H} {W : World} {base n : Nat} {held : Bool} {sp : Nat → Bool} {cs : List Value} {p : List MemPlace}
theorem need_open {a b c : Int} (h : DataW.trod enc Tryz.prog W base sp held n 126 cs = some (.agg [.lit (.int .i64 a), .lit (.int .i64 b), .lit (.int .i64 c)], p)) : cs = [.int .i64 a, .int .i64 b, .int .i64 c] := by
 obtain ⟨xs, k, _, hy, hl, hlen, hf⟩ := DataW.trod_struct Tryz.underlying126 h
 rw [c126n] at hl
 match cs, hl, xs, hlen with
 | [a0, a1, a2], _, [y0, y1, y2], _ =>
   have f0 : DataW.trod enc Tryz.prog W base sp held k 3 [a0] = some y0 := by simpa [k3] using hf 0 _ rfl
   have f1 : DataW.trod enc Tryz.prog W base sp held k 3 [a1] = some y1 := by simpa [k3] using hf 1 _ rfl
   have f2 : DataW.trod enc Tryz.prog W base sp held k 3 [a2] = some y2 := by simpa [k3] using hf 2 _ rfl
   obtain ⟨n0, e0, d0, _⟩ := DataW.trod_int Tryz.underlying3 f0; obtain ⟨n1, e1, d1, _⟩ := DataW.trod_int Tryz.underlying3 f1; obtain ⟨n2, e2, d2, _⟩ := DataW.trod_int Tryz.underlying3 f2; subst d0 d1 d2; simp at e0 e1 e2 hy; simp [e0, e1, e2, hy]
theorem needs_open {a0 b0 c0 a1 b1 c1 a2 b2 c2 : Int} (h : DataW.trod enc Tryz.prog W base sp held n 127 cs = some (.agg [.agg [.lit (.int .i64 a0), .lit (.int .i64 b0), .lit (.int .i64 c0)], .agg [.lit (.int .i64 a1), .lit (.int .i64 b1), .lit (.int .i64 c1)], .agg [.lit (.int .i64 a2), .lit (.int .i64 b2), .lit (.int .i64 c2)]], p)) :
  cs = [.int .i64 a0, .int .i64 b0, .int .i64 c0, .int .i64 a1, .int .i64 b1, .int .i64 c1, .int .i64 a2, .int .i64 b2, .int .i64 c2] := by
 obtain ⟨xs, k, _, hy, hl, hlen, hf⟩ := DataW.trod_array Tryz.underlying127 h
 rw [c127n] at hl
 match cs, hl, xs, hlen with
 | [x0, x1, x2, x3, x4, x5, x6, x7, x8], _, [⟨y0, p0⟩, ⟨y1, p1⟩, ⟨y2, p2⟩], _ =>
   have f0 : DataW.trod enc Tryz.prog W base sp held k 126 [x0, x1, x2] = some (y0, p0) := by simpa [c126n] using hf 0 (by omega)
   have f1 : DataW.trod enc Tryz.prog W base sp held k 126 [x3, x4, x5] = some (y1, p1) := by simpa [c126n] using hf 1 (by omega)
   have f2 : DataW.trod enc Tryz.prog W base sp held k 126 [x6, x7, x8] = some (y2, p2) := by simpa [c126n] using hf 2 (by omega)
   simp at hy; obtain ⟨⟨r0, r1, r2⟩, _⟩ := hy; subst r0 r1 r2; have e0 := need_open f0; have e1 := need_open f1; have e2 := need_open f2; simp at e0 e1 e2; simp [e0, e1, e2]
end
theorem ndt_of_head {W : World} {rest : List (String × DataW Unit)} (h : laidMet Tryz.prog (("junction/safety.needs", Rows.laid_junction_safety_needs) :: rest) W) : Ndt W := by
 obtain ⟨ps, ⟨g', t', cs, fuel, p, q, hg', ht', hvar, hd, _, _⟩, _⟩ := h
 obtain rfl := Option.some.inj (g3n.symm.trans hg')
 obtain rfl := Option.some.inj (tg3n.symm.trans ht')
 have h2 := needs_open hd
 have h1 : ∀ i, W.cell? ⟨0, i, none⟩ = cs.toList[i]? := fun i => by rw [World.var?_cell g3n hvar i, Array.getElem?_toList]
 rw [h2] at h1
 refine ⟨zEu (h1 0), fun s hs => ?_⟩
 match s, hs with
 | 0, _ => exact ⟨h1 0, h1 1, h1 2⟩
 | 1, _ => exact ⟨h1 3, h1 4, h1 5⟩
 | 2, _ => exact ⟨h1 6, h1 7, h1 8⟩
def laidN : List (String × DataW Unit) := [("junction/junctionref2.words", Rows.laid_junction_junctionref2_words), ("junction/junctionref2.signs", Rows.laid_junction_junctionref2_signs), ("junction/lex.words", Rows.laid_junction_lex_words), ("junction/safety.needs", Rows.laid_junction_safety_needs)]
theorem doorN_met (os : Os) (args : Array Value) : laidMetH Tryz.prog laidN ((World.doorLaid Tryz.prog 400 os).forCall (fun _ _ => 0) ⟨#[], args, []⟩).memory :=
 laidMetH_of_parts3 (fuel := 8) (laidMet_of_run' 8 (by kernel_rfl) (by kernel_rfl)) (by kernel_rfl) (by kernel_rfl)
theorem ofN_laid {W : World} (h : laidMetH Tryz.prog laidN W) : Wt W ∧ Kt W ∧ SgT W ∧ Ndt W := by
 rw [MakeChecks.laidMetH_plain _ _ _ (by kernel_rfl)] at h
 have h1 := zEm (zs := kwL) g1 tg1 u55 Tryz.underlying9 c9 c55 (rest := [("junction/junctionref2.signs", Rows.laid_junction_junctionref2_signs), ("junction/lex.words", Rows.laid_junction_lex_words), ("junction/safety.needs", Rows.laid_junction_safety_needs)]) h
 have h2 := zEm (zs := sgL) g2 tg2 u56 Tryz.underlying9 c9 c56 (rest := [("junction/lex.words", Rows.laid_junction_lex_words), ("junction/safety.needs", Rows.laid_junction_safety_needs)]) h.tail
 have h3 := zEm (zs := wdL) g0 tg0 u54 Tryz.underlying9 c9 c54 (rest := [("junction/safety.needs", Rows.laid_junction_safety_needs)]) h.tail.tail
 have h4 := ndt_of_head h.tail.tail.tail
 refine ⟨⟨zEu (h3 0 (by decide)), fun i hi => ?_⟩, ⟨zEu (h1 0 (by decide)), fun i hi => h1 i hi⟩, ⟨zEu (h2 0 (by decide)), fun i hi => h2 i hi⟩, h4⟩
 have := h3 i (by simpa [wdL] using hi)
 rw [wdL_get i hi] at this
 exact this
end Go.Proofs.YtjfieclmagbfbaaGreatDoor
