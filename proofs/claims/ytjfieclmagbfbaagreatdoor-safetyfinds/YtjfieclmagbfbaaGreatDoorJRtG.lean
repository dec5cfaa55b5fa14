import Derived.Test.YtjfieclmagbfbaaGreatDoorMaH
import Derived.OrdersHeld
set_option linter.unusedSimpArgs false
set_option linter.unusedVariables false
set_option maxRecDepth 100000
set_option maxHeartbeats 8000000
namespace Go.Proofs.YtjfieclmagbfbaaGreatDoor
open Go.RowKit
def CrP (ok : Bool) (G : List Gp) (C : List Cf) (SG : List Ts) (stt : Int) (w : World) (e : Ending) (w' : World) : Prop :=
 if ok then ∃ (S : List Bool) (fa : Option Addr) (fc : Nat), (∀ S', RI (zBt SG).length stt.toNat (goN (zBt SG)) S' [] → S' = S) ∧ e = .returned (.tuple #[.slice fa (chF G C S SG stt).length fc, .int .i64 0]) ∧ w'.ownsRow w.heap.size 70 4 (.slice fa (chF G C S SG stt).length fc) (chF G C S SG stt).length (zAc Fd.cs (chF G C S SG stt)) ∧ Below w.heap.size w w'
 else e = .returned (.tuple #[.slice none 0 0, .int .i64 80]) ∧ Below w.heap.size w w'
theorem zGy (Q : List Bool) (lp : Int → Int → Int) (x : Int × Int) (L : List (Int × Int)) : slF Q lp (x :: L) = slX Q lp x ++ slF Q lp L := rfl
theorem slF_app (Q : List Bool) (lp : Int → Int → Int) : ∀ L M : List (Int × Int), slF Q lp (L ++ M) = slF Q lp L ++ slF Q lp M
 | [], _ => rfl
 | x :: L, M => by rw [List.cons_append, zGy, zGy, slF_app Q lp L M, List.append_assoc]
theorem refCheck_any (G : List Gp) (C : List Cf) (D : List Dt) (TM CT : List ByteArray) (VR : List Vr) (SG : List Ts) (pn : ByteArray) (ga ca da ta ka va sa : Option Addr) (gc cc dc tc kc vc sc : Nat) (stt : Int) (w : World) (hG : Fl 5 Gp.cs w (.slice ga G.length gc) G) (hF : Fl 4 Cf.cs w (.slice ca C.length cc) C) (hSS : Tss (fun _ => True) w (.slice sa SG.length sc) SG) (lG : G.length ≤ 2932031007317) (lC : C.length ≤ 4398046511000) (ok : ∀ (i : Nat) (h : i < C.length), C[i].ok) (hgr : ∀ s ∈ SG, 0 ≤ s.green ∧ s.green < 18446744073709551616)
  (k9 : ∀ X : World, Below w.heap.size w X → Calls Tryz.prog 9 #[(.agg #[.string pn, .slice ga G.length gc, .slice ca C.length cc, .slice da D.length dc, .slice ta TM.length tc, .slice ka CT.length kc, .slice va VR.length vc, .slice sa SG.length sc, .int .i64 stt])] X fun e w' => e = .returned (.bool (sdB G C D TM CT VR SG pn stt)) ∧ Below X.heap.size X w') :
  Calls Tryz.prog 17 #[(.agg #[.string pn, .slice ga G.length gc, .slice ca C.length cc, .slice da D.length dc, .slice ta TM.length tc, .slice ka CT.length kc, .slice va VR.length vc, .slice sa SG.length sc, .int .i64 stt])] w fun e w' => CrP (sdB G C D TM CT VR SG pn stt) G C SG stt w e w' := by
 have hb0 : Below w.heap.size w (w.alloc (.cells #[.string pn, .slice ga G.length gc, .slice ca C.length cc, .slice da D.length dc, .slice ta TM.length tc, .slice ka CT.length kc, .slice va VR.length vc, .slice sa SG.length sc, .int .i64 stt] 31)) := bel1 _
 have K0 : Has (w.alloc (.cells #[.string pn, .slice ga G.length gc, .slice ca C.length cc, .slice da D.length dc, .slice ta TM.length tc, .slice ka CT.length kc, .slice va VR.length vc, .slice sa SG.length sc, .int .i64 stt] 31)) w.heap.size #[.string pn, .slice ga G.length gc, .slice ca C.length cc, .slice da D.length dc, .slice ta TM.length tc, .slice ka CT.length kc, .slice va VR.length vc, .slice sa SG.length sc, .int .i64 stt] := Has.new _ _ _ rfl
 have k7 := k9 _ hb0
 have hw2 := @sd_ways G C D TM CT VR SG pn stt
 have hw3 := @sd_more G C D TM CT VR SG pn stt
 clear k9
 generalize sdB G C D TM CT VR SG pn stt = B at *
 obtain ⟨_, v1, v2⟩ := id K0
 go_enter Tryz.func17, Tryz.ntmps17
 go_wp2_with fail
 go_at_call 9
 refine Calls.mono k7 ?_
 rintro e w1 ⟨rfl, h1⟩
 have hb1 := zAa hb0 hb0.size h1
 have K1 := K0.below h1
 clear v1 v2 k7
 obtain ⟨_, v1, v2⟩ := id K1
 cases B with
 | false =>
   clear hw2 hw3 hSS
   go_wp2_with fail
   go_ret2
   exact ⟨rfl, hb1⟩
 | true =>
   obtain ⟨l1, l2, l3, l4⟩ := hw2 rfl; obtain ⟨gr, lcg⟩ := hw3 rfl; obtain ⟨st, rfl⟩ : ∃ st : Nat, stt = (st : Int) := ⟨stt.toNat, by omega⟩; have hst : st < SG.length := by omega
   have bF : Below w1.heap.size w1 (w1.alloc (.cells #[.slice none 0 0] 109)) := bel1 _; have RF : Has (w1.alloc (.cells #[.slice none 0 0] 109)) w1.heap.size #[.slice none 0 0] := Has.new _ _ _ rfl; have KF := K1.alloc (.cells #[.slice none 0 0] 109); obtain ⟨_, f1, _⟩ := id KF; have k8 := refReached_any G C D TM CT VR SG pn ga ca da ta ka va sa gc cc dc tc kc vc sc st (w1.alloc (.cells #[.slice none 0 0] 109)) (Tss.below hSS (hb1.alloc hb1.size _)) l1 l2 hst
   go_wp2_with fail
   go_at_call 45; refine Calls.mono k8 ?_; rintro e w2 ⟨g0, S, rfl, hO, hR, h2⟩; have b2 := zAa bF bF.size h2; have K2 := K1.below b2; have hSl : S.length = SG.length := by have := hO.1; simpa [vB] using this
   have hBS : BlR w2 g0 SG.length S := BlR.own hO hSl; have hgb := (zAg hO g0 rfl).1; have hrr : g0 ≠ w1.heap.size := by simp at hgb; omega
   have hr2 : FP w1 w2 w1.heap.size none 0 [] w2 := ⟨b2, Only.refl _ _, RF.below h2, World.ownsRow_nil _ _ _ _, Nat.le_refl _, b2.size, (by intro e; cases e), by simp⟩; clear v1 v2 f1 k8 K0 hb0 h1 hO hw2 hw3 RF KF bF h2; have hG1 := hG.below hb1; have hF1 := hF.below hb1; have hS1 := Tss.below hSS hb1; have k49 := fun (k : Nat) (hk : k < SG.length) (t : Nat) (ht : t < SG.length) (fa : Option Addr) (fc : Nat) (F : List Fd) (W : World) (h : FP w1 w2 w1.heap.size fa fc F W) => slowR_any G C D TM CT VR SG pn ga ca da ta ka va sa gc cc dc tc kc vc sc (st : Int) (k : Int) t fa fc F w1 w2 W w1.heap.size h hG1 hF1 hS1 lG lC l1 gr ok hgr (.inr ⟨k, rfl, hk⟩) ht
   have k49z := fun (fa : Option Addr) (fc : Nat) (F : List Fd) (W : World) (h : FP w1 w2 w1.heap.size fa fc F W) => slowR_any G C D TM CT VR SG pn ga ca da ta ka va sa gc cc dc tc kc vc sc (st : Int) (-1) st fa fc F w1 w2 W w1.heap.size h hG1 hF1 hS1 lG lC l1 gr ok hgr (.inl rfl) hst
   change ∀ (fa : Option Addr) (fc : Nat) (F : List Fd) (W : World) (h : FP w1 w2 w1.heap.size fa fc F W), Calls Tryz.prog 49 #[.pointer (some ⟨w1.heap.size, 0, none⟩), .agg #[.string pn, .slice ga G.length gc, .slice ca C.length cc, .slice da D.length dc, .slice ta TM.length tc, .slice ka CT.length kc, .slice va VR.length vc, .slice sa SG.length sc, .int .i64 (st : Int)], .int .i64 (-1), .int .u64 0, .int .i64 (st : Int)] W _ at k49z
   have j2 : ∀ j, w2.cell? ⟨w.heap.size, j, none⟩ = #[.string pn, .slice ga G.length gc, .slice ca C.length cc, .slice da D.length dc, .slice ta TM.length tc, .slice ka CT.length kc, .slice va VR.length vc, .slice sa SG.length sc, .int .i64 (st : Int)][j]? := K2.2.1; have hA : addL (addL (addL (addL (addL (addL (addL [] (lnF 0 G)) (igF (shL G C))) (scF C 0 SG)) (trF S 0 SG)) (neF (usK S 0 SG 0) 0 G)) (slX (ckL G.length C SG) (lpA G C SG) (-1, (st : Int)))) (slF (ckL G.length C SG) (lpA G C SG) (mvsF S 0 (SG.drop 0))) = chF G C S SG (st : Int) := by
    unfold chF mvsL; rw [zGy, zBh]; rfl
   generalize hX : chF G C S SG (st : Int) = A at *
   go_wp2_with (first | (go_at_call 46; (with_reducible refine Calls.mono (groupsR_any G C ga ca gc cc _ _ [] w1 w2 _ w1.heap.size hr2 hG1 lG (grid_sort gr)) ?_); rintro e w3 ⟨rfl, fa3, fc3, hr3⟩; have j3 : ∀ j, w3.cell? ⟨w.heap.size, j, none⟩ = #[.string pn, .slice ga G.length gc, .slice ca C.length cc, .slice da D.length dc, .slice ta TM.length tc, .slice ka CT.length kc, .slice va VR.length vc, .slice sa SG.length sc, .int .i64 (st : Int)][j]? := (K1.below hr3.hb).2.1) | (go_at_call 47; (with_reducible refine Calls.mono (pairsR_any G C D TM CT VR SG pn ga ca da ta ka va sa gc cc dc tc kc vc sc (st : Int) _ _ _ w1 w2 _ w1.heap.size hr3 hG1 hF1 hS1 lG lC l1 gr ok hgr) ?_); rintro e w4 ⟨rfl, fa4, fc4, hr4⟩; have j4 : ∀ j, w4.cell? ⟨w.heap.size, j, none⟩ = #[.string pn, .slice ga G.length gc, .slice ca C.length cc, .slice da D.length dc, .slice ta TM.length tc, .slice ka CT.length kc, .slice va VR.length vc, .slice sa SG.length sc, .int .i64 (st : Int)][j]? := (K1.below hr4.hb).2.1) | (go_at_call 48; (with_reducible refine Calls.mono (waysR_any G C D TM CT VR SG pn ga ca da ta ka va sa gc cc dc tc kc vc sc (st : Int) S g0 SG.length _ _ _ w1 w2 _ w1.heap.size hr4 hS1 hBS hrr lG l1 hgr) ?_); rintro e w5 ⟨rfl, fa5, fc5, hr5⟩; have j5 : ∀ j, w5.cell? ⟨w.heap.size, j, none⟩ = #[.string pn, .slice ga G.length gc, .slice ca C.length cc, .slice da D.length dc, .slice ta TM.length tc, .slice ka CT.length kc, .slice va VR.length vc, .slice sa SG.length sc, .int .i64 (st : Int)][j]? := (K1.below hr5.hb).2.1) | (go_at_call 49; (with_reducible refine Calls.mono (k49z _ _ _ _ hr5) ?_); rintro e w6 ⟨rfl, fa6, fc6, hr6⟩; have j6 : ∀ j, w6.cell? ⟨w.heap.size, j, none⟩ = #[.string pn, .slice ga G.length gc, .slice ca C.length cc, .slice da D.length dc, .slice ta TM.length tc, .slice ka CT.length kc, .slice va VR.length vc, .slice sa SG.length sc, .int .i64 (st : Int)][j]? := (K1.below hr6.hb).2.1))
   generalize addL (addL (addL (addL (addL (addL [] (lnF 0 G)) (igF (shL G C))) (scF C 0 SG)) (trF S 0 SG)) (neF (usK S 0 SG 0) 0 G)) (slX (ckL G.length C SG) (lpA G C SG) (-1, (st : Int))) = F6 at *; have hXX : Hid (chF G C S SG (st : Int) = A) := hX; clear hX hr2 hr3 hr4 hr5 j2 j3 j4 j5 j6 k49z; have hBS2 := hBS; clear hBS; obtain ⟨_, _, e1, _, kS⟩ := Rows.any hSS; injection e1 with e1 _ e2
   subst e1; subst e2; obtain ⟨g, o, rfl, _, hg, hx⟩ := kS.resolve_left (by intro e; rw [e] at hst; simp at hst); clear kS hSS hS1 hG1 hF1; have hgn : ∀ (X : World) (hX : Below w.heap.size w X) (k : Nat) (hk : k < SG.length), X.cell? ⟨g, o + k * 7 + 2, none⟩ = some (.int .u64 ((gOf SG (k : Int) : Nat) : Int)) := fun X hX k hk => by
    obtain ⟨cs, _, ⟨ve, vd, vl, vn, rfl, q1, q2, q3, q4⟩, P2⟩ := hx k hk; rw [← gOf_nat SG k hk (hgr _ (List.getElem_mem hk)).1]; exact (hX.cell (p := ⟨g, _, none⟩) hg).trans (P2 2 _ rfl)
   have hbw : ∀ {X : World}, Below w1.heap.size w1 X → Below w.heap.size w X := fun {X} hX => hb1.trans (hX.mono hb1.size)
   clear hgr hG hF
   go_loopw [7] (fun u wr => ∃ (i : Nat) (fa0 : Option Addr) (fc0 : Nat) (F0 : List Fd), i ≤ SG.length ∧ u = .int .i64 (i : Int) ∧ Hid (addL F0 (slF (ckL G.length C SG) (lpA G C SG) (mvsF S i (SG.drop i))) = A) ∧ Hid (FP w1 w2 w1.heap.size fa0 fc0 F0 wr)) (fun u _ => SG.length - (intOf u).toNat)
   case atStart => exact ⟨0, fa6, fc6, F6, by omega, rfl, hA, hr6⟩
   case round =>
    clear hA hr6; obtain ⟨i, fa0, fc0, F0, hi, rfl, hq', hr'⟩ := hrel; have hq := hq'.out; have hr0 := hr'.out; clear hq' hr'; have j0 := (K1.below hr0.hb).2.1
    by_cases hlt : i < SG.length
    case neg =>
     have t1 : ¬ (i : Int) < (SG.length : Int) := by omega
     rw [mvsF_end _ _ _ (by omega), slF, zAf] at hq; have hqq : Hid (F0 = A) := hq; clear hq; have fb := hr0.box.2.1 0
     go_wp2_with fail
     go_ret2
     refine ⟨S, fa0, fc0, by rw [Int.toNat_natCast]; exact hR, by rw [hXX.out, ← hqq.out]; rfl, ?_, hbw hr0.hb⟩; rw [hXX.out, ← hqq.out]; exact zBc hr0.own (Nat.le_trans hb1.size hr0.gv)
    case pos =>
     have t1 : (i : Int) < (SG.length : Int) := by omega
     have t0 : (0 : Int) ≤ (i : Int) := by omega
     have t2 : i + 1 ≤ SG.length := hlt; obtain ⟨cs, _, ⟨ve, vd, vl, vn, rfl, _, _, _, q4⟩, P2⟩ := hx i hlt; have lN : SG[i].nexts.length ≤ 4398046511000 := Rows.le q4; obtain ⟨xn, xnc, rfl, _, kN⟩ := Rows.any q4; have hp6 : ∀ X : World, Below w.heap.size w X → X.cell? ⟨g, o + i * 7 + 6, none⟩ = some (.slice xn SG[i].nexts.length xnc) := fun X hX => (hX.cell (p := ⟨g, _, none⟩) hg).trans (P2 6 _ rfl)
     have hdi := fun (m : Nat) (hm : m < SG[i].nexts.length) => l2 SG[i] (List.getElem_mem hlt) SG[i].nexts[m] (List.getElem_mem hm)
     have hkN : ∀ (m : Nat) (hm : m < SG[i].nexts.length), ∃ gN oN, xn = some ⟨gN, oN, none⟩ ∧ ∀ X : World, Below w.heap.size w X → X.cell? ⟨gN, oN + m * 2, none⟩ = some (.int .i64 SG[i].nexts[m].dst) := by
      intro m hm; obtain ⟨gN, oN, rfl, _, hgN, P3⟩ := kN.resolve_left (by intro e; rw [e] at hm; simp at hm); obtain ⟨cs, _, ⟨v, rfl, _⟩, P4⟩ := P3 m hm; exact ⟨gN, oN, rfl, fun X hX => (hX.cell (p := ⟨gN, _, none⟩) hgN).trans (by have := P4 0 _ rfl; simpa using this)⟩
     rw [mvsF_drop _ _ i hlt, slF_app, zBh] at hq; have hq0 : addL (addL F0 (slF (ckL G.length C SG) (lpA G C SG) (if sn S i = true then (mvS i SG[i].nexts).drop 0 else []))) (slF (ckL G.length C SG) (lpA G C SG) (mvsF S (i + 1) (SG.drop (i + 1)))) = A := hq; have hgi := fun (X : World) (hX : Below w.heap.size w X) => hgn X hX i hlt
     have hrS := fun (X : World) (fa : Option Addr) (fc : Nat) (F : List Fd) (h : FP w1 w2 w1.heap.size fa fc F X) => (h.at_ (i := i) hBS2.1 hrr).trans (hBS2.2 i hlt)
     clear kN P2 q4 hq; generalize SG[i].nexts = LN at *; generalize hRS : slF (ckL G.length C SG) (lpA G C SG) (mvsF S (i + 1) (SG.drop (i + 1))) = RS2 at *; generalize hsn : sn S i = bi at *
     go_wp2_with fail
     obtain ⟨w9, hw9⟩ : ∃ x, x = wr := ⟨_, rfl⟩
     go_loopw [8] (fun u wr => ∃ (m : Nat) (fa0 : Option Addr) (fc0 : Nat) (F0 : List Fd), m ≤ LN.length ∧ u = .int .i64 (m : Int) ∧ Hid (addL (addL F0 (slF (ckL G.length C SG) (lpA G C SG) (if bi = true then (mvS i LN).drop m else []))) RS2 = A) ∧ Hid (FP w1 w2 w1.heap.size fa0 fc0 F0 wr)) (fun u _ => LN.length - (intOf u).toNat)
     case atStart => exact ⟨0, fa0, fc0, F0, by omega, rfl, hq0, hr0⟩
     case round =>
      clear hq0 hr0 j0 hw9; obtain ⟨m, fa0, fc0, F0, hml, rfl, hq', hr'⟩ := hrel; have hq := hq'.out; have hr0 := hr'.out; clear hq' hr'; have KX := K1.below hr0.hb; have j0 := KX.2.1; have p6 := hp6 wr (hbw hr0.hb); have zr := hrS _ _ _ _ hr0
      by_cases hmm : m < LN.length
      case neg =>
       have s3 : ¬ (m : Int) < (LN.length : Int) := by omega
       have hq2 : addL F0 RS2 = A := by
        cases bi with
        | true => simp only [if_true] at hq; rwa [mvS_end _ _ _ (by omega), slF, zAf] at hq
        | false => simpa [slF, zAf] using hq
       go_wp2_with fail
       go_roundw
       case rel => exact ⟨i + 1, fa0, fc0, F0, t2, by go_num, (by show _ = _; rw [hRS]; exact hq2), hr0⟩
       case measure => simp [intOf]; omega
      case pos =>
       have s3 : (m : Int) < (LN.length : Int) := by omega
       have s2 : (0 : Int) ≤ (m : Int) := by omega
       have s4 : m + 1 ≤ LN.length := hmm
       cases bi with
       | false =>
         have hq2 : addL F0 RS2 = A := by simpa [slF, zAf] using hq
         go_wp2_with fail
         go_roundw
         case rel => exact ⟨i + 1, fa0, fc0, F0, t2, by go_num, (by show _ = _; rw [hRS]; exact hq2), hr0⟩
         case measure => simp [intOf]; omega
       | true =>
         simp only [if_true] at hq; rw [mvS_drop _ _ _ hmm, zGy, zBh] at hq; obtain ⟨d1, d2⟩ := hdi m hmm; obtain ⟨gN, oN, exn, hN⟩ := hkN m hmm; obtain ⟨t, hdt⟩ : ∃ t : Nat, LN[m].dst = (t : Int) := ⟨LN[m].dst.toNat, by omega⟩; rw [hdt] at hq; have ht : t < SG.length := by omega
         have hN2 : ∀ X : World, Below w.heap.size w X → X.cell? ⟨gN, oN + m * 2, none⟩ = some (.int .i64 (t : Int)) := fun X hX => (hN X hX).trans (by rw [hdt])
         have sS : ∀ X : World, Below w1.heap.size w1 X → X.cell? ⟨w.heap.size, 0, none⟩ = some (.string pn) ∧ X.cell? ⟨w.heap.size, 1, none⟩ = some (.slice ga G.length gc) ∧ X.cell? ⟨w.heap.size, 2, none⟩ = some (.slice ca C.length cc) ∧ X.cell? ⟨w.heap.size, 3, none⟩ = some (.slice da D.length dc) ∧ X.cell? ⟨w.heap.size, 4, none⟩ = some (.slice ta TM.length tc) ∧ X.cell? ⟨w.heap.size, 5, none⟩ = some (.slice ka CT.length kc) ∧ X.cell? ⟨w.heap.size, 6, none⟩ = some (.slice va VR.length vc) ∧ X.cell? ⟨w.heap.size, 7, none⟩ = some (.slice (some ⟨g, o, none⟩) SG.length sc) ∧ X.cell? ⟨w.heap.size, 8, none⟩ = some (.int .i64 (st : Int)) ∧ X.cell? ⟨g, o + i * 7 + 2, none⟩ = some (.int .u64 ((gOf SG (i : Int) : Nat) : Int)) ∧ X.cell? ⟨g, o + i * 7 + 6, none⟩ = some (.slice (some ⟨gN, oN, none⟩) LN.length xnc) ∧ X.cell? ⟨gN, oN + m * 2, none⟩ = some (.int .i64 (t : Int)) := fun X hX => ⟨(K1.below hX).2.1 0, (K1.below hX).2.1 1, (K1.below hX).2.1 2, (K1.below hX).2.1 3, (K1.below hX).2.1 4, (K1.below hX).2.1 5, (K1.below hX).2.1 6, (K1.below hX).2.1 7, (K1.below hX).2.1 8, hgi X (hbw hX), (hp6 X (hbw hX)).trans (by rw [exn]), hN2 X (hbw hX)⟩
         subst exn
         go_wp2_with fail
         refine wp_region_noPanic ?_; refine wp_region_held_drew (S := fun w' => w'.cell? ⟨w.heap.size, 0, none⟩ = some (.string pn) ∧ w'.cell? ⟨w.heap.size, 1, none⟩ = some (.slice ga G.length gc) ∧ w'.cell? ⟨w.heap.size, 2, none⟩ = some (.slice ca C.length cc) ∧ w'.cell? ⟨w.heap.size, 3, none⟩ = some (.slice da D.length dc) ∧ w'.cell? ⟨w.heap.size, 4, none⟩ = some (.slice ta TM.length tc) ∧ w'.cell? ⟨w.heap.size, 5, none⟩ = some (.slice ka CT.length kc) ∧ w'.cell? ⟨w.heap.size, 6, none⟩ = some (.slice va VR.length vc) ∧ w'.cell? ⟨w.heap.size, 7, none⟩ = some (.slice (some ⟨g, o, none⟩) SG.length sc) ∧ w'.cell? ⟨w.heap.size, 8, none⟩ = some (.int .i64 (st : Int)) ∧ w'.cell? ⟨g, o + i * 7 + 2, none⟩ = some (.int .u64 ((gOf SG (i : Int) : Nat) : Int)) ∧ w'.cell? ⟨g, o + i * 7 + 6, none⟩ = some (.slice (some ⟨gN, oN, none⟩) LN.length xnc) ∧ w'.cell? ⟨gN, oN + m * 2, none⟩ = some (.int .i64 (t : Int))) (by kernel_rfl) ?_ (fun hHeld => ?_)
         ·(try dsimp only)
          exact sS _ hr0.drew.hb
         refine tkY 0 ?_; refine tkY 1 ?_; refine tkY 2 ?_; refine tkY 3 ?_; refine tkY 4 ?_; refine tkY 5 ?_; refine tkY 6 ?_; refine tkY 7 ?_; refine tkY 8 ?_; refine tkY 9 ?_; refine tkY 10 ?_; refine tkY 11 ?_; refine tkY 12 ?_; refine tkY 13 ?_; refine tkY 14 ?_; refine tkY 15 ?_; refine tkY 16 ?_; refine tkY 17 ?_; refine tkY 18 ?_; refine wpAnyH_ready (rs := [19]) (by kernel_rfl) (by simp) ?_; refine AllReadyH.cons (o := ⟨some 76, .call { callee := Callee.value (.func 49), args := #[.tmp 57, .tmp 58, .tmp 59, .tmp 65, .tmp 75], argTypes := #[107, 31, 3, 47, 3] }, 0, "safety.go:253", #[⟨0, .data⟩, ⟨1, .data⟩, ⟨2, .data⟩, ⟨8, .data⟩, ⟨18, .data⟩], none⟩) rfl (fun K hK => ?_) AllReadyH.nil
         go_simp
         go_at_call 49
         (with_reducible refine Calls.mono (k49 i hlt t ht _ _ _ _ hr0.drew) ?_)
         rintro e w7 ⟨rfl, fa7, fc7, hr7⟩
         go_wp2_with fail
         refine hK.out _ _ ?_ (fun hHeld => ?_)
         ·(try dsimp only)
          exact sS _ hr7.hb
         clear hK K
         (try simp only [Act.put, List.setIfInBounds_toArray, List.set_cons_zero, List.set_cons_succ])
         refine wpAnyH_done (by kernel_rfl) ?_ _; refine NoPanic.normal ?_
         go_wp2_with fail
         go_roundw
         case rel => exact ⟨m + 1, fa7, fc7, _, hmm, by go_num, (by first | exact hq | (show _ = _; simpa using hq)), hr7⟩
         case measure => simp [intOf]; omega
theorem sameTyped_any (G : List Gp) (C : List Cf) (D : List Dt) (TM CT : List ByteArray) (VR : List Vr) (SG : List Ts) (pn : ByteArray) (ga1 ca1 da1 ta1 ka1 va1 sa1 ga2 ca2 da2 ta2 ka2 va2 sa2 : Option Addr) (gc1 cc1 dc1 tc1 kc1 vc1 sc1 gc2 cc2 dc2 tc2 kc2 vc2 sc2 : Nat) (stt : Int) (w : World) (hG1 : Fl 5 Gp.cs w (.slice ga1 G.length gc1) G) (hF1 : Fl 4 Cf.cs w (.slice ca1 C.length cc1) C) (hD1 : Fl 4 Dt.cs w (.slice da1 D.length dc1) D) (hT1 : Fl 1 txC w (.slice ta1 TM.length tc1) TM) (hC1 : Fl 1 txC w (.slice ka1 CT.length kc1) CT) (hV1 : Fl 2 Vr.cs w (.slice va1 VR.length vc1) VR) (hS1 : Tss (fun _ => True) w (.slice sa1 SG.length sc1) SG) (hG2 : Fl 5 Gp.cs w (.slice ga2 G.length gc2) G) (hF2 : Fl 4 Cf.cs w (.slice ca2 C.length cc2) C) (hD2 : Fl 4 Dt.cs w (.slice da2 D.length dc2) D) (hT2 : Fl 1 txC w (.slice ta2 TM.length tc2) TM) (hC2 : Fl 1 txC w (.slice ka2 CT.length kc2) CT) (hV2 : Fl 2 Vr.cs w (.slice va2 VR.length vc2) VR) (hS2 : Tss (fun _ => True) w (.slice sa2 SG.length sc2) SG)
  (lG : G.length ≤ 2932031007317) (lF : C.length ≤ 4398046511000) (lT : TM.length ≤ 8796093022100) (lC : CT.length ≤ 8796093022100) (lD : D.length ≤ 4611686018427387904) (lV : VR.length ≤ 4611686018427387904) (lS : SG.length ≤ 4611686018427387904) :
  Calls Tryz.prog 18 #[.agg #[.string pn, .slice ga1 G.length gc1, .slice ca1 C.length cc1, .slice da1 D.length dc1, .slice ta1 TM.length tc1, .slice ka1 CT.length kc1, .slice va1 VR.length vc1, .slice sa1 SG.length sc1, .int .i64 stt], .agg #[.string pn, .slice ga2 G.length gc2, .slice ca2 C.length cc2, .slice da2 D.length dc2, .slice ta2 TM.length tc2, .slice ka2 CT.length kc2, .slice va2 VR.length vc2, .slice sa2 SG.length sc2, .int .i64 stt]] w fun e w' => e = .returned (.bool true) ∧ Below w.heap.size w w' := by
 have hb0 : Below w.heap.size w ((w.alloc (.cells #[.string pn, .slice ga1 G.length gc1, .slice ca1 C.length cc1, .slice da1 D.length dc1, .slice ta1 TM.length tc1, .slice ka1 CT.length kc1, .slice va1 VR.length vc1, .slice sa1 SG.length sc1, .int .i64 stt] 31)).alloc (.cells #[.string pn, .slice ga2 G.length gc2, .slice ca2 C.length cc2, .slice da2 D.length dc2, .slice ta2 TM.length tc2, .slice ka2 CT.length kc2, .slice va2 VR.length vc2, .slice sa2 SG.length sc2, .int .i64 stt] 31)) := belA
 have K1 : Has ((w.alloc (.cells #[.string pn, .slice ga1 G.length gc1, .slice ca1 C.length cc1, .slice da1 D.length dc1, .slice ta1 TM.length tc1, .slice ka1 CT.length kc1, .slice va1 VR.length vc1, .slice sa1 SG.length sc1, .int .i64 stt] 31)).alloc (.cells #[.string pn, .slice ga2 G.length gc2, .slice ca2 C.length cc2, .slice da2 D.length dc2, .slice ta2 TM.length tc2, .slice ka2 CT.length kc2, .slice va2 VR.length vc2, .slice sa2 SG.length sc2, .int .i64 stt] 31)) w.heap.size #[.string pn, .slice ga1 G.length gc1, .slice ca1 C.length cc1, .slice da1 D.length dc1, .slice ta1 TM.length tc1, .slice ka1 CT.length kc1, .slice va1 VR.length vc1, .slice sa1 SG.length sc1, .int .i64 stt] := (Has.new _ _ _ rfl).alloc _
 have K2 : Has ((w.alloc (.cells #[.string pn, .slice ga1 G.length gc1, .slice ca1 C.length cc1, .slice da1 D.length dc1, .slice ta1 TM.length tc1, .slice ka1 CT.length kc1, .slice va1 VR.length vc1, .slice sa1 SG.length sc1, .int .i64 stt] 31)).alloc (.cells #[.string pn, .slice ga2 G.length gc2, .slice ca2 C.length cc2, .slice da2 D.length dc2, .slice ta2 TM.length tc2, .slice ka2 CT.length kc2, .slice va2 VR.length vc2, .slice sa2 SG.length sc2, .int .i64 stt] 31)) (w.heap.size + 1) #[.string pn, .slice ga2 G.length gc2, .slice ca2 C.length cc2, .slice da2 D.length dc2, .slice ta2 TM.length tc2, .slice ka2 CT.length kc2, .slice va2 VR.length vc2, .slice sa2 SG.length sc2, .int .i64 stt] := Has.new _ _ _ (by simp)
 have k45 := fun (X : World) (hX : Below w.heap.size w X) => sameTables_any G C _ _ _ _ X (hG1.below hX) (hF1.below hX) (hG2.below hX) (hF2.below hX) lG lF
 have k46t := fun (X : World) (hX : Below w.heap.size w X) => zEp TM _ _ X (hT1.below hX) (hT2.below hX) lT
 have k46c := fun (X : World) (hX : Below w.heap.size w X) => zEp CT _ _ X (hC1.below hX) (hC2.below hX) lC
 clear hG1 hF1 hG2 hF2 hT1 hT2 hC1 hC2
 go_enter Tryz.func18, Tryz.ntmps18
 go_wp2_with fail
 generalize ((w.alloc (.cells #[.string pn, .slice ga1 G.length gc1, .slice ca1 C.length cc1, .slice da1 D.length dc1, .slice ta1 TM.length tc1, .slice ka1 CT.length kc1, .slice va1 VR.length vc1, .slice sa1 SG.length sc1, .int .i64 stt] 31)).alloc (.cells #[.string pn, .slice ga2 G.length gc2, .slice ca2 C.length cc2, .slice da2 D.length dc2, .slice ta2 TM.length tc2, .slice ka2 CT.length kc2, .slice va2 VR.length vc2, .slice sa2 SG.length sc2, .int .i64 stt] 31)) = Y at *
 go_at_call 50
 refine Calls.mono (k45 _ hb0) ?_
 rintro e w1 ⟨rfl, h1⟩
 have hb1 := zAa hb0 hb0.size h1
 have J1 := K1.below h1
 have J2 := K2.below h1
 obtain ⟨_, j1, _⟩ := id J1
 obtain ⟨_, j2, _⟩ := id J2
 go_wp2_with fail
 go_at_call 51
 (with_reducible refine Calls.mono (k46t _ hb1) ?_)
 rintro e w2 ⟨rfl, h2⟩
 have hb2 := zAa hb1 hb1.size h2
 have J1 := J1.below h2
 have J2 := J2.below h2
 clear j1 j2
 obtain ⟨_, j1, _⟩ := id J1
 obtain ⟨_, j2, _⟩ := id J2
 go_wp2_with fail
 go_at_call 51
 (with_reducible refine Calls.mono (k46c _ hb2) ?_)
 rintro e w3 ⟨rfl, h3⟩
 have J1 := J1.below h3
 have J2 := J2.below h3
 have hS3 : Below Y.heap.size Y w3 := zAa (zAa h1 h1.size h2) (zAa h1 h1.size h2).size h3
 clear j1 j2 k45 k46t k46c
 obtain ⟨_, j1, _⟩ := id J1
 obtain ⟨_, j2, _⟩ := id J2
 go_wp2_with fail
 go_loopw [5] (fun t wr => ∃ k : Nat, k ≤ D.length ∧ t = .int .i64 (k : Int) ∧ Hid (Below Y.heap.size Y wr)) (fun t _ => D.length - (intOf t).toNat)
 case atStart => exact ⟨0, by omega, rfl, hS3⟩
 case round =>
  clear j1 j2; obtain ⟨k, hk, rfl, hb'⟩ := hrel; have hb := zAa hb0 hb0.size hb'.out; have J1 := K1.below hb'.out; have J2 := K2.below hb'.out; obtain ⟨_, j1, _⟩ := id J1; obtain ⟨_, j2, _⟩ := id J2
  by_cases hlt : k < D.length
  ·obtain ⟨_, _, e1, kk1⟩ := hD1.any
   obtain ⟨_, _, e2, kk2⟩ := hD2.any; injection e1 with e1 _ e1'
   injection e2 with e2 _ e2'
   subst e1 e1' e2 e2'; obtain ⟨g1, o1, rfl, hg1, P1⟩ := kk1.resolve_left (by intro e; rw [e] at hlt; simp at hlt); obtain ⟨g3, o3, rfl, hg3, P3⟩ := kk2.resolve_left (by intro e; rw [e] at hlt; simp at hlt); have p0 := (hb.cell (p := ⟨g1, _, none⟩) hg1).trans (P1 k hlt 0 _ rfl); have r0 := (hb.cell (p := ⟨g3, _, none⟩) hg3).trans (P3 k hlt 0 _ rfl); have p1 := (hb.cell (p := ⟨g1, _, none⟩) hg1).trans (P1 k hlt 1 _ rfl); have r1 := (hb.cell (p := ⟨g3, _, none⟩) hg3).trans (P3 k hlt 1 _ rfl); have p2 := (hb.cell (p := ⟨g1, _, none⟩) hg1).trans (P1 k hlt 2 _ rfl); have r2 := (hb.cell (p := ⟨g3, _, none⟩) hg3).trans (P3 k hlt 2 _ rfl); have p3 := (hb.cell (p := ⟨g1, _, none⟩) hg1).trans (P1 k hlt 3 _ rfl); have r3 := (hb.cell (p := ⟨g3, _, none⟩) hg3).trans (P3 k hlt 3 _ rfl); simp only [Nat.add_zero] at p0 r0; have t1 : (k : Int) < (D.length : Int) := by omega
   have t0 : (0 : Int) ≤ (k : Int) := by omega
   clear P1 P3; generalize D[k].name = x0 at *; generalize D[k].latch = x1 at *; generalize D[k].delay = x2 at *; generalize D[k].hold = x3 at *
   go_wp2_with fail
   go_quiet (fail)
   go_wp2_with fail
   have hb2 : Hid (Below Y.heap.size Y (wr.drewN nq)) := zAh hb'.out; go_roundw
   case rel => exact ⟨k + 1, by omega, by go_num, hb2⟩
   case measure => simp [intOf]; omega
  ·have t1 : ¬ (k : Int) < (D.length : Int) := by omega
   obtain rfl : k = D.length := by omega
   go_wp2_with fail
   go_loopw [6] (fun t wr => ∃ k : Nat, k ≤ VR.length ∧ t = .int .i64 (k : Int) ∧ Hid (Below Y.heap.size Y wr)) (fun t _ => VR.length - (intOf t).toNat)
   case atStart => exact ⟨0, by omega, rfl, hb'.out⟩
   case round =>
    clear j1 j2; obtain ⟨k, hk, rfl, hb'⟩ := hrel; have hb := zAa hb0 hb0.size hb'.out; have J1 := K1.below hb'.out; have J2 := K2.below hb'.out; obtain ⟨_, j1, _⟩ := id J1; obtain ⟨_, j2, _⟩ := id J2
    by_cases hlt : k < VR.length
    ·obtain ⟨_, _, e1, kk1⟩ := hV1.any
     obtain ⟨_, _, e2, kk2⟩ := hV2.any; injection e1 with e1 _ e1'
     injection e2 with e2 _ e2'
     subst e1 e1' e2 e2'; obtain ⟨g1, o1, rfl, hg1, P1⟩ := kk1.resolve_left (by intro e; rw [e] at hlt; simp at hlt); obtain ⟨g3, o3, rfl, hg3, P3⟩ := kk2.resolve_left (by intro e; rw [e] at hlt; simp at hlt); have p0 := (hb.cell (p := ⟨g1, _, none⟩) hg1).trans (P1 k hlt 0 _ rfl); have r0 := (hb.cell (p := ⟨g3, _, none⟩) hg3).trans (P3 k hlt 0 _ rfl); have p1 := (hb.cell (p := ⟨g1, _, none⟩) hg1).trans (P1 k hlt 1 _ rfl); have r1 := (hb.cell (p := ⟨g3, _, none⟩) hg3).trans (P3 k hlt 1 _ rfl); simp only [Nat.add_zero] at p0 r0; have t1 : (k : Int) < (VR.length : Int) := by omega
     have t0 : (0 : Int) ≤ (k : Int) := by omega
     clear P1 P3; generalize VR[k].name = x0 at *; generalize VR[k].init = x1 at *
     go_wp2_with fail
     go_quiet (fail)
     go_wp2_with fail
     have hb2 : Hid (Below Y.heap.size Y (wr.drewN nq)) := zAh hb'.out; go_roundw
     case rel => exact ⟨k + 1, by omega, by go_num, hb2⟩
     case measure => simp [intOf]; omega
    ·have t1 : ¬ (k : Int) < (VR.length : Int) := by omega
     obtain rfl : k = VR.length := by omega
     go_wp2_with fail
     go_loopw [7] (fun t wr => ∃ k : Nat, k ≤ SG.length ∧ t = .int .i64 (k : Int) ∧ Hid (Below Y.heap.size Y wr)) (fun t _ => SG.length - (intOf t).toNat)
     case atStart => exact ⟨0, by omega, rfl, hb'.out⟩
     case round =>
      clear j1 j2; obtain ⟨k, hk, rfl, hb'⟩ := hrel; have hb := zAa hb0 hb0.size hb'.out; have J1 := K1.below hb'.out; have J2 := K2.below hb'.out; obtain ⟨_, j1, _⟩ := id J1; obtain ⟨_, j2, _⟩ := id J2
      by_cases hlt : k < SG.length
      ·obtain ⟨_, _, e1, _, kk1⟩ := Rows.any hS1
       obtain ⟨_, _, e2, _, kk2⟩ := Rows.any hS2; injection e1 with e1 _ e1'
       injection e2 with e2 _ e2'
       subst e1 e1' e2 e2'; obtain ⟨g1, o1, rfl, _, hg1, P1⟩ := kk1.resolve_left (by intro e; rw [e] at hlt; simp at hlt); obtain ⟨g3, o3, rfl, _, hg3, P3⟩ := kk2.resolve_left (by intro e; rw [e] at hlt; simp at hlt); obtain ⟨cs1, _, ⟨v1, v2, v3, v4, rfl, z1, z2, z3, z4⟩, P1⟩ := P1 k hlt; obtain ⟨cs3, _, ⟨u1, u2, u3, u4, rfl, s1, s2, s3, s4⟩, P3⟩ := P3 k hlt; obtain ⟨e1, f1, rfl, -⟩ := Rows.any z1; obtain ⟨d1, b1, rfl, -⟩ := Rows.any z2; obtain ⟨l1, q1, rfl, -⟩ := Rows.any z3; obtain ⟨n1, m1, rfl, -⟩ := Rows.any z4; obtain ⟨e2, f2, rfl, -⟩ := Rows.any s1; obtain ⟨d2, b2, rfl, -⟩ := Rows.any s2; obtain ⟨l2, q2, rfl, -⟩ := Rows.any s3; obtain ⟨n2, m2, rfl, -⟩ := Rows.any s4; have hN := fun (X : World) (hX : Below w.heap.size w X) => sameStage_any SG[k] _ _ _ _ _ _ _ _ _ _ _ _ _ _ _ _ _ _ X (TsR.mv (S' := fun _ => True) (show TsR (fun _ => True) w _ _ from ⟨_, _, _, _, rfl, z1, z2, z3, z4⟩) (Mv.below hX)) (TsR.mv (S' := fun _ => True) (show TsR (fun _ => True) w _ _ from ⟨_, _, _, _, rfl, s1, s2, s3, s4⟩) (Mv.below hX))
       have p0 := (hb.cell (p := ⟨g1, _, none⟩) hg1).trans (P1 0 _ rfl); have r0 := (hb.cell (p := ⟨g3, _, none⟩) hg3).trans (P3 0 _ rfl); have p1 := (hb.cell (p := ⟨g1, _, none⟩) hg1).trans (P1 1 _ rfl); have r1 := (hb.cell (p := ⟨g3, _, none⟩) hg3).trans (P3 1 _ rfl); have p2 := (hb.cell (p := ⟨g1, _, none⟩) hg1).trans (P1 2 _ rfl); have r2 := (hb.cell (p := ⟨g3, _, none⟩) hg3).trans (P3 2 _ rfl); have p3 := (hb.cell (p := ⟨g1, _, none⟩) hg1).trans (P1 3 _ rfl); have r3 := (hb.cell (p := ⟨g3, _, none⟩) hg3).trans (P3 3 _ rfl); have p4 := (hb.cell (p := ⟨g1, _, none⟩) hg1).trans (P1 4 _ rfl); have r4 := (hb.cell (p := ⟨g3, _, none⟩) hg3).trans (P3 4 _ rfl); have p5 := (hb.cell (p := ⟨g1, _, none⟩) hg1).trans (P1 5 _ rfl); have r5 := (hb.cell (p := ⟨g3, _, none⟩) hg3).trans (P3 5 _ rfl); have p6 := (hb.cell (p := ⟨g1, _, none⟩) hg1).trans (P1 6 _ rfl); have r6 := (hb.cell (p := ⟨g3, _, none⟩) hg3).trans (P3 6 _ rfl); simp only [Nat.add_zero] at p0 r0; have y1 := J1.2.1 7; have y2 := J2.2.1 7; simp only [List.getElem?_toArray, List.getElem?_cons_succ, List.getElem?_cons_zero] at y1 y2; have t1 : (k : Int) < (SG.length : Int) := by omega
       have t0 : (0 : Int) ≤ (k : Int) := by omega
       have hbn0 : Below w.heap.size w wr.drew := hb.drew; clear P1 P3 z1 z2 z3 z4 s1 s2 s3 s4; generalize SG[k] = x at *
       go_wp2_with fail
       refine wp_region_noPanic ?_; refine wp_region_held_drew (S := fun w' => w'.cell? ⟨w.heap.size, 7, none⟩ = some (.slice (some ⟨g1, o1, none⟩) SG.length sc1) ∧ w'.cell? ⟨w.heap.size + 1, 7, none⟩ = some (.slice (some ⟨g3, o3, none⟩) SG.length sc2) ∧ w'.cell? ⟨g1, o1 + k * 7, none⟩ = some (.string x.name) ∧ w'.cell? ⟨g1, o1 + k * 7 + 1, none⟩ = some (.int .i64 x.id) ∧ w'.cell? ⟨g1, o1 + k * 7 + 2, none⟩ = some (.int .u64 x.green) ∧ w'.cell? ⟨g1, o1 + k * 7 + 3, none⟩ = some (.slice e1 x.enter.length f1) ∧ w'.cell? ⟨g1, o1 + k * 7 + 4, none⟩ = some (.slice d1 x.during.length b1) ∧ w'.cell? ⟨g1, o1 + k * 7 + 5, none⟩ = some (.slice l1 x.leave.length q1) ∧ w'.cell? ⟨g1, o1 + k * 7 + 6, none⟩ = some (.slice n1 x.nexts.length m1) ∧ w'.cell? ⟨g3, o3 + k * 7, none⟩ = some (.string x.name) ∧ w'.cell? ⟨g3, o3 + k * 7 + 1, none⟩ = some (.int .i64 x.id) ∧ w'.cell? ⟨g3, o3 + k * 7 + 2, none⟩ = some (.int .u64 x.green) ∧ w'.cell? ⟨g3, o3 + k * 7 + 3, none⟩ = some (.slice e2 x.enter.length f2) ∧ w'.cell? ⟨g3, o3 + k * 7 + 4, none⟩ = some (.slice d2 x.during.length b2) ∧ w'.cell? ⟨g3, o3 + k * 7 + 5, none⟩ = some (.slice l2 x.leave.length q2) ∧ w'.cell? ⟨g3, o3 + k * 7 + 6, none⟩ = some (.slice n2 x.nexts.length m2)) (by kernel_rfl) ?_ (fun hHeld => ?_)
       ·(try dsimp only)
        exact ⟨y1, y2, p0, p1, p2, p3, p4, p5, p6, r0, r1, r2, r3, r4, r5, r6⟩
       refine tkY 0 ?_; refine tkY 1 ?_; refine tkY 2 ?_; refine tkY 3 ?_; refine tkY 4 ?_; refine tkY 5 ?_; refine tkY 6 ?_; refine tkY 7 ?_; refine tkY 8 ?_; refine tkY 9 ?_; refine wpAnyH_ready (rs := [10]) (by kernel_rfl) (by simp) ?_; refine AllReadyH.cons (o := ⟨some 122, .call { callee := Callee.value (.func 52), args := #[.tmp 116, .tmp 121], argTypes := #[51, 51] }, 4, "sound.go:353", #[⟨4, .data⟩, ⟨9, .data⟩], none⟩) rfl (fun K hK => ?_) AllReadyH.nil
       go_simp
       go_at_call 52
       (with_reducible refine Calls.mono (hN _ (by exact hbn0)) ?_)
       rintro e wn ⟨rfl, hbn⟩
       go_wp2_with fail
       refine hK.out _ _ ?_ (fun hHeld => ?_)
       ·(try dsimp only)
        obtain ⟨h0, h1, h2, h3, h4, h5, h6, h7, h8, h9, h10, h11, h12, h13, h14, h15⟩ := hHeld; exact ⟨(hbn.cell (p := ⟨w.heap.size, _, none⟩) (zAb h0)).trans h0, (hbn.cell (p := ⟨w.heap.size + 1, _, none⟩) (zAb h1)).trans h1, (hbn.cell (p := ⟨g1, _, none⟩) (zAb h2)).trans h2, (hbn.cell (p := ⟨g1, _, none⟩) (zAb h3)).trans h3, (hbn.cell (p := ⟨g1, _, none⟩) (zAb h4)).trans h4, (hbn.cell (p := ⟨g1, _, none⟩) (zAb h5)).trans h5, (hbn.cell (p := ⟨g1, _, none⟩) (zAb h6)).trans h6, (hbn.cell (p := ⟨g1, _, none⟩) (zAb h7)).trans h7, (hbn.cell (p := ⟨g1, _, none⟩) (zAb h8)).trans h8, (hbn.cell (p := ⟨g3, _, none⟩) (zAb h9)).trans h9, (hbn.cell (p := ⟨g3, _, none⟩) (zAb h10)).trans h10, (hbn.cell (p := ⟨g3, _, none⟩) (zAb h11)).trans h11, (hbn.cell (p := ⟨g3, _, none⟩) (zAb h12)).trans h12, (hbn.cell (p := ⟨g3, _, none⟩) (zAb h13)).trans h13, (hbn.cell (p := ⟨g3, _, none⟩) (zAb h14)).trans h14, (hbn.cell (p := ⟨g3, _, none⟩) (zAb h15)).trans h15⟩
       clear hK K
       (try simp only [Act.put, List.setIfInBounds_toArray, List.set_cons_zero, List.set_cons_succ])
       refine tkY 11 ?_; refine wpAnyH_done (by kernel_rfl) ?_ _; refine NoPanic.normal ?_
       go_wp2_with fail
       have hb2 : Hid (Below Y.heap.size Y wn) := zAa hb'.out.drew hb'.out.size hbn; go_roundw
       case rel => exact ⟨k + 1, by omega, by go_num, hb2⟩
       case measure => simp [intOf]; omega
      ·have t1 : ¬ (k : Int) < (SG.length : Int) := by omega
       go_wp2_with fail
       go_ret; exact ⟨rfl, hb⟩
end Go.Proofs.YtjfieclmagbfbaaGreatDoor
