import Derived.Test.YtnicolaphmffkaaGreatDoorSnQ
namespace Go.Proofs.YtnicolaphmffkaaGreatDoor
open Go.RowKit
set_option linter.unusedVariables false
set_option linter.unusedSimpArgs false

/-- A change. -/
def nxZ (z : Sz) (n i : Nat) (x : Tn) : Bool := plB x.dst n && (!decide (x.dst = (i : Int)) && sxB z x.wh 2)
def sg1 (z : Sz) (last id gr : Int) : Bool := decide (last < id) && (decide (id < 256) && decide (gr / 2 ^ z.g = 0))
def rsZ (z : Sz) (L1 L2 L3 : List St) (j : Nat) : Bool := if j = 0 then brZ z [] L1 && (brZ z [] L2 && brZ z [] L3) else if j = 1 then brZ z [] L2 && brZ z [] L3 else if j = 2 then brZ z [] L3 else true
/-- A stage at its place, behind one of that number. -/
def sgZ (z : Sz) (n i : Nat) (last : Int) (s : Ts) : Bool := sg1 z last s.id s.green && (rsZ z s.enter s.during s.leave 0 && s.nexts.all (nxZ z n i))
def sgsZ (z : Sz) (n : Nat) : Nat → Int → List Ts → Bool
  | _, _, [] => true
  | i, last, s :: L => sgZ z n i last s && sgsZ z n (i + 1) s.id L
theorem sgsZ_drop (z : Sz) (n i : Nat) (last : Int) (L : List Ts) (k : Nat) (h : k < L.length) : sgsZ z n i last (L.drop k) = (sgZ z n i last L[k] && sgsZ z n (i + 1) L[k].id (L.drop (k + 1))) := by
  rw [List.drop_eq_getElem_cons h]; rfl
theorem all_dropZ {α : Type} (f : α → Bool) (L : List α) (k : Nat) (h : k < L.length) : (L.drop k).all f = (f L[k] && (L.drop (k + 1)).all f) := by
  rw [List.drop_eq_getElem_cons h]; rfl
/-- Every value is a word. -/
def Ts.ok (s : Ts) : Prop := (∀ x ∈ s.enter, ∀ y ∈ x.expr, vOk y.val) ∧ (∀ x ∈ s.during, ∀ y ∈ x.expr, vOk y.val) ∧ (∀ x ∈ s.leave, ∀ y ∈ x.expr, vOk y.val) ∧ (∀ x ∈ s.nexts, ∀ y ∈ x.wh, vOk y.val)
set_option maxRecDepth 100000 in
set_option maxHeartbeats 8000000 in
theorem sStages_any (G : List Gp) (D : List Dt) (TM CT : List ByteArray) (VR : List Vr) (SG : List Ts) (pn : ByteArray) (ga ca da ta ka va sa : Option Addr) (gc nC cc dc tc kc vc sc : Nat) (stt : Int) (w : World) (hS : Tss (fun _ => True) w (.slice sa SG.length sc) SG) (lG : G.length ≤ 64) (lS : SG.length ≤ 256) (hr : ∀ s ∈ SG, s.ok) :
    Calls Tryz.prog 36 #[(.agg #[.string pn, .slice ga G.length gc, .slice ca nC cc, .slice da D.length dc, .slice ta TM.length tc, .slice ka CT.length kc, .slice va VR.length vc, .slice sa SG.length sc, .int .i64 stt])] w fun e w' => e = .returned (.bool (sgsZ ⟨G.length, D.length, TM.length, CT.length, VR.length⟩ SG.length 0 (-1) SG)) ∧ Below w.heap.size w w' := by
  obtain ⟨_, _, e1, _, kS⟩ := Rows.any hS
  injection e1 with e1 _ e2
  subst e1
  subst e2
  clear hS
  have hA0 : sgsZ ⟨G.length, D.length, TM.length, CT.length, VR.length⟩ SG.length 0 (-1) (SG.drop 0) = sgsZ ⟨G.length, D.length, TM.length, CT.length, VR.length⟩ SG.length 0 (-1) SG := rfl
  generalize sgsZ ⟨G.length, D.length, TM.length, CT.length, VR.length⟩ SG.length 0 (-1) SG = A at *
  have hb0 : Below w.heap.size w (w.alloc (.cells #[.string pn, .slice ga G.length gc, .slice ca nC cc, .slice da D.length dc, .slice ta TM.length tc, .slice ka CT.length kc, .slice va VR.length vc, .slice sa SG.length sc, .int .i64 stt] 31)) := bel1 _
  have K0 : Has (w.alloc (.cells #[.string pn, .slice ga G.length gc, .slice ca nC cc, .slice da D.length dc, .slice ta TM.length tc, .slice ka CT.length kc, .slice va VR.length vc, .slice sa SG.length sc, .int .i64 stt] 31)) w.heap.size #[.string pn, .slice ga G.length gc, .slice ca nC cc, .slice da D.length dc, .slice ta TM.length tc, .slice ka CT.length kc, .slice va VR.length vc, .slice sa SG.length sc, .int .i64 stt] := Has.new _ _ _ rfl
  have k33 := sizesOf_any G D TM CT VR SG pn ga ca da ta ka va sa gc nC cc dc tc kc vc sc stt (w.alloc (.cells #[.string pn, .slice ga G.length gc, .slice ca nC cc, .slice da D.length dc, .slice ta TM.length tc, .slice ka CT.length kc, .slice va VR.length vc, .slice sa SG.length sc, .int .i64 stt] 31))
  have k18 := fun (i : Int) X => place_any i (SG.length : Int) X
  have k36 := fun (L : List Nd) (vn : Value) (X : World) (hN : Nds X vn L) (hl : L.length ≤ 2932031007317) (hr : ∀ x ∈ L, vOk x.val) => sExpr_any ⟨G.length, D.length, TM.length, CT.length, VR.length⟩ L vn 2 X hN hl hr
  have k35 := fun (L : List St) (v : Value) (X : World) (h : Sts (fun _ => True) X v L) (hr : ∀ s ∈ L, ∀ x ∈ s.expr, vOk x.val) => sBlock_any ⟨G.length, D.length, TM.length, CT.length, VR.length⟩ L v (fun _ => True) X h hr
  go_enter Tryz.func36, Tryz.ntmps36
  go_wp2_with fail
  go_at_call 40
  refine Calls.mono k33 ?_
  rintro e w1 ⟨rfl, h1⟩
  have hb1 := bel_after hb0 hb0.size h1
  have K1 := K0.below h1
  have K2 := K1.alloc (.cells #[.int .i64 (G.length : Int), .int .i64 (D.length : Int), .int .i64 (TM.length : Int), .int .i64 (CT.length : Int), .int .i64 (VR.length : Int)] 104)
  have hb2 := hb1.alloc hb1.size (.cells #[.int .i64 (G.length : Int), .int .i64 (D.length : Int), .int .i64 (TM.length : Int), .int .i64 (CT.length : Int), .int .i64 (VR.length : Int)] 104)
  have T2 : Has (w1.alloc (.cells #[.int .i64 (G.length : Int), .int .i64 (D.length : Int), .int .i64 (TM.length : Int), .int .i64 (CT.length : Int), .int .i64 (VR.length : Int)] 104)) w1.heap.size #[.int .i64 (G.length : Int), .int .i64 (D.length : Int), .int .i64 (TM.length : Int), .int .i64 (CT.length : Int), .int .i64 (VR.length : Int)] := Has.new _ _ _ rfl
  obtain ⟨_, v1, v2⟩ := id K2
  go_wp2_with fail
  clear K0 K1 hb0 hb1 h1 k33 v1 v2
  generalize hW1 : w1.alloc (.cells #[.int .i64 (G.length : Int), .int .i64 (D.length : Int), .int .i64 (TM.length : Int), .int .i64 (CT.length : Int), .int .i64 (VR.length : Int)] 104) = W1 at *
  generalize w1.heap.size = tz at *
  go_loopw [4, 16] (fun u i wr => ∃ (k : Nat) (last : Int), k ≤ SG.length ∧ u = .int .i64 last ∧ i = .int .i64 (k : Int) ∧ Hid (sgsZ ⟨G.length, D.length, TM.length, CT.length, VR.length⟩ SG.length k last (SG.drop k) = A) ∧ Hid (Below W1.heap.size W1 wr)) (fun _ i _ => SG.length - (intOf i).toNat)
  case atStart => exact ⟨0, -1, by omega, rfl, rfl, hA0, Below.refl _ _⟩
  case round =>
    clear hA0
    obtain ⟨k, last, hkl, rfl, rfl, hq', hb'⟩ := hrel
    have hq := hq'.out
    have hb := hb'.out
    clear hq' hb'
    have hbB := bel_after hb2 hb2.size hb
    have Kk := K2.below hb
    have Tk := T2.below hb
    by_cases hlt : k < SG.length
    case neg =>
      have t1 : ¬ (k : Int) < (SG.length : Int) := by omega
      rw [List.drop_eq_nil_of_le (by omega)] at hq
      have hq2 : true = A := hq
      subst hq2
      clear kS k18 k35 k36 hq
      go_wp2_with fail
      go_ret
      exact ⟨rfl, hbB⟩
    case pos =>
      obtain ⟨g, o, rfl, _, hg, hx⟩ := kS.resolve_left (by intro e; rw [e] at hlt; simp at hlt)
      obtain ⟨cs, _, ⟨ve, vd, vl, vn, rfl, q1, q2, q3, q4⟩, P2⟩ := hx k hlt
      obtain ⟨r1, r2, r3, r4⟩ := hr _ (List.getElem_mem hlt)
      obtain ⟨e1, c1, rfl, _, -⟩ := Rows.any q1
      obtain ⟨e2, c2, rfl, _, -⟩ := Rows.any q2
      obtain ⟨e3, c3, rfl, _, -⟩ := Rows.any q3
      obtain ⟨e4, c4, rfl, _, k4⟩ := Rows.any q4
      have l4 := (tns_le q4).1
      have p0 := (hbB.cell (p := ⟨g, _, none⟩) hg).trans (P2 0 _ rfl)
      have p1 := (hbB.cell (p := ⟨g, _, none⟩) hg).trans (P2 1 _ rfl)
      have p2 := (hbB.cell (p := ⟨g, _, none⟩) hg).trans (P2 2 _ rfl)
      have p3 := (hbB.cell (p := ⟨g, _, none⟩) hg).trans (P2 3 _ rfl)
      have p4 := (hbB.cell (p := ⟨g, _, none⟩) hg).trans (P2 4 _ rfl)
      have p5 := (hbB.cell (p := ⟨g, _, none⟩) hg).trans (P2 5 _ rfl)
      have p6 := (hbB.cell (p := ⟨g, _, none⟩) hg).trans (P2 6 _ rfl)
      simp only [Nat.add_zero] at p0
      have t1 : (k : Int) < (SG.length : Int) := by omega
      have t0 : (0 : Int) ≤ (k : Int) := by omega
      rw [sgsZ_drop _ _ _ _ SG k hlt] at hq
      unfold sgZ at hq
      clear q4 P2 hx kS hr
      generalize SG[k].enter = L1 at *
      generalize SG[k].during = L2 at *
      generalize SG[k].leave = L3 at *
      generalize SG[k].nexts = L4 at *
      generalize SG[k].name = x0 at *
      generalize SG[k].id = x1 at *
      generalize SG[k].green = x2 at *
      have hb4 := hb.alloc hb.size (.cells #[.string x0, .int .i64 x1, .int .u64 x2, .slice e1 L1.length c1, .slice e2 L2.length c2, .slice e3 L3.length c3, .slice e4 L4.length c4] 81)
      have hbB4 := bel_after hb2 hb2.size hb4
      have Kk4 := Kk.alloc (.cells #[.string x0, .int .i64 x1, .int .u64 x2, .slice e1 L1.length c1, .slice e2 L2.length c2, .slice e3 L3.length c3, .slice e4 L4.length c4] 81)
      have KS0 : Has (wr.alloc (.cells #[.string x0, .int .i64 x1, .int .u64 x2, .slice e1 L1.length c1, .slice e2 L2.length c2, .slice e3 L3.length c3, .slice e4 L4.length c4] 81)) wr.heap.size #[.string x0, .int .i64 x1, .int .u64 x2, .slice e1 L1.length c1, .slice e2 L2.length c2, .slice e3 L3.length c3, .slice e4 L4.length c4] := Has.new _ _ _ rfl
      have kB := blocks_any x0 x1 x2 e1 e2 e3 e4 L1.length c1 L2.length c2 L3.length c3 L4.length c4 (wr.alloc (.cells #[.string x0, .int .i64 x1, .int .u64 x2, .slice e1 L1.length c1, .slice e2 L2.length c2, .slice e3 L3.length c3, .slice e4 L4.length c4] 81))
      have g0 : (0 : Int) ≤ (G.length : Int) := by omega
      have g1 : (G.length : Int) ≤ 64 := by omega
      by_cases z1 : last < x1
      case neg =>
        have t2 : x1 ≤ last := by omega
        have hq2 : A = false := by rw [← hq]; unfold sg1; simp [z1]
        subst hq2
        clear hq k18 k35 k36 kB
        go_wp2_with fail
        go_ret
        exact ⟨rfl, hbB4⟩
      have t2 : ¬ x1 ≤ last := by omega
      by_cases z2 : x1 < 256
      case neg =>
        have t3 : (256 : Int) ≤ x1 := by omega
        have hq2 : A = false := by rw [← hq]; unfold sg1; simp [z2]
        subst hq2
        clear hq k18 k35 k36 kB
        go_wp2_with fail
        go_ret
        exact ⟨rfl, hbB4⟩
      have t3 : ¬ (256 : Int) ≤ x1 := by omega
      by_cases z3 : x2 / 2 ^ G.length = 0
      case neg =>
        have hq2 : A = false := by rw [← hq]; unfold sg1; simp [z3]
        subst hq2
        obtain ⟨_, v1, v2⟩ := id Kk4
        clear hq k18 k35 k36 kB
        go_wp2_with fail
        go_ret
        exact ⟨rfl, hbB4⟩
      have hs1 : sg1 ⟨G.length, D.length, TM.length, CT.length, VR.length⟩ last x1 x2 = true := by unfold sg1; simp [z1, z2, z3]
      rw [hs1, Bool.true_and] at hq
      obtain ⟨_, v1, v2⟩ := id Kk4
      go_wp2_with fail
      go_at_call 68
      refine Calls.mono kB ?_
      rintro e wb ⟨rfl, hB⟩
      have hb5 := bel_after hb4 hb4.size hB
      have KS := KS0.below hB
      have Tb := (Tk.alloc (.cells #[.string x0, .int .i64 x1, .int .u64 x2, .slice e1 L1.length c1, .slice e2 L2.length c2, .slice e3 L3.length c3, .slice e4 L4.length c4] 81)).below hB
      have Kb := Kk4.below hB
      have hbB5 := bel_after hb2 hb2.size hb5
      clear v1 v2 hs1 kB hb4 hbB4 hb Kk4 KS0 Kk Tk p0 p1 p2 p3 p4 p5 p6 hB t2 t3 z1 z2 z3
      go_wp2_with fail
      generalize hR : sgsZ ⟨G.length, D.length, TM.length, CT.length, VR.length⟩ SG.length (k + 1) x1 (SG.drop (k + 1)) = R at *
      generalize hNX : L4.all (nxZ ⟨G.length, D.length, TM.length, CT.length, VR.length⟩ SG.length k) = NX at *
      have hq2 : (rsZ ⟨G.length, D.length, TM.length, CT.length, VR.length⟩ L1 L2 L3 0 && (NX && R)) = A := by rw [← hq, Bool.and_assoc]
      clear hq
      generalize wr.heap.size = wq at *
      go_loopw [44] (fun i wr => ∃ j : Nat, j ≤ 3 ∧ i = .int .i64 (j : Int) ∧ Hid ((rsZ ⟨G.length, D.length, TM.length, CT.length, VR.length⟩ L1 L2 L3 j && (NX && R)) = A) ∧ Hid (Below wb.heap.size wb wr)) (fun i _ => 3 - (intOf i).toNat)
      case atStart => exact ⟨0, by omega, rfl, hq2, Below.refl _ _⟩
      case round =>
        clear hq2
        obtain ⟨j, hj3, rfl, hq', hb'⟩ := hrel
        have hq := hq'.out
        have hb := hb'.out
        clear hq' hb'
        have hbJ := bel_after hbB5 hbB5.size hb
        have Kj := Kb.below hb
        have Tj := Tb.below hb
        have KSj := KS.below hb
        by_cases hj : j < 3
        case neg =>
          have s3 : ¬ (j : Int) < 3 := by omega
          obtain rfl : j = 3 := by omega
          have hr1 : rsZ ⟨G.length, D.length, TM.length, CT.length, VR.length⟩ L1 L2 L3 3 = true := rfl
          rw [hr1, Bool.true_and, ← hNX] at hq
          clear hr1 hbJ
          obtain ⟨_, v1, v2⟩ := id KSj
          go_wp2_with fail
          go_loopw [55] (fun i wr => ∃ m : Nat, m ≤ L4.length ∧ i = .int .i64 (m : Int) ∧ Hid (((L4.drop m).all (nxZ ⟨G.length, D.length, TM.length, CT.length, VR.length⟩ SG.length k) && R) = A) ∧ Hid (Below wb.heap.size wb wr)) (fun i _ => L4.length - (intOf i).toNat)
          case atStart => exact ⟨0, by omega, rfl, hq, hb⟩
          case round =>
            clear hq hb Kj Tj KSj v1 v2
            obtain ⟨m, hml, rfl, hq', hb'⟩ := hrel
            have hq := hq'.out
            have hb := hb'.out
            clear hq' hb'
            have hbJ := bel_after hbB5 hbB5.size hb
            have Kj := Kb.below hb
            have Tj := Tb.below hb
            have KSj := KS.below hb
            by_cases hm : m < L4.length
            case neg =>
              have s3 : ¬ (m : Int) < (L4.length : Int) := by omega
              rw [List.drop_eq_nil_of_le (by omega)] at hq
              have hq3 : R = A := hq
              clear hq k18 k35 k36
              have hbE := bel_after hb5 hb5.size hb
              go_wp2_with fail
              go_roundw
              case rel => exact ⟨k + 1, x1, by omega, rfl, by go_num, (by show _ = _; rw [hR]; exact hq3), hbE⟩
              case measure => simp [intOf]; omega
            case pos =>
              obtain ⟨g2, o2, rfl, _, hg2, hx2⟩ := k4.resolve_left (by intro e; rw [e] at hm; simp at hm)
              obtain ⟨cs2, _, ⟨v2, rfl, hv2⟩, h32⟩ := hx2 m hm
              have rw4 := r4 _ (List.getElem_mem hm)
              have hnd := hv2.nds.1
              obtain ⟨fa, fc, rfl, lfl, -⟩ := Rows.any hv2
              have p0 := (hbJ.cell (p := ⟨g2, _, none⟩) hg2).trans (h32 0 _ rfl)
              have p1 := (hbJ.cell (p := ⟨g2, _, none⟩) hg2).trans (h32 1 _ rfl)
              simp only [Nat.add_zero] at p0
              have s3 : (m : Int) < (L4.length : Int) := by omega
              have s2 : (0 : Int) ≤ (m : Int) := by omega
              rw [all_dropZ _ L4 m hm] at hq
              unfold nxZ plB at hq
              have k18' := fun X => k18 L4[m].dst X
              have hnA : wr.heap.size ≤ wr.heap.size := Nat.le_refl _
              have hb6 := hb.alloc hb.size (.cells #[.int .i64 L4[m].dst, .slice fa L4[m].wh.length fc] 84)
              have hbJ6 := hbJ.alloc hbJ.size (.cells #[.int .i64 L4[m].dst, .slice fa L4[m].wh.length fc] 84)
              have Kj6 := Kj.alloc (.cells #[.int .i64 L4[m].dst, .slice fa L4[m].wh.length fc] 84)
              have Tj6 := Tj.alloc (.cells #[.int .i64 L4[m].dst, .slice fa L4[m].wh.length fc] 84)
              have k36' := k36 L4[m].wh (.slice fa L4[m].wh.length fc) _ (hnd.below hbJ6) lfl rw4
              clear h32 hv2 hx2 rw4 hnd k18 k36 k35
              generalize sxB _ L4[m].wh 2 = SX at *
              generalize L4[m].wh.length = fl at *
              generalize L4[m].dst = w0 at *
              obtain ⟨_, v1, v2⟩ := id Kj6
              obtain ⟨_, v3, v4⟩ := id Tj6
              cases hP : (decide (0 ≤ w0) && decide (w0 < (SG.length : Int))) with
              | false =>
                rw [hP] at hq k18'
                have hq3 : A = false := by rw [← hq]; rfl
                subst hq3
                clear hq k36'
                go_wp2_with (go_at_call 35; (with_reducible refine Calls.mono (k18' _) ?_); rintro e wx ⟨rfl, hwx⟩; have hwy := hwx.symm; clear hwx; subst hwy)
                go_ret
                exact ⟨rfl, hbJ6⟩
              | true =>
                rw [hP, Bool.true_and] at hq
                rw [hP] at k18'
                by_cases hE : w0 = (k : Int)
                case pos =>
                  have hq3 : A = false := by rw [← hq]; simp [hE]
                  subst hq3
                  clear hq k36'
                  subst hE
                  go_wp2_with (go_at_call 35; (with_reducible refine Calls.mono (k18' _) ?_); rintro e wx ⟨rfl, hwx⟩; have hwy := hwx.symm; clear hwx; subst hwy)
                  go_ret
                  exact ⟨rfl, hbJ6⟩
                rw [show decide (w0 = (k : Int)) = false by simp [hE]] at hq
                cases SX with
                | false =>
                  have hq3 : A = false := by rw [← hq]; rfl
                  subst hq3
                  clear hq
                  go_wp2_with (go_at_call 35; (with_reducible refine Calls.mono (k18' _) ?_); rintro e wx ⟨rfl, hwx⟩; have hwy := hwx.symm; clear hwx; subst hwy)
                  go_at_call 41
                  refine Calls.mono k36' ?_
                  rintro e wf ⟨rfl, hF⟩
                  have hbF := bel_after hbJ6 hbJ6.size hF
                  go_wp2_with fail
                  go_ret
                  exact ⟨rfl, hbF⟩
                | true =>
                  have hq3 : Hid (((L4.drop (m + 1)).all (nxZ ⟨G.length, D.length, TM.length, CT.length, VR.length⟩ SG.length k) && R) = A) := hq
                  clear hq
                  go_wp2_with (go_at_call 35; (with_reducible refine Calls.mono (k18' _) ?_); rintro e wx ⟨rfl, hwx⟩; have hwy := hwx.symm; clear hwx; subst hwy)
                  go_at_call 41
                  refine Calls.mono k36' ?_
                  rintro e wf ⟨rfl, hF⟩
                  have hbF := bel_after hb6 hb6.size hF
                  go_wp2_with fail
                  go_roundw
                  case rel => exact ⟨m + 1, by omega, by go_num, hq3, hbF⟩
                  case measure => simp [intOf]; omega
        case pos =>
          have s3 : (j : Int) < 3 := by omega
          have hsel : ∃ (LJ : List St) (eJ : Option Addr) (cJ : Nat), (∀ X, (Instr.index 146 (.agg #[.slice e1 L1.length c1, .slice e2 L2.length c2, .slice e3 L3.length c3]) (.int .i64 (j : Int))).run Tryz.prog X = .ok (.slice eJ LJ.length cJ) X) ∧ Sts (fun _ => True) w (.slice eJ LJ.length cJ) LJ ∧ (∀ x ∈ LJ, ∀ y ∈ x.expr, vOk y.val) ∧ rsZ ⟨G.length, D.length, TM.length, CT.length, VR.length⟩ L1 L2 L3 j = (brZ ⟨G.length, D.length, TM.length, CT.length, VR.length⟩ [] LJ && rsZ ⟨G.length, D.length, TM.length, CT.length, VR.length⟩ L1 L2 L3 (j + 1)) := by
            have : j = 0 ∨ j = 1 ∨ j = 2 := by omega
            rcases this with rfl | rfl | rfl
            · exact ⟨L1, e1, c1, fun X => (ix85 _ _ _ X).1, q1, r1, by simp [rsZ]⟩
            · exact ⟨L2, e2, c2, fun X => (ix85 _ _ _ X).2.1, q2, r2, by simp [rsZ]⟩
            · exact ⟨L3, e3, c3, fun X => (ix85 _ _ _ X).2.2, q3, r3, by simp [rsZ]⟩
          obtain ⟨LJ, eJ, cJ, hix, hJ, hrJ, hr1⟩ := hsel
          rw [hr1] at hq
          have k35' := k35 LJ _ wr (Sts.below hJ hbJ) hrJ
          obtain ⟨_, v1, v2⟩ := id Tj
          clear hr1 hJ hrJ k18 k36 k35 k4 r4
          generalize brZ _ [] LJ = BJ at *
          go_wp2_with fail
          go_at_call 69
          refine Calls.mono k35' ?_
          rintro e wf ⟨rfl, hF⟩
          cases BJ with
          | false =>
            have hq3 : A = false := by rw [← hq]; rfl
            subst hq3
            have hbF := bel_after hbJ hbJ.size hF
            clear hq
            go_wp2_with fail
            go_ret
            exact ⟨rfl, hbF⟩
          | true =>
            have hq3 : Hid ((rsZ ⟨G.length, D.length, TM.length, CT.length, VR.length⟩ L1 L2 L3 (j + 1) && (NX && R)) = A) := hq
            have hbF := bel_after hb hb.size hF
            clear hq
            go_wp2_with fail
            go_roundw
            case rel => exact ⟨j + 1, by omega, by go_num, hq3, hbF⟩
            case measure => simp [intOf]; omega
end Go.Proofs.YtnicolaphmffkaaGreatDoor
namespace Go.Proofs.YtnicolaphmffkaaGreatDoor
open Go.RowKit
set_option linter.unusedVariables false
set_option linter.unusedSimpArgs false

set_option maxRecDepth 100000 in
set_option maxHeartbeats 8000000 in
theorem nodes_any (L : List St) (v : Value) (S : Nat → Prop) (w : World) (h : Sts S w v L) (hl : exN L ≤ 4611686018427387904) :
    Calls Tryz.prog 72 #[v] w fun e w' => e = .returned (.int .i64 (exN L : Int)) ∧ w' = w := by
  obtain ⟨a, cap, rfl, hlen, hc⟩ := Rows.any h
  have hA0 : exN (L.drop 0) = exN L := rfl
  generalize exN L = A at *
  clear h
  go_enter Tryz.func72, Tryz.ntmps72
  go_wp2_with fail
  go_loopw [3, 4] (fun u i wr => ∃ (m n : Nat), m ≤ L.length ∧ u = .int .i64 (n : Int) ∧ i = .int .i64 (m : Int) ∧ Hid (n + exN (L.drop m) = A) ∧ wr = w) (fun _ i _ => L.length - (intOf i).toNat)
  case atStart => exact ⟨0, 0, by omega, rfl, rfl, (by show _ = _; rw [hA0]; omega), rfl⟩
  case round =>
    clear hA0
    obtain ⟨m, n, hml, rfl, rfl, hq', rfl⟩ := hrel
    have hq := hq'.out
    clear hq'
    by_cases hm : m < L.length
    case neg =>
      have t4 : ¬ (m : Int) < (L.length : Int) := by omega
      rw [exN_end L m (by omega)] at hq
      obtain rfl : n = A := by omega
      clear hc hq
      go_wp2_with fail
      go_ret
      exact ⟨rfl, rfl⟩
    case pos =>
      obtain ⟨g2, o2, rfl, _, hg2, hx2⟩ := hc.resolve_left (by intro e; rw [e] at hm; simp at hm)
      obtain ⟨cs2, _, ⟨v2, rfl, hv2⟩, h32⟩ := hx2 m hm
      obtain ⟨fa, fc, rfl, -⟩ := Rows.any hv2
      have p3 := h32 3 _ rfl
      have t4 : (m : Int) < (L.length : Int) := by omega
      have t6 : (0 : Int) ≤ (m : Int) := by omega
      rw [exN_drop L m hm] at hq
      clear h32 hv2 hx2 hc
      generalize L[m].expr.length = fl at *
      go_wp2_with fail
      go_roundw
      case rel => exact ⟨m + 1, n + fl, by omega, by go_num, by go_num, (by show _ = _; omega), (by first | rfl | trivial)⟩
      case measure => simp [intOf]; omega
end Go.Proofs.YtnicolaphmffkaaGreatDoor
namespace Go.Proofs.YtnicolaphmffkaaGreatDoor
open Go.RowKit
set_option linter.unusedVariables false
set_option linter.unusedSimpArgs false

def dtB (x : Dt) : Bool := timeB x.delay && timeB x.hold
/-- A sound typed plan. -/
def sdB (G : List Gp) (C : List Cf) (D : List Dt) (TM CT : List ByteArray) (VR : List Vr) (SG : List Ts) (pn : ByteArray) (stt : Int) : Bool :=
  gridB G C && (ctB D.length TM.length CT.length VR.length SG && ((ulF [] (nmsL G D TM CT VR SG) && nmB pn) && (D.all dtB && (plB stt SG.length && sgsZ ⟨G.length, D.length, TM.length, CT.length, VR.length⟩ SG.length 0 (-1) SG))))
/-- A typed plan as it is read. -/
structure TPl (w : World) (G : List Gp) (C : List Cf) (D : List Dt) (TM CT : List ByteArray) (VR : List Vr) (SG : List Ts) (pn : ByteArray) (ga ca da ta ka va sa : Option Addr) (gc cc dc tc kc vc sc : Nat) (stt : Int) : Prop where
  hG : Fl 5 Gp.cs w (.slice ga G.length gc) G
  hF : Fl 4 Cf.cs w (.slice ca C.length cc) C
  hD : Fl 4 Dt.cs w (.slice da D.length dc) D
  hT : Fl 1 txC w (.slice ta TM.length tc) TM
  hC : Fl 1 txC w (.slice ka CT.length kc) CT
  hV : Fl 2 Vr.cs w (.slice va VR.length vc) VR
  hS : Tss (fun _ => True) w (.slice sa SG.length sc) SG
  lG : G.length ≤ 2932031007317
  lF : C.length ≤ 4398046511000
  lD : D.length ≤ 4611686018427387904
  lT : TM.length ≤ 4611686018427387904
  lC : CT.length ≤ 4611686018427387904
  lV : VR.length ≤ 4611686018427387904
  lS : SG.length ≤ 4611686018427387904
  hm : ∀ s ∈ nmsL G D TM CT VR SG, Sm s
  hp : Sm pn
  hr : ∀ s ∈ SG, s.ok
theorem ct_few {a b c d : Nat} {SG : List Ts} (h : ctB a b c d SG = true) : a ≤ 64 ∧ b ≤ 64 ∧ c ≤ 64 ∧ d ≤ 64 ∧ SG.length ≤ 256 := by
  unfold ctB at h
  simp at h
  omega
theorem grid_few {G : List Gp} {C : List Cf} (h : gridB G C = true) : G.length ≤ 64 := by
  unfold gridB at h
  simp at h
  exact h.1
set_option maxRecDepth 100000 in
set_option maxHeartbeats 8000000 in
theorem sound_any (G : List Gp) (C : List Cf) (D : List Dt) (TM CT : List ByteArray) (VR : List Vr) (SG : List Ts) (pn : ByteArray) (ga ca da ta ka va sa : Option Addr) (gc cc dc tc kc vc sc : Nat) (stt : Int) (w : World) (h : TPl w G C D TM CT VR SG pn ga ca da ta ka va sa gc cc dc tc kc vc sc stt) (hW : Wt w) :
    Calls Tryz.prog 10 #[(.agg #[.string pn, .slice ga G.length gc, .slice ca C.length cc, .slice da D.length dc, .slice ta TM.length tc, .slice ka CT.length kc, .slice va VR.length vc, .slice sa SG.length sc, .int .i64 stt])] w fun e w' => e = .returned (.bool (sdB G C D TM CT VR SG pn stt)) ∧ Below w.heap.size w w' := by
  have hb0 : Below w.heap.size w (w.alloc (.cells #[.string pn, .slice ga G.length gc, .slice ca C.length cc, .slice da D.length dc, .slice ta TM.length tc, .slice ka CT.length kc, .slice va VR.length vc, .slice sa SG.length sc, .int .i64 stt] 31)) := bel1 _
  have K0 : Has (w.alloc (.cells #[.string pn, .slice ga G.length gc, .slice ca C.length cc, .slice da D.length dc, .slice ta TM.length tc, .slice ka CT.length kc, .slice va VR.length vc, .slice sa SG.length sc, .int .i64 stt] 31)) w.heap.size #[.string pn, .slice ga G.length gc, .slice ca C.length cc, .slice da D.length dc, .slice ta TM.length tc, .slice ka CT.length kc, .slice va VR.length vc, .slice sa SG.length sc, .int .i64 stt] := Has.new _ _ _ rfl
  have k14 := grid_any G C _ _ (w.alloc (.cells #[.string pn, .slice ga G.length gc, .slice ca C.length cc, .slice da D.length dc, .slice ta TM.length tc, .slice ka CT.length kc, .slice va VR.length vc, .slice sa SG.length sc, .int .i64 stt] 31)) (h.hG.below hb0) (h.hF.below hb0) h.lG h.lF
  have k15 := fun (X : World) (hX : Below w.heap.size w X) => counts_any SG pn ga ca da ta ka va sa G.length C.length D.length TM.length CT.length VR.length gc cc dc tc kc vc sc stt X (Tss.below h.hS hX) h.lD h.lT h.lC h.lV h.lS
  have k16 := fun (X : World) (hX : Below w.heap.size w X) (q : G.length ≤ 64) (q1 : D.length ≤ 64) (q2 : TM.length ≤ 64) (q3 : CT.length ≤ 64) (q4 : VR.length ≤ 64) (q5 : SG.length ≤ 256) => sNames_any G D TM CT VR SG pn ga ca da ta ka va sa gc C.length cc dc tc kc vc sc stt X (h.hG.below hX) (h.hD.below hX) (h.hT.below hX) (h.hC.below hX) (h.hV.below hX) (Tss.below h.hS hX) q q1 q2 q3 q4 q5 h.hm h.hp (hW.be hX)
  have k17 := fun (x : Dt) (X : World) => det_any x X
  have k18 := fun (X : World) => place_any stt (SG.length : Int) X
  have k19 := fun (X : World) (hX : Below w.heap.size w X) (q : G.length ≤ 64) (q5 : SG.length ≤ 256) => sStages_any G D TM CT VR SG pn ga ca da ta ka va sa gc C.length cc dc tc kc vc sc stt X (Tss.below h.hS hX) q q5 h.hr
  obtain ⟨_, _, e1, kD⟩ := h.hD.any
  injection e1 with e1 _ e2
  subst e1
  subst e2
  unfold sdB plB
  have fG := @grid_few G C
  have fC := @ct_few D.length TM.length CT.length VR.length SG
  clear h hW
  generalize gridB G C = B1 at *
  generalize ctB _ _ _ _ SG = B2 at *
  generalize (ulF [] (nmsL G D TM CT VR SG) && nmB pn) = B3 at *
  generalize sgsZ _ SG.length 0 (-1) SG = B6 at *
  have hA0 : ((D.drop 0).all dtB && ((decide (0 ≤ stt) && decide (stt < (SG.length : Int))) && B6)) = (D.all dtB && ((decide (0 ≤ stt) && decide (stt < (SG.length : Int))) && B6)) := rfl
  generalize (D.all dtB && ((decide (0 ≤ stt) && decide (stt < (SG.length : Int))) && B6)) = A at *
  go_enter Tryz.func10, Tryz.ntmps10
  go_wp2_with fail
  go_at_call 8
  refine Calls.mono k14 ?_
  rintro e w1 ⟨rfl, h1⟩
  have hb1 := bel_after hb0 hb0.size h1
  have K1 := K0.below h1
  clear k14 hb0 K0 h1
  cases B1 with
  | false =>
    clear k15 k16 k17 k18 k19
    go_wp2_with fail
    go_ret
    exact ⟨rfl, hb1⟩
  | true =>
  have gG := fG rfl
  clear fG
  have k15 := k15 _ hb1
  obtain ⟨_, v1, v2⟩ := id K1
  go_wp2_with fail
  go_at_call 32
  refine Calls.mono k15 ?_
  rintro e w2 ⟨rfl, h2⟩
  have hb2 := bel_after hb1 hb1.size h2
  have K2 := K1.below h2
  clear k15 hb1 K1 h2 v1 v2
  cases B2 with
  | false =>
    clear k16 k17 k18 k19
    go_wp2_with fail
    go_ret
    exact ⟨rfl, hb2⟩
  | true =>
  obtain ⟨f1, f2, f3, f4, f5⟩ := fC rfl
  clear fC
  have k16 := k16 _ hb2 gG f1 f2 f3 f4 f5
  obtain ⟨_, v1, v2⟩ := id K2
  go_wp2_with fail
  go_at_call 33
  refine Calls.mono k16 ?_
  rintro e w3 ⟨rfl, h3⟩
  have hb3 := bel_after hb2 hb2.size h3
  have K3 := K2.below h3
  clear k16 hb2 K2 h3 v1 v2
  cases B3 with
  | false =>
    clear k17 k18 k19
    go_wp2_with fail
    go_ret
    exact ⟨rfl, hb3⟩
  | true =>
  obtain ⟨_, v1, v2⟩ := id K3
  go_wp2_with fail
  go_loopw [22] (fun i wr => ∃ k : Nat, k ≤ D.length ∧ i = .int .i64 (k : Int) ∧ Hid (((D.drop k).all dtB && ((decide (0 ≤ stt) && decide (stt < (SG.length : Int))) && B6)) = A) ∧ Hid (Below w3.heap.size w3 wr)) (fun i _ => D.length - (intOf i).toNat)
  case atStart => exact ⟨0, by omega, rfl, hA0, Below.refl _ _⟩
  case round =>
    clear hA0
    obtain ⟨k, hkl, rfl, hq', hb'⟩ := hrel
    have hq := hq'.out
    have hb := hb'.out
    clear hq' hb' v1 v2
    have hbB := bel_after hb3 hb3.size hb
    have Kk := K3.below hb
    by_cases hlt : k < D.length
    case neg =>
      have t1 : ¬ (k : Int) < (D.length : Int) := by omega
      rw [List.drop_eq_nil_of_le (by omega)] at hq
      have hq2 : ((decide (0 ≤ stt) && decide (stt < (SG.length : Int))) && B6) = A := hq
      have k19 := k19 _ hbB gG f5
      obtain ⟨_, v1, v2⟩ := id Kk
      clear hq kD k17
      subst hq2
      cases hP : (decide (0 ≤ stt) && decide (stt < (SG.length : Int))) with
      | false =>
        rw [hP] at k18
        clear k19
        go_wp2_with (go_at_call 35; (with_reducible refine Calls.mono (k18 _) ?_); rintro e wx ⟨rfl, hwx⟩; have hwy := hwx.symm; clear hwx; subst hwy)
        go_ret
        exact ⟨by rw [hP]; rfl, hbB⟩
      | true =>
        rw [hP] at k18
        go_wp2_with (go_at_call 35; (with_reducible refine Calls.mono (k18 _) ?_); rintro e wx ⟨rfl, hwx⟩; have hwy := hwx.symm; clear hwx; subst hwy)
        go_at_call 36
        refine Calls.mono k19 ?_
        rintro e w5 ⟨rfl, h5⟩
        have hb5 := bel_after hbB hbB.size h5
        go_wp2_with fail
        go_ret
        exact ⟨by rw [hP]; rfl, hb5⟩
    case pos =>
      obtain ⟨g, o, rfl, hg, hx⟩ := kD.resolve_left (by intro e; rw [e] at hlt; simp at hlt)
      have hx := hx k hlt
      have k17 := k17 D[k]
      rw [all_dropZ _ D k hlt] at hq
      unfold dtB at hq
      have p0 := (hbB.cell (p := ⟨g, _, none⟩) hg).trans (hx 0 _ rfl)
      have p1 := (hbB.cell (p := ⟨g, _, none⟩) hg).trans (hx 1 _ rfl)
      have p2 := (hbB.cell (p := ⟨g, _, none⟩) hg).trans (hx 2 _ rfl)
      have p3 := (hbB.cell (p := ⟨g, _, none⟩) hg).trans (hx 3 _ rfl)
      simp only [Nat.add_zero] at p0
      have t1 : (k : Int) < (D.length : Int) := by omega
      have t0 : (0 : Int) ≤ (k : Int) := by omega
      clear hx kD k18 k19
      generalize (timeB D[k].delay && timeB D[k].hold) = BD at *
      generalize D[k].name = x0 at *
      generalize D[k].latch = x1 at *
      generalize D[k].delay = x2 at *
      generalize D[k].hold = x3 at *
      have hb4 := hb.alloc hb.size (.cells #[.string x0, .bool x1, .int .i64 x2, .int .i64 x3] 98)
      go_wp2_with fail
      go_at_call 34
      refine Calls.mono (k17 _) ?_
      rintro e w5 ⟨rfl, h5⟩
      have hb5 := bel_after hb4 hb4.size h5
      have hbB5 := bel_after hb3 hb3.size hb5
      cases BD with
      | false =>
        have hq3 : A = false := by rw [← hq]; rfl
        subst hq3
        clear hq
        go_wp2_with fail
        go_ret
        exact ⟨rfl, hbB5⟩
      | true =>
        have hq3 : Hid (((D.drop (k + 1)).all dtB && ((decide (0 ≤ stt) && decide (stt < (SG.length : Int))) && B6)) = A) := hq
        clear hq
        go_wp2_with fail
        go_roundw
        case rel => exact ⟨k + 1, by omega, by go_num, hq3, hb5⟩
        case measure => simp [intOf]; omega
end Go.Proofs.YtnicolaphmffkaaGreatDoor
