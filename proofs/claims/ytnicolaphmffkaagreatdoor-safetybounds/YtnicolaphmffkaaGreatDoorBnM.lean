import Derived.Test.YtnicolaphmffkaaGreatDoorMaI
import Derived.Test.YtnicolaphmffkaaGreatDoorMaK
import Derived.Test.YtnicolaphmffkaaGreatDoorSnQ
import Derived.Test.YtnicolaphmffkaaGreatDoorApA
namespace Go.Proofs.YtnicolaphmffkaaGreatDoor
set_option linter.unusedSimpArgs false
open Go.RowKit
set_option linter.unusedVariables false

/-- A list of truths as it is read. -/
def BlR (w : World) (g n : Nat) (R : List Bool) : Prop := g < w.heap.size ∧ ∀ i, i < n → w.cell? ⟨g, i, none⟩ = some (.bool (sn R i))
theorem BlR.below {w w' : World} {g n : Nat} {R : List Bool} (h : BlR w g n R) (hb : Below w.heap.size w w') : BlR w' g n R :=
 ⟨Nat.lt_of_lt_of_le h.1 hb.size, fun i hi => (hb.cell (p := ⟨g, _, none⟩) h.1).trans (h.2 i hi)⟩
theorem BlR.own {w : World} {B g n : Nat} {R : List Bool} (h : w.ownsRow B 4 1 (.slice (some ⟨g, 0, none⟩) n n) n (vB R)) (hl : R.length = n) : BlR w g n R :=
 ⟨(own_lt h g rfl).2, fun i hi => (h.cellAt i (by omega)).trans ((vB_get (by omega : i < R.length)).trans (by rw [sn_get (by omega)]))⟩
/-- A plan's moves. -/
def mvS (k : Nat) (L : List Tn) : List (Int × Int) := L.map fun x => ((k : Int), x.dst)
def mvsF (R : List Bool) : Nat → List Ts → List (Int × Int)
 | _, [] => []
 | k, s :: L => (if sn R k = true then mvS k s.nexts else []) ++ mvsF R (k + 1) L
def mvsL (R : List Bool) (SG : List Ts) (stt : Int) : List (Int × Int) := (-1, stt) :: mvsF R 0 SG
def mvC (x : Int × Int) : List Value := [.int .i64 x.1, .int .i64 x.2]
theorem mvC_len (x : Int × Int) : (mvC x).length = 2 := rfl
theorem mvsF_drop (R : List Bool) (SG : List Ts) (k : Nat) (h : k < SG.length) : mvsF R k (SG.drop k) = (if sn R k = true then mvS k SG[k].nexts else []) ++ mvsF R (k + 1) (SG.drop (k + 1)) := by
 rw [List.drop_eq_getElem_cons h]; rfl
theorem mvsF_end (R : List Bool) (SG : List Ts) (k : Nat) (h : SG.length ≤ k) : mvsF R k (SG.drop k) = [] := by
 rw [List.drop_eq_nil_of_le h]; rfl
theorem mvS_drop (k : Nat) (L : List Tn) (m : Nat) (h : m < L.length) : (mvS k L).drop m = ((k : Int), L[m].dst) :: (mvS k L).drop (m + 1) := by
 have h2 : m < (mvS k L).length := by simpa [mvS] using h
 rw [List.drop_eq_getElem_cons h2]; simp [mvS]
theorem mvS_end (k : Nat) (L : List Tn) (m : Nat) (h : L.length ≤ m) : (mvS k L).drop m = [] := List.drop_eq_nil_of_le (by simpa [mvS] using h)
theorem mvsF_len (R : List Bool) : ∀ (L : List Ts) (k : Nat), (mvsF R k L).length ≤ cgN L
 | [], _ => Nat.le_refl _
 | s :: L, k => by
   have ih := mvsF_len R L (k + 1)
   unfold mvsF cgN
   rw [List.length_append]
   split
   ·simp [mvS]; exact ih
   ·simp; omega
theorem mv_app (Q : List (Int × Int)) (x : Int × Int) : cellsF mvC (Q ++ [x]) = cellsF mvC Q ++ [.int .i64 x.1, .int .i64 x.2] := by rw [cellsF_append]; simp [cellsF, mvC]
theorem info128 : (Tryz.prog.info? 128).map (fun i => (i.zero, i.size, i.bytes)) = some (some (.agg #[.int .i64 0, .int .i64 0]), 2, 16) := by kernel_rfl
theorem own_built2 {w : World} {base e : Nat} {u v : Value} (hb : base ≤ w.heap.size) : (w.alloc (.cells #[u, v] e)).ownsRow base e 2 (.slice (some ⟨w.heap.size, 0, none⟩) 1 1) 1 [u, v] :=
 ⟨rfl, .inr ⟨w.heap.size, 1, #[u, v], rfl, hb, heap_alloc_new w _, by omega, by unfold maxLen; omega, rfl, rfl⟩⟩
set_option maxRecDepth 100000 in
set_option maxHeartbeats 8000000 in
theorem moves_any (G : List Gp) (C : List Cf) (D : List Dt) (TM CT : List ByteArray) (VR : List Vr) (SG : List Ts) (pn : ByteArray) (ga ca da ta ka va sa wa : Option Addr) (gc cc dc tc kc vc sc mb ra rc qa qc wc : Nat) (stt : Int) (R : List Bool) (w : World) (hS : Tss (fun _ => True) w (.slice sa SG.length sc) SG) (hR : BlR w ra SG.length R) (lS : SG.length ≤ 256) (lC : cgN SG ≤ 4096) :
  Calls Tryz.prog 55 #[(.agg #[.string pn, .slice ga G.length gc, .slice ca C.length cc, .slice da D.length dc, .slice ta TM.length tc, .slice ka CT.length kc, .slice va VR.length vc, .slice sa SG.length sc, .int .i64 stt, .slice ga G.length gc, .map (some mb), .slice (some ⟨ra, 0, none⟩) SG.length rc, .slice (some ⟨qa, 0, none⟩) SG.length qc, .slice wa G.length wc])] w fun e w' => ∃ (gm cm : Nat), e = .returned (.slice (some ⟨gm, 0, none⟩) (mvsL R SG stt).length cm) ∧ w'.ownsRow w.heap.size 128 2 (.slice (some ⟨gm, 0, none⟩) (mvsL R SG stt).length cm) (mvsL R SG stt).length (cellsF mvC (mvsL R SG stt)) ∧ Below w.heap.size w w' := by
 obtain ⟨tj, hj, hjv⟩ := Option.map_eq_some_iff.1 info128
 injection hjv with hj0 hjv
 injection hjv with hj1 hj2
 obtain ⟨_, _, e1, _, kS⟩ := Rows.any hS
 injection e1 with e1 _ e2
 subst e1
 subst e2
 clear hS
 have hA0 : [(-1, stt)] ++ mvsF R 0 (SG.drop 0) = mvsL R SG stt := rfl
 have hAl : (mvsL R SG stt).length ≤ 4097 := by have := mvsF_len R SG 0; simp [mvsL]; omega
 generalize mvsL R SG stt = A at *
 have hb0 : Below w.heap.size w (w.alloc (.cells #[.string pn, .slice ga G.length gc, .slice ca C.length cc, .slice da D.length dc, .slice ta TM.length tc, .slice ka CT.length kc, .slice va VR.length vc, .slice sa SG.length sc, .int .i64 stt, .slice ga G.length gc, .map (some mb), .slice (some ⟨ra, 0, none⟩) SG.length rc, .slice (some ⟨qa, 0, none⟩) SG.length qc, .slice wa G.length wc] 123)) := bel1 _
 have K0 : Has (w.alloc (.cells #[.string pn, .slice ga G.length gc, .slice ca C.length cc, .slice da D.length dc, .slice ta TM.length tc, .slice ka CT.length kc, .slice va VR.length vc, .slice sa SG.length sc, .int .i64 stt, .slice ga G.length gc, .map (some mb), .slice (some ⟨ra, 0, none⟩) SG.length rc, .slice (some ⟨qa, 0, none⟩) SG.length qc, .slice wa G.length wc] 123)) w.heap.size #[.string pn, .slice ga G.length gc, .slice ca C.length cc, .slice da D.length dc, .slice ta TM.length tc, .slice ka CT.length kc, .slice va VR.length vc, .slice sa SG.length sc, .int .i64 stt, .slice ga G.length gc, .map (some mb), .slice (some ⟨ra, 0, none⟩) SG.length rc, .slice (some ⟨qa, 0, none⟩) SG.length qc, .slice wa G.length wc] := Has.new _ _ _ rfl
 obtain ⟨_, v1, v2⟩ := id K0
 have hsz0 : (w.alloc (.cells #[.string pn, .slice ga G.length gc, .slice ca C.length cc, .slice da D.length dc, .slice ta TM.length tc, .slice ka CT.length kc, .slice va VR.length vc, .slice sa SG.length sc, .int .i64 stt, .slice ga G.length gc, .map (some mb), .slice (some ⟨ra, 0, none⟩) SG.length rc, .slice (some ⟨qa, 0, none⟩) SG.length qc, .slice wa G.length wc] 123)).heap.size = w.heap.size + 1 := by simp
 go_enter Tryz.func55, Tryz.ntmps55
 go_wp2_with fail
 have own := own_built2 (w := w.alloc (.cells #[.string pn, .slice ga G.length gc, .slice ca C.length cc, .slice da D.length dc, .slice ta TM.length tc, .slice ka CT.length kc, .slice va VR.length vc, .slice sa SG.length sc, .int .i64 stt, .slice ga G.length gc, .map (some mb), .slice (some ⟨ra, 0, none⟩) SG.length rc, .slice (some ⟨qa, 0, none⟩) SG.length qc, .slice wa G.length wc] 123)) (base := w.heap.size + 1) (e := 128) (u := .int .i64 (-1)) (v := .int .i64 stt) (by omega)
 have hb1 : Below (w.heap.size + 1) (w.alloc (.cells #[.string pn, .slice ga G.length gc, .slice ca C.length cc, .slice da D.length dc, .slice ta TM.length tc, .slice ka CT.length kc, .slice va VR.length vc, .slice sa SG.length sc, .int .i64 stt, .slice ga G.length gc, .map (some mb), .slice (some ⟨ra, 0, none⟩) SG.length rc, .slice (some ⟨qa, 0, none⟩) SG.length qc, .slice wa G.length wc] 123)) ((w.alloc (.cells #[.string pn, .slice ga G.length gc, .slice ca C.length cc, .slice da D.length dc, .slice ta TM.length tc, .slice ka CT.length kc, .slice va VR.length vc, .slice sa SG.length sc, .int .i64 stt, .slice ga G.length gc, .map (some mb), .slice (some ⟨ra, 0, none⟩) SG.length rc, .slice (some ⟨qa, 0, none⟩) SG.length qc, .slice wa G.length wc] 123)).alloc (.cells #[.int .i64 (-1), .int .i64 stt] 128)) := hsz0 ▸ bel1 _
 rw [hsz0] at own
 clear v1 v2
 generalize hW0 : (w.alloc (.cells #[.string pn, .slice ga G.length gc, .slice ca C.length cc, .slice da D.length dc, .slice ta TM.length tc, .slice ka CT.length kc, .slice va VR.length vc, .slice sa SG.length sc, .int .i64 stt, .slice ga G.length gc, .map (some mb), .slice (some ⟨ra, 0, none⟩) SG.length rc, .slice (some ⟨qa, 0, none⟩) SG.length qc, .slice wa G.length wc] 123)) = W0 at *
 go_loopw [3, 17] (fun v t wr => ∃ (k nq gq cq : Nat) (Q : List (Int × Int)), k ≤ SG.length ∧ v = .slice (some ⟨gq, 0, none⟩) nq cq ∧ t = .int .i64 (k : Int) ∧ Hid (Q.length = nq) ∧ Hid (Q ++ mvsF R k (SG.drop k) = A) ∧ Hid (wr.ownsRow (w.heap.size + 1) 128 2 (.slice (some ⟨gq, 0, none⟩) nq cq) nq (cellsF mvC Q)) ∧ Hid (Below (w.heap.size + 1) W0 wr)) (fun _ t _ => SG.length - (intOf t).toNat)
 case atStart => exact ⟨0, 1, _, 1, [(-1, stt)], by omega, rfl, rfl, rfl, hA0, own, hb1⟩
 case round =>
  clear own hb1 hA0
  obtain ⟨k, nq, gq, cq, Q, hkl, rfl, rfl, hQl', hQ', oQ', hb'⟩ := hrel
  have hQl := hQl'.out
  have hQ := hQ'.out
  have oQ := oQ'.out
  have hb := hb'.out
  clear hQl' hQ' oQ' hb'
  have Kk := K0.below (hsz0 ▸ hb)
  have hbw := bel_after hb0 (by omega) (hsz0 ▸ hb)
  obtain ⟨_, b1, b2⟩ := id Kk
  by_cases hlt : k < SG.length
  case neg =>
   have t1 : ¬ (k : Int) < (SG.length : Int) := by omega
   rw [mvsF_end _ _ _ (by omega), List.append_nil] at hQ
   subst hQ
   subst hQl
   clear kS hR
   go_wp2_with fail
   go_ret
   exact ⟨_, _, rfl, own_mono oQ (by omega), hbw⟩
  case pos =>
   obtain ⟨g, o, rfl, _, hg, hx⟩ := kS.resolve_left (by intro e; rw [e] at hlt; simp at hlt)
   obtain ⟨cs, _, ⟨ve, vd, vl, vn, rfl, q1, q2, q3, q4⟩, P2⟩ := hx k hlt
   obtain ⟨e1, c1, rfl, _, -⟩ := Rows.any q1
   obtain ⟨e2, c2, rfl, _, -⟩ := Rows.any q2
   obtain ⟨e3, c3, rfl, _, -⟩ := Rows.any q3
   obtain ⟨e4, c4, rfl, l4, k4⟩ := Rows.any q4
   have p0 := (hbw.cell (p := ⟨g, _, none⟩) hg).trans (P2 0 _ rfl)
   have p1 := (hbw.cell (p := ⟨g, _, none⟩) hg).trans (P2 1 _ rfl)
   have p2 := (hbw.cell (p := ⟨g, _, none⟩) hg).trans (P2 2 _ rfl)
   have p3 := (hbw.cell (p := ⟨g, _, none⟩) hg).trans (P2 3 _ rfl)
   have p4 := (hbw.cell (p := ⟨g, _, none⟩) hg).trans (P2 4 _ rfl)
   have p5 := (hbw.cell (p := ⟨g, _, none⟩) hg).trans (P2 5 _ rfl)
   have p6 := (hbw.cell (p := ⟨g, _, none⟩) hg).trans (P2 6 _ rfl)
   simp only [Nat.add_zero] at p0
   have t1 : (k : Int) < (SG.length : Int) := by omega
   have t0 : (0 : Int) ≤ (k : Int) := by omega
   have t2 : k + 1 ≤ SG.length := hlt
   rw [mvsF_drop _ _ k hlt] at hQ
   have zr := (hbw.cell (p := ⟨ra, k, none⟩) hR.1).trans (hR.2 k hlt)
   clear q1 q2 q3 q4 P2
   generalize SG[k].enter.length = n1 at *
   generalize SG[k].during.length = n2 at *
   generalize SG[k].leave.length = n3 at *
   generalize SG[k].nexts = LN at *
   generalize SG[k].name = x0 at *
   generalize SG[k].id = x1 at *
   generalize SG[k].green = x2 at *
   have hb4 := hb.alloc (by have := hb.size; omega) (.cells #[.string x0, .int .i64 x1, .int .u64 x2, .slice e1 n1 c1, .slice e2 n2 c2, .slice e3 n3 c3, .slice e4 LN.length c4] 81)
   have hbw4 := hbw.alloc hbw.size (.cells #[.string x0, .int .i64 x1, .int .u64 x2, .slice e1 n1 c1, .slice e2 n2 c2, .slice e3 n3 c3, .slice e4 LN.length c4] 81)
   have zr4 := (hbw4.cell (p := ⟨ra, k, none⟩) hR.1).trans (hR.2 k hlt)
   have Kk4 := Kk.alloc (.cells #[.string x0, .int .i64 x1, .int .u64 x2, .slice e1 n1 c1, .slice e2 n2 c2, .slice e3 n3 c3, .slice e4 LN.length c4] 81)
   have oQ4 := oQ.alloc (.cells #[.string x0, .int .i64 x1, .int .u64 x2, .slice e1 n1 c1, .slice e2 n2 c2, .slice e3 n3 c3, .slice e4 LN.length c4] 81)
   have KS0 : Has (wr.alloc (.cells #[.string x0, .int .i64 x1, .int .u64 x2, .slice e1 n1 c1, .slice e2 n2 c2, .slice e3 n3 c3, .slice e4 LN.length c4] 81)) wr.heap.size #[.string x0, .int .i64 x1, .int .u64 x2, .slice e1 n1 c1, .slice e2 n2 c2, .slice e3 n3 c3, .slice e4 LN.length c4] := Has.new _ _ _ rfl
   obtain ⟨_, u1, u2⟩ := id Kk4
   obtain ⟨_, u3, u4⟩ := id KS0
   generalize sn R k = bk at *
   cases bk with
   | false =>
     simp only [Bool.false_eq_true, if_false, List.nil_append] at hQ
     clear hx k4
     go_wp2_with fail
     go_roundw
     case rel => exact ⟨k + 1, nq, gq, cq, Q, t2, rfl, by go_num, hQl, hQ, oQ4, hb4⟩
     case measure => simp [intOf]; omega
   | true =>
     simp only [if_true] at hQ
     have hQ0 : Q ++ ((mvS k LN).drop 0 ++ mvsF R (k + 1) (SG.drop (k + 1))) = A := hQ
     generalize hRS : mvsF R (k + 1) (SG.drop (k + 1)) = RS2 at *
     go_wp2_with fail
     clear u1 u2 u3 u4 hx p0 p1 p2 p3 p4 p5 p6 zr zr4 hb hbw Kk oQ hQ
     generalize hWB : (wr.alloc (.cells #[.string x0, .int .i64 x1, .int .u64 x2, .slice e1 n1 c1, .slice e2 n2 c2, .slice e3 n3 c3, .slice e4 LN.length c4] 81)) = WB at *
     go_loopw [3, 31] (fun v t wv => ∃ (m nq gq cq : Nat) (Q : List (Int × Int)), m ≤ LN.length ∧ v = .slice (some ⟨gq, 0, none⟩) nq cq ∧ t = .int .i64 (m : Int) ∧ Hid (Q.length = nq) ∧ Hid (Q ++ ((mvS k LN).drop m ++ RS2) = A) ∧ Hid (wv.ownsRow (w.heap.size + 1) 128 2 (.slice (some ⟨gq, 0, none⟩) nq cq) nq (cellsF mvC Q)) ∧ Hid (Below (w.heap.size + 1) W0 wv)) (fun _ t _ => LN.length - (intOf t).toNat)
     case atStart => exact ⟨0, nq, gq, cq, Q, by omega, rfl, rfl, hQl, hQ0, oQ4, hb4⟩
     case round =>
      clear hQl hQ0 oQ4 hb4 hbw4
      obtain ⟨m, nq, gq, cq, Q, hml, rfl, rfl, hQl', hQ', oQ', hb'⟩ := hrel
      have hQl := hQl'.out
      have hQ := hQ'.out
      have oQ := oQ'.out
      have hb := hb'.out
      clear hQl' hQ' oQ' hb'
      have hbw := bel_after hb0 (by omega) (hsz0 ▸ hb)
      by_cases hmm : m < LN.length
      case neg =>
       have s3 : ¬ (m : Int) < (LN.length : Int) := by omega
       rw [mvS_end _ _ _ (by omega), List.nil_append] at hQ
       go_wp2_with fail
       go_roundw
       case rel => exact ⟨k + 1, nq, gq, cq, Q, t2, rfl, by go_num, hQl, (by show _ = _; rw [hRS]; exact hQ), oQ, hb⟩
       case measure => simp [intOf]; omega
      case pos =>
       have s3 : (m : Int) < (LN.length : Int) := by omega
       have s2 : (0 : Int) ≤ (m : Int) := by omega
       obtain ⟨g2, o2, rfl, _, hg2, hx2⟩ := k4.resolve_left (by intro e; rw [e] at hmm; simp at hmm)
       obtain ⟨cs2, _, ⟨v2, rfl, hv2⟩, h32⟩ := hx2 m hmm
       obtain ⟨fa, fc, rfl, lfl, -⟩ := Rows.any hv2
       have p0 := (hbw.cell (p := ⟨g2, _, none⟩) hg2).trans (h32 0 _ rfl)
       have p1 := (hbw.cell (p := ⟨g2, _, none⟩) hg2).trans (h32 1 _ rfl)
       simp only [Nat.add_zero] at p0
       rw [mvS_drop k LN m hmm, List.cons_append] at hQ
       have hQn : nq + 1 ≤ 4097 := by have := congrArg List.length hQ; simp at this; omega
       have hQ2 : (Q ++ [((k : Int), LN[m].dst)]) ++ ((mvS k LN).drop (m + 1) ++ RS2) = A := by rw [List.append_assoc]; exact hQ
       generalize LN[m].dst = d at *
       generalize LN[m].wh.length = fl at *
       clear h32 hx2 hv2 hQ
       have hs1 : w.heap.size + 1 ≤ wr.heap.size := by have := hb.size; omega
       have hbC : Below (w.heap.size + 1) W0 ((wr.alloc (.cells #[.int .i64 d, .slice fa fl fc] 84)).alloc (.cells #[.int .i64 (k : Int), .int .i64 d] 128)) := (hb.alloc hs1 _).alloc (Nat.le_trans hs1 (by simp)) _
       have oQC := (oQ.alloc (.cells #[.int .i64 d, .slice fa fl fc] 84)).alloc (.cells #[.int .i64 (k : Int), .int .i64 d] 128)
       have hgq := own_lt oQ gq rfl
       clear oQ hb
       go_wp2_with (at_builtin; (refine wpList_append_mine _ rfl _ _ 125 rfl (w.heap.size + 1) 128 tj _ 2 16 Tryz.underlying125 hj hj0 hj1 hj2 rfl (by decide) (.slice (some ⟨gq, 0, none⟩) nq cq) nq (cellsF mvC Q) rfl oQC ⟨wr.heap.size + 1, 0, none⟩ 1 1 [.int .i64 (k : Int), .int .i64 d] rfl rfl (cells_at (W := wr.alloc (.cells #[.int .i64 d, .slice fa fl fc] 84)) (b := wr.heap.size + 1) (by simp [World.setCell]) _ _) (fun u hu => by simp at hu; rcases hu with rfl | rfl <;> rfl) (by decide) (by unfold maxLen; omega) (by omega) (by simp [World.setCell]; omega) ?_); intro g' c' y o3 gr dj _ hc'; have b3 := grown_bel hbC gr (by omega) (fun q hq => by simp [Value.ownBlock] at hq; omega))
       go_roundw
       case rel => exact ⟨m + 1, nq + 1, g', c', Q ++ [((k : Int), d)], by omega, rfl, by go_num, (by show _ = _; simp [hQl]), hQ2, (by show World.ownsRow _ _ _ _ _ _ _; rw [mv_app]; exact o3), b3⟩
       case measure => simp [intOf]; omega
end Go.Proofs.YtnicolaphmffkaaGreatDoor
