import Derived.Test.YtnicolaphmffkaaDoorSnR
namespace Go.Proofs.YtnicolaphmffkaaDoor
open Go.RowKit
set_option linter.unusedVariables false
set_option linter.unusedSimpArgs false

set_option maxRecDepth 100000 in
set_option maxHeartbeats 8000000 in
theorem nodes_any (L : List St) (v : Value) (S : Nat → Prop) (w : World) (h : Sts S w v L) (hl : exN L ≤ 4611686018427387904) :
    Calls Tryd.prog 22 #[v] w fun e w' => e = .returned (.int .i64 (exN L : Int)) ∧ w' = w := by
  obtain ⟨a, cap, rfl, hlen, hc⟩ := Rows.any h
  have hA0 : exN (L.drop 0) = exN L := rfl
  generalize exN L = A at *
  clear h
  go_enter Tryd.func22, Tryd.ntmps22
  go_wp2_with fail
  go_loopw [3, 4] (fun u i wr => ∃ (m n : Nat), m ≤ L.length ∧ u = .int .i64 (n : Int) ∧ i = .int .i64 (m : Int) ∧ Hid (n + exN (L.drop m) = A) ∧ wr = w) (fun _ i _ => L.length - (intOf i).toNat)
  case atStart => exact ⟨0, 0, by omega, rfl, rfl, (by show _ = _; rw [hA0]; omega), rfl⟩
  case round =>
    clear hA0
    obtain ⟨m, n, hml, rfl, rfl, hq', rfl⟩ := hrel
    have hq := hq'.out
    clear hq'
    by_cases hm : m < L.length
    case neg =>
      have t4 : ¬ (m : Int) < (L.length : Int) := by omega
      rw [exN_end L m (by omega)] at hq
      obtain rfl : n = A := by omega
      clear hc hq
      go_wp2_with fail
      go_ret
      exact ⟨rfl, rfl⟩
    case pos =>
      obtain ⟨g2, o2, rfl, _, hg2, hx2⟩ := hc.resolve_left (by intro e; rw [e] at hm; simp at hm)
      obtain ⟨cs2, _, ⟨v2, rfl, hv2⟩, h32⟩ := hx2 m hm
      obtain ⟨fa, fc, rfl, -⟩ := Rows.any hv2
      have p3 := h32 3 _ rfl
      have t4 : (m : Int) < (L.length : Int) := by omega
      have t6 : (0 : Int) ≤ (m : Int) := by omega
      rw [exN_drop L m hm] at hq
      clear h32 hv2 hx2 hc
      generalize L[m].expr.length = fl at *
      go_wp2_with fail
      go_roundw
      case rel => exact ⟨m + 1, n + fl, by omega, by go_num, by go_num, (by show _ = _; omega), (by first | rfl | trivial)⟩
      case measure => simp [intOf]; omega
end Go.Proofs.YtnicolaphmffkaaDoor
namespace Go.Proofs.YtnicolaphmffkaaDoor
open Go.RowKit
set_option linter.unusedVariables false
set_option linter.unusedSimpArgs false

def dtB (x : Dt) : Bool := timeB x.delay && timeB x.hold
/-- A sound typed plan. -/
def sdB (G : List Gp) (C : List Cf) (D : List Dt) (TM CT : List ByteArray) (VR : List Vr) (SG : List Ts) (pn : ByteArray) (stt : Int) : Bool :=
  gridB G C && (ctB D.length TM.length CT.length VR.length SG && ((ulF [] (nmsL G D TM CT VR SG) && nmB pn) && (D.all dtB && (plB stt SG.length && sgsZ ⟨G.length, D.length, TM.length, CT.length, VR.length⟩ SG.length 0 (-1) SG))))
/-- A typed plan as it is read. -/
structure TPl (w : World) (G : List Gp) (C : List Cf) (D : List Dt) (TM CT : List ByteArray) (VR : List Vr) (SG : List Ts) (pn : ByteArray) (ga ca da ta ka va sa : Option Addr) (gc cc dc tc kc vc sc : Nat) (stt : Int) : Prop where
  hG : Fl 5 Gp.cs w (.slice ga G.length gc) G
  hF : Fl 4 Cf.cs w (.slice ca C.length cc) C
  hD : Fl 4 Dt.cs w (.slice da D.length dc) D
  hT : Fl 1 txC w (.slice ta TM.length tc) TM
  hC : Fl 1 txC w (.slice ka CT.length kc) CT
  hV : Fl 2 Vr.cs w (.slice va VR.length vc) VR
  hS : Tss (fun _ => True) w (.slice sa SG.length sc) SG
  lG : G.length ≤ 2932031007317
  lF : C.length ≤ 4398046511000
  lD : D.length ≤ 4611686018427387904
  lT : TM.length ≤ 4611686018427387904
  lC : CT.length ≤ 4611686018427387904
  lV : VR.length ≤ 4611686018427387904
  lS : SG.length ≤ 4611686018427387904
  hm : ∀ s ∈ nmsL G D TM CT VR SG, Sm s
  hp : Sm pn
  hr : ∀ s ∈ SG, s.ok
theorem ct_few {a b c d : Nat} {SG : List Ts} (h : ctB a b c d SG = true) : a ≤ 64 ∧ b ≤ 64 ∧ c ≤ 64 ∧ d ≤ 64 ∧ SG.length ≤ 256 := by
  unfold ctB at h
  simp at h
  omega
theorem grid_few {G : List Gp} {C : List Cf} (h : gridB G C = true) : G.length ≤ 64 := by
  unfold gridB at h
  simp at h
  exact h.1
set_option maxRecDepth 100000 in
set_option maxHeartbeats 8000000 in
theorem sound_any (G : List Gp) (C : List Cf) (D : List Dt) (TM CT : List ByteArray) (VR : List Vr) (SG : List Ts) (pn : ByteArray) (ga ca da ta ka va sa : Option Addr) (gc cc dc tc kc vc sc : Nat) (stt : Int) (w : World) (h : TPl w G C D TM CT VR SG pn ga ca da ta ka va sa gc cc dc tc kc vc sc stt) (hW : Wt w) :
    Calls Tryd.prog 7 #[(.agg #[.string pn, .slice ga G.length gc, .slice ca C.length cc, .slice da D.length dc, .slice ta TM.length tc, .slice ka CT.length kc, .slice va VR.length vc, .slice sa SG.length sc, .int .i64 stt])] w fun e w' => e = .returned (.bool (sdB G C D TM CT VR SG pn stt)) ∧ Below w.heap.size w w' := by
  have hb0 : Below w.heap.size w (w.alloc (.cells #[.string pn, .slice ga G.length gc, .slice ca C.length cc, .slice da D.length dc, .slice ta TM.length tc, .slice ka CT.length kc, .slice va VR.length vc, .slice sa SG.length sc, .int .i64 stt] 31)) := bel1 _
  have K0 : Has (w.alloc (.cells #[.string pn, .slice ga G.length gc, .slice ca C.length cc, .slice da D.length dc, .slice ta TM.length tc, .slice ka CT.length kc, .slice va VR.length vc, .slice sa SG.length sc, .int .i64 stt] 31)) w.heap.size #[.string pn, .slice ga G.length gc, .slice ca C.length cc, .slice da D.length dc, .slice ta TM.length tc, .slice ka CT.length kc, .slice va VR.length vc, .slice sa SG.length sc, .int .i64 stt] := Has.new _ _ _ rfl
  have k14 := grid_any G C _ _ (w.alloc (.cells #[.string pn, .slice ga G.length gc, .slice ca C.length cc, .slice da D.length dc, .slice ta TM.length tc, .slice ka CT.length kc, .slice va VR.length vc, .slice sa SG.length sc, .int .i64 stt] 31)) (h.hG.below hb0) (h.hF.below hb0) h.lG h.lF
  have k15 := fun (X : World) (hX : Below w.heap.size w X) => counts_any SG pn ga ca da ta ka va sa G.length C.length D.length TM.length CT.length VR.length gc cc dc tc kc vc sc stt X (Tss.below h.hS hX) h.lD h.lT h.lC h.lV h.lS
  have k16 := fun (X : World) (hX : Below w.heap.size w X) (q : G.length ≤ 64) (q1 : D.length ≤ 64) (q2 : TM.length ≤ 64) (q3 : CT.length ≤ 64) (q4 : VR.length ≤ 64) (q5 : SG.length ≤ 256) => sNames_any G D TM CT VR SG pn ga ca da ta ka va sa gc C.length cc dc tc kc vc sc stt X (h.hG.below hX) (h.hD.below hX) (h.hT.below hX) (h.hC.below hX) (h.hV.below hX) (Tss.below h.hS hX) q q1 q2 q3 q4 q5 h.hm h.hp (hW.be hX)
  have k17 := fun (x : Dt) (X : World) => det_any x X
  have k18 := fun (X : World) => place_any stt (SG.length : Int) X
  have k19 := fun (X : World) (hX : Below w.heap.size w X) (q : G.length ≤ 64) (q5 : SG.length ≤ 256) => sStages_any G D TM CT VR SG pn ga ca da ta ka va sa gc C.length cc dc tc kc vc sc stt X (Tss.below h.hS hX) q q5 h.hr
  obtain ⟨_, _, e1, kD⟩ := h.hD.any
  injection e1 with e1 _ e2
  subst e1
  subst e2
  unfold sdB plB
  have fG := @grid_few G C
  have fC := @ct_few D.length TM.length CT.length VR.length SG
  clear h hW
  generalize gridB G C = B1 at *
  generalize ctB _ _ _ _ SG = B2 at *
  generalize (ulF [] (nmsL G D TM CT VR SG) && nmB pn) = B3 at *
  generalize sgsZ _ SG.length 0 (-1) SG = B6 at *
  have hA0 : ((D.drop 0).all dtB && ((decide (0 ≤ stt) && decide (stt < (SG.length : Int))) && B6)) = (D.all dtB && ((decide (0 ≤ stt) && decide (stt < (SG.length : Int))) && B6)) := rfl
  generalize (D.all dtB && ((decide (0 ≤ stt) && decide (stt < (SG.length : Int))) && B6)) = A at *
  go_enter Tryd.func7, Tryd.ntmps7
  go_wp2_with fail
  go_at_call 14
  refine Calls.mono k14 ?_
  rintro e w1 ⟨rfl, h1⟩
  have hb1 := bel_after hb0 hb0.size h1
  have K1 := K0.below h1
  clear k14 hb0 K0 h1
  cases B1 with
  | false =>
    clear k15 k16 k17 k18 k19
    go_wp2_with fail
    go_ret
    exact ⟨rfl, hb1⟩
  | true =>
  have gG := fG rfl
  clear fG
  have k15 := k15 _ hb1
  obtain ⟨_, v1, v2⟩ := id K1
  go_wp2_with fail
  go_at_call 15
  refine Calls.mono k15 ?_
  rintro e w2 ⟨rfl, h2⟩
  have hb2 := bel_after hb1 hb1.size h2
  have K2 := K1.below h2
  clear k15 hb1 K1 h2 v1 v2
  cases B2 with
  | false =>
    clear k16 k17 k18 k19
    go_wp2_with fail
    go_ret
    exact ⟨rfl, hb2⟩
  | true =>
  obtain ⟨f1, f2, f3, f4, f5⟩ := fC rfl
  clear fC
  have k16 := k16 _ hb2 gG f1 f2 f3 f4 f5
  obtain ⟨_, v1, v2⟩ := id K2
  go_wp2_with fail
  go_at_call 16
  refine Calls.mono k16 ?_
  rintro e w3 ⟨rfl, h3⟩
  have hb3 := bel_after hb2 hb2.size h3
  have K3 := K2.below h3
  clear k16 hb2 K2 h3 v1 v2
  cases B3 with
  | false =>
    clear k17 k18 k19
    go_wp2_with fail
    go_ret
    exact ⟨rfl, hb3⟩
  | true =>
  obtain ⟨_, v1, v2⟩ := id K3
  go_wp2_with fail
  go_loopw [22] (fun i wr => ∃ k : Nat, k ≤ D.length ∧ i = .int .i64 (k : Int) ∧ Hid (((D.drop k).all dtB && ((decide (0 ≤ stt) && decide (stt < (SG.length : Int))) && B6)) = A) ∧ Hid (Below w3.heap.size w3 wr)) (fun i _ => D.length - (intOf i).toNat)
  case atStart => exact ⟨0, by omega, rfl, hA0, Below.refl _ _⟩
  case round =>
    clear hA0
    obtain ⟨k, hkl, rfl, hq', hb'⟩ := hrel
    have hq := hq'.out
    have hb := hb'.out
    clear hq' hb' v1 v2
    have hbB := bel_after hb3 hb3.size hb
    have Kk := K3.below hb
    by_cases hlt : k < D.length
    case neg =>
      have t1 : ¬ (k : Int) < (D.length : Int) := by omega
      rw [List.drop_eq_nil_of_le (by omega)] at hq
      have hq2 : ((decide (0 ≤ stt) && decide (stt < (SG.length : Int))) && B6) = A := hq
      have k19 := k19 _ hbB gG f5
      obtain ⟨_, v1, v2⟩ := id Kk
      clear hq kD k17
      subst hq2
      cases hP : (decide (0 ≤ stt) && decide (stt < (SG.length : Int))) with
      | false =>
        rw [hP] at k18
        clear k19
        go_wp2_with (go_at_call 18; (with_reducible refine Calls.mono (k18 _) ?_); rintro e wx ⟨rfl, hwx⟩; have hwy := hwx.symm; clear hwx; subst hwy)
        go_ret
        exact ⟨by rw [hP]; rfl, hbB⟩
      | true =>
        rw [hP] at k18
        go_wp2_with (go_at_call 18; (with_reducible refine Calls.mono (k18 _) ?_); rintro e wx ⟨rfl, hwx⟩; have hwy := hwx.symm; clear hwx; subst hwy)
        go_at_call 19
        refine Calls.mono k19 ?_
        rintro e w5 ⟨rfl, h5⟩
        have hb5 := bel_after hbB hbB.size h5
        go_wp2_with fail
        go_ret
        exact ⟨by rw [hP]; rfl, hb5⟩
    case pos =>
      obtain ⟨g, o, rfl, hg, hx⟩ := kD.resolve_left (by intro e; rw [e] at hlt; simp at hlt)
      have hx := hx k hlt
      have k17 := k17 D[k]
      rw [all_dropZ _ D k hlt] at hq
      unfold dtB at hq
      have p0 := (hbB.cell (p := ⟨g, _, none⟩) hg).trans (hx 0 _ rfl)
      have p1 := (hbB.cell (p := ⟨g, _, none⟩) hg).trans (hx 1 _ rfl)
      have p2 := (hbB.cell (p := ⟨g, _, none⟩) hg).trans (hx 2 _ rfl)
      have p3 := (hbB.cell (p := ⟨g, _, none⟩) hg).trans (hx 3 _ rfl)
      simp only [Nat.add_zero] at p0
      have t1 : (k : Int) < (D.length : Int) := by omega
      have t0 : (0 : Int) ≤ (k : Int) := by omega
      clear hx kD k18 k19
      generalize (timeB D[k].delay && timeB D[k].hold) = BD at *
      generalize D[k].name = x0 at *
      generalize D[k].latch = x1 at *
      generalize D[k].delay = x2 at *
      generalize D[k].hold = x3 at *
      have hb4 := hb.alloc hb.size (.cells #[.string x0, .bool x1, .int .i64 x2, .int .i64 x3] 42)
      go_wp2_with fail
      go_at_call 17
      refine Calls.mono (k17 _) ?_
      rintro e w5 ⟨rfl, h5⟩
      have hb5 := bel_after hb4 hb4.size h5
      have hbB5 := bel_after hb3 hb3.size hb5
      cases BD with
      | false =>
        have hq3 : A = false := by rw [← hq]; rfl
        subst hq3
        clear hq
        go_wp2_with fail
        go_ret
        exact ⟨rfl, hbB5⟩
      | true =>
        have hq3 : Hid (((D.drop (k + 1)).all dtB && ((decide (0 ≤ stt) && decide (stt < (SG.length : Int))) && B6)) = A) := hq
        clear hq
        go_wp2_with fail
        go_roundw
        case rel => exact ⟨k + 1, by omega, by go_num, hq3, hb5⟩
        case measure => simp [intOf]; omega
end Go.Proofs.YtnicolaphmffkaaDoor
