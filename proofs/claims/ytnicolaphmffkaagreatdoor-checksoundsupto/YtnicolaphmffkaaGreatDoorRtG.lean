import Derived.Test.YtnicolaphmffkaaGreatDoorTkk
import Derived.Test.YtnicolaphmffkaaGreatDoorRtF
import Derived.Test.YtnicolaphmffkaaGreatDoorMaJ
namespace Go.Proofs.YtnicolaphmffkaaGreatDoor
open Go.RowKit
set_option linter.unusedVariables false
set_option linter.unusedSimpArgs false

set_option maxRecDepth 100000 in
set_option maxHeartbeats 8000000 in
theorem sameTyped_any (G : List Gp) (C : List Cf) (D : List Dt) (TM CT : List ByteArray) (VR : List Vr) (SG : List Ts) (pn : ByteArray) (ga1 ca1 da1 ta1 ka1 va1 sa1 ga2 ca2 da2 ta2 ka2 va2 sa2 : Option Addr) (gc1 cc1 dc1 tc1 kc1 vc1 sc1 gc2 cc2 dc2 tc2 kc2 vc2 sc2 : Nat) (stt : Int) (w : World) (hG1 : Fl 5 Gp.cs w (.slice ga1 G.length gc1) G) (hF1 : Fl 4 Cf.cs w (.slice ca1 C.length cc1) C) (hD1 : Fl 4 Dt.cs w (.slice da1 D.length dc1) D) (hT1 : Fl 1 txC w (.slice ta1 TM.length tc1) TM) (hC1 : Fl 1 txC w (.slice ka1 CT.length kc1) CT) (hV1 : Fl 2 Vr.cs w (.slice va1 VR.length vc1) VR) (hS1 : Tss (fun _ => True) w (.slice sa1 SG.length sc1) SG) (hG2 : Fl 5 Gp.cs w (.slice ga2 G.length gc2) G) (hF2 : Fl 4 Cf.cs w (.slice ca2 C.length cc2) C) (hD2 : Fl 4 Dt.cs w (.slice da2 D.length dc2) D) (hT2 : Fl 1 txC w (.slice ta2 TM.length tc2) TM) (hC2 : Fl 1 txC w (.slice ka2 CT.length kc2) CT) (hV2 : Fl 2 Vr.cs w (.slice va2 VR.length vc2) VR) (hS2 : Tss (fun _ => True) w (.slice sa2 SG.length sc2) SG)
    (lG : G.length ≤ 2932031007317) (lF : C.length ≤ 4398046511000) (lT : TM.length ≤ 8796093022100) (lC : CT.length ≤ 8796093022100) (lD : D.length ≤ 4611686018427387904) (lV : VR.length ≤ 4611686018427387904) (lS : SG.length ≤ 4611686018427387904) :
    Calls Tryz.prog 14 #[.agg #[.string pn, .slice ga1 G.length gc1, .slice ca1 C.length cc1, .slice da1 D.length dc1, .slice ta1 TM.length tc1, .slice ka1 CT.length kc1, .slice va1 VR.length vc1, .slice sa1 SG.length sc1, .int .i64 stt], .agg #[.string pn, .slice ga2 G.length gc2, .slice ca2 C.length cc2, .slice da2 D.length dc2, .slice ta2 TM.length tc2, .slice ka2 CT.length kc2, .slice va2 VR.length vc2, .slice sa2 SG.length sc2, .int .i64 stt]] w fun e w' => e = .returned (.bool true) ∧ Below w.heap.size w w' := by
  have hb0 : Below w.heap.size w ((w.alloc (.cells #[.string pn, .slice ga1 G.length gc1, .slice ca1 C.length cc1, .slice da1 D.length dc1, .slice ta1 TM.length tc1, .slice ka1 CT.length kc1, .slice va1 VR.length vc1, .slice sa1 SG.length sc1, .int .i64 stt] 31)).alloc (.cells #[.string pn, .slice ga2 G.length gc2, .slice ca2 C.length cc2, .slice da2 D.length dc2, .slice ta2 TM.length tc2, .slice ka2 CT.length kc2, .slice va2 VR.length vc2, .slice sa2 SG.length sc2, .int .i64 stt] 31)) := belA
  have K1 : Has ((w.alloc (.cells #[.string pn, .slice ga1 G.length gc1, .slice ca1 C.length cc1, .slice da1 D.length dc1, .slice ta1 TM.length tc1, .slice ka1 CT.length kc1, .slice va1 VR.length vc1, .slice sa1 SG.length sc1, .int .i64 stt] 31)).alloc (.cells #[.string pn, .slice ga2 G.length gc2, .slice ca2 C.length cc2, .slice da2 D.length dc2, .slice ta2 TM.length tc2, .slice ka2 CT.length kc2, .slice va2 VR.length vc2, .slice sa2 SG.length sc2, .int .i64 stt] 31)) w.heap.size #[.string pn, .slice ga1 G.length gc1, .slice ca1 C.length cc1, .slice da1 D.length dc1, .slice ta1 TM.length tc1, .slice ka1 CT.length kc1, .slice va1 VR.length vc1, .slice sa1 SG.length sc1, .int .i64 stt] := (Has.new _ _ _ rfl).alloc _
  have K2 : Has ((w.alloc (.cells #[.string pn, .slice ga1 G.length gc1, .slice ca1 C.length cc1, .slice da1 D.length dc1, .slice ta1 TM.length tc1, .slice ka1 CT.length kc1, .slice va1 VR.length vc1, .slice sa1 SG.length sc1, .int .i64 stt] 31)).alloc (.cells #[.string pn, .slice ga2 G.length gc2, .slice ca2 C.length cc2, .slice da2 D.length dc2, .slice ta2 TM.length tc2, .slice ka2 CT.length kc2, .slice va2 VR.length vc2, .slice sa2 SG.length sc2, .int .i64 stt] 31)) (w.heap.size + 1) #[.string pn, .slice ga2 G.length gc2, .slice ca2 C.length cc2, .slice da2 D.length dc2, .slice ta2 TM.length tc2, .slice ka2 CT.length kc2, .slice va2 VR.length vc2, .slice sa2 SG.length sc2, .int .i64 stt] := Has.new _ _ _ (by simp)
  have k45 := fun (X : World) (hX : Below w.heap.size w X) => sameTables_any G C _ _ _ _ X (hG1.below hX) (hF1.below hX) (hG2.below hX) (hF2.below hX) lG lF
  have k46t := fun (X : World) (hX : Below w.heap.size w X) => sameStrings_any TM _ _ X (hT1.below hX) (hT2.below hX) lT
  have k46c := fun (X : World) (hX : Below w.heap.size w X) => sameStrings_any CT _ _ X (hC1.below hX) (hC2.below hX) lC
  clear hG1 hF1 hG2 hF2 hT1 hT2 hC1 hC2
  go_enter Tryz.func14, Tryz.ntmps14
  go_wp2_with fail
  generalize ((w.alloc (.cells #[.string pn, .slice ga1 G.length gc1, .slice ca1 C.length cc1, .slice da1 D.length dc1, .slice ta1 TM.length tc1, .slice ka1 CT.length kc1, .slice va1 VR.length vc1, .slice sa1 SG.length sc1, .int .i64 stt] 31)).alloc (.cells #[.string pn, .slice ga2 G.length gc2, .slice ca2 C.length cc2, .slice da2 D.length dc2, .slice ta2 TM.length tc2, .slice ka2 CT.length kc2, .slice va2 VR.length vc2, .slice sa2 SG.length sc2, .int .i64 stt] 31)) = Y at *
  go_at_call 45
  refine Calls.mono (k45 _ hb0) ?_
  rintro e w1 ⟨rfl, h1⟩
  have hb1 := bel_after hb0 hb0.size h1
  have J1 := K1.below h1
  have J2 := K2.below h1
  obtain ⟨_, j1, _⟩ := id J1
  obtain ⟨_, j2, _⟩ := id J2
  go_wp2_with fail
  go_at_call 46
  (with_reducible refine Calls.mono (k46t _ hb1) ?_)
  rintro e w2 ⟨rfl, h2⟩
  have hb2 := bel_after hb1 hb1.size h2
  have J1 := J1.below h2
  have J2 := J2.below h2
  clear j1 j2
  obtain ⟨_, j1, _⟩ := id J1
  obtain ⟨_, j2, _⟩ := id J2
  go_wp2_with fail
  go_at_call 46
  (with_reducible refine Calls.mono (k46c _ hb2) ?_)
  rintro e w3 ⟨rfl, h3⟩
  have J1 := J1.below h3
  have J2 := J2.below h3
  have hS3 : Below Y.heap.size Y w3 := bel_after (bel_after h1 h1.size h2) (bel_after h1 h1.size h2).size h3
  clear j1 j2 k45 k46t k46c
  obtain ⟨_, j1, _⟩ := id J1
  obtain ⟨_, j2, _⟩ := id J2
  go_wp2_with fail
  go_loopw [5] (fun t wr => ∃ k : Nat, k ≤ D.length ∧ t = .int .i64 (k : Int) ∧ Hid (Below Y.heap.size Y wr)) (fun t _ => D.length - (intOf t).toNat)
  case atStart => exact ⟨0, by omega, rfl, hS3⟩
  case round =>
    clear j1 j2
    obtain ⟨k, hk, rfl, hb'⟩ := hrel
    have hb := bel_after hb0 hb0.size hb'.out
    have J1 := K1.below hb'.out
    have J2 := K2.below hb'.out
    obtain ⟨_, j1, _⟩ := id J1
    obtain ⟨_, j2, _⟩ := id J2
    by_cases hlt : k < D.length
    · obtain ⟨_, _, e1, kk1⟩ := hD1.any
      obtain ⟨_, _, e2, kk2⟩ := hD2.any
      injection e1 with e1 _ e1'
      injection e2 with e2 _ e2'
      subst e1 e1' e2 e2'
      obtain ⟨g1, o1, rfl, hg1, P1⟩ := kk1.resolve_left (by intro e; rw [e] at hlt; simp at hlt)
      obtain ⟨g3, o3, rfl, hg3, P3⟩ := kk2.resolve_left (by intro e; rw [e] at hlt; simp at hlt)
      have p0 := (hb.cell (p := ⟨g1, _, none⟩) hg1).trans (P1 k hlt 0 _ rfl)
      have r0 := (hb.cell (p := ⟨g3, _, none⟩) hg3).trans (P3 k hlt 0 _ rfl)
      have p1 := (hb.cell (p := ⟨g1, _, none⟩) hg1).trans (P1 k hlt 1 _ rfl)
      have r1 := (hb.cell (p := ⟨g3, _, none⟩) hg3).trans (P3 k hlt 1 _ rfl)
      have p2 := (hb.cell (p := ⟨g1, _, none⟩) hg1).trans (P1 k hlt 2 _ rfl)
      have r2 := (hb.cell (p := ⟨g3, _, none⟩) hg3).trans (P3 k hlt 2 _ rfl)
      have p3 := (hb.cell (p := ⟨g1, _, none⟩) hg1).trans (P1 k hlt 3 _ rfl)
      have r3 := (hb.cell (p := ⟨g3, _, none⟩) hg3).trans (P3 k hlt 3 _ rfl)
      simp only [Nat.add_zero] at p0 r0
      have t1 : (k : Int) < (D.length : Int) := by omega
      have t0 : (0 : Int) ≤ (k : Int) := by omega
      clear P1 P3
      generalize D[k].name = x0 at *
      generalize D[k].latch = x1 at *
      generalize D[k].delay = x2 at *
      generalize D[k].hold = x3 at *
      go_wp2_with fail
      go_quiet (fail)
      go_wp2_with fail
      have hb2 : Hid (Below Y.heap.size Y (wr.drewN nq)) := bel_drewN hb'.out
      go_roundw
      case rel => exact ⟨k + 1, by omega, by go_num, hb2⟩
      case measure => simp [intOf]; omega
    · have t1 : ¬ (k : Int) < (D.length : Int) := by omega
      obtain rfl : k = D.length := by omega
      go_wp2_with fail
      go_loopw [6] (fun t wr => ∃ k : Nat, k ≤ VR.length ∧ t = .int .i64 (k : Int) ∧ Hid (Below Y.heap.size Y wr)) (fun t _ => VR.length - (intOf t).toNat)
      case atStart => exact ⟨0, by omega, rfl, hb'.out⟩
      case round =>
        clear j1 j2
        obtain ⟨k, hk, rfl, hb'⟩ := hrel
        have hb := bel_after hb0 hb0.size hb'.out
        have J1 := K1.below hb'.out
        have J2 := K2.below hb'.out
        obtain ⟨_, j1, _⟩ := id J1
        obtain ⟨_, j2, _⟩ := id J2
        by_cases hlt : k < VR.length
        · obtain ⟨_, _, e1, kk1⟩ := hV1.any
          obtain ⟨_, _, e2, kk2⟩ := hV2.any
          injection e1 with e1 _ e1'
          injection e2 with e2 _ e2'
          subst e1 e1' e2 e2'
          obtain ⟨g1, o1, rfl, hg1, P1⟩ := kk1.resolve_left (by intro e; rw [e] at hlt; simp at hlt)
          obtain ⟨g3, o3, rfl, hg3, P3⟩ := kk2.resolve_left (by intro e; rw [e] at hlt; simp at hlt)
          have p0 := (hb.cell (p := ⟨g1, _, none⟩) hg1).trans (P1 k hlt 0 _ rfl)
          have r0 := (hb.cell (p := ⟨g3, _, none⟩) hg3).trans (P3 k hlt 0 _ rfl)
          have p1 := (hb.cell (p := ⟨g1, _, none⟩) hg1).trans (P1 k hlt 1 _ rfl)
          have r1 := (hb.cell (p := ⟨g3, _, none⟩) hg3).trans (P3 k hlt 1 _ rfl)
          simp only [Nat.add_zero] at p0 r0
          have t1 : (k : Int) < (VR.length : Int) := by omega
          have t0 : (0 : Int) ≤ (k : Int) := by omega
          clear P1 P3
          generalize VR[k].name = x0 at *
          generalize VR[k].init = x1 at *
          go_wp2_with fail
          go_quiet (fail)
          go_wp2_with fail
          have hb2 : Hid (Below Y.heap.size Y (wr.drewN nq)) := bel_drewN hb'.out
          go_roundw
          case rel => exact ⟨k + 1, by omega, by go_num, hb2⟩
          case measure => simp [intOf]; omega
        · have t1 : ¬ (k : Int) < (VR.length : Int) := by omega
          obtain rfl : k = VR.length := by omega
          go_wp2_with fail
          go_loopw [7] (fun t wr => ∃ k : Nat, k ≤ SG.length ∧ t = .int .i64 (k : Int) ∧ Hid (Below Y.heap.size Y wr)) (fun t _ => SG.length - (intOf t).toNat)
          case atStart => exact ⟨0, by omega, rfl, hb'.out⟩
          case round =>
            clear j1 j2
            obtain ⟨k, hk, rfl, hb'⟩ := hrel
            have hb := bel_after hb0 hb0.size hb'.out
            have J1 := K1.below hb'.out
            have J2 := K2.below hb'.out
            obtain ⟨_, j1, _⟩ := id J1
            obtain ⟨_, j2, _⟩ := id J2
            by_cases hlt : k < SG.length
            · obtain ⟨_, _, e1, _, kk1⟩ := Rows.any hS1
              obtain ⟨_, _, e2, _, kk2⟩ := Rows.any hS2
              injection e1 with e1 _ e1'
              injection e2 with e2 _ e2'
              subst e1 e1' e2 e2'
              obtain ⟨g1, o1, rfl, _, hg1, P1⟩ := kk1.resolve_left (by intro e; rw [e] at hlt; simp at hlt)
              obtain ⟨g3, o3, rfl, _, hg3, P3⟩ := kk2.resolve_left (by intro e; rw [e] at hlt; simp at hlt)
              obtain ⟨cs1, _, ⟨v1, v2, v3, v4, rfl, z1, z2, z3, z4⟩, P1⟩ := P1 k hlt
              obtain ⟨cs3, _, ⟨u1, u2, u3, u4, rfl, s1, s2, s3, s4⟩, P3⟩ := P3 k hlt
              obtain ⟨e1, f1, rfl, -⟩ := Rows.any z1
              obtain ⟨d1, b1, rfl, -⟩ := Rows.any z2
              obtain ⟨l1, q1, rfl, -⟩ := Rows.any z3
              obtain ⟨n1, m1, rfl, -⟩ := Rows.any z4
              obtain ⟨e2, f2, rfl, -⟩ := Rows.any s1
              obtain ⟨d2, b2, rfl, -⟩ := Rows.any s2
              obtain ⟨l2, q2, rfl, -⟩ := Rows.any s3
              obtain ⟨n2, m2, rfl, -⟩ := Rows.any s4
              have hN := fun (X : World) (hX : Below w.heap.size w X) => sameStage_any SG[k] _ _ _ _ _ _ _ _ _ _ _ _ _ _ _ _ _ _ X (TsR.mv (S' := fun _ => True) (show TsR (fun _ => True) w _ _ from ⟨_, _, _, _, rfl, z1, z2, z3, z4⟩) (Mv.below hX)) (TsR.mv (S' := fun _ => True) (show TsR (fun _ => True) w _ _ from ⟨_, _, _, _, rfl, s1, s2, s3, s4⟩) (Mv.below hX))
              have p0 := (hb.cell (p := ⟨g1, _, none⟩) hg1).trans (P1 0 _ rfl)
              have r0 := (hb.cell (p := ⟨g3, _, none⟩) hg3).trans (P3 0 _ rfl)
              have p1 := (hb.cell (p := ⟨g1, _, none⟩) hg1).trans (P1 1 _ rfl)
              have r1 := (hb.cell (p := ⟨g3, _, none⟩) hg3).trans (P3 1 _ rfl)
              have p2 := (hb.cell (p := ⟨g1, _, none⟩) hg1).trans (P1 2 _ rfl)
              have r2 := (hb.cell (p := ⟨g3, _, none⟩) hg3).trans (P3 2 _ rfl)
              have p3 := (hb.cell (p := ⟨g1, _, none⟩) hg1).trans (P1 3 _ rfl)
              have r3 := (hb.cell (p := ⟨g3, _, none⟩) hg3).trans (P3 3 _ rfl)
              have p4 := (hb.cell (p := ⟨g1, _, none⟩) hg1).trans (P1 4 _ rfl)
              have r4 := (hb.cell (p := ⟨g3, _, none⟩) hg3).trans (P3 4 _ rfl)
              have p5 := (hb.cell (p := ⟨g1, _, none⟩) hg1).trans (P1 5 _ rfl)
              have r5 := (hb.cell (p := ⟨g3, _, none⟩) hg3).trans (P3 5 _ rfl)
              have p6 := (hb.cell (p := ⟨g1, _, none⟩) hg1).trans (P1 6 _ rfl)
              have r6 := (hb.cell (p := ⟨g3, _, none⟩) hg3).trans (P3 6 _ rfl)
              simp only [Nat.add_zero] at p0 r0
              have y1 := J1.2.1 7
              have y2 := J2.2.1 7
              simp only [List.getElem?_toArray, List.getElem?_cons_succ, List.getElem?_cons_zero] at y1 y2
              have t1 : (k : Int) < (SG.length : Int) := by omega
              have t0 : (0 : Int) ≤ (k : Int) := by omega
              have hbn0 : Below w.heap.size w wr.drew := hb.drew
              clear P1 P3 z1 z2 z3 z4 s1 s2 s3 s4
              generalize SG[k] = x at *
              go_wp2_with fail
              refine wp_region_noPanic ?_
              refine wp_region_held_drew (S := fun w' => w'.cell? ⟨w.heap.size, 7, none⟩ = some (.slice (some ⟨g1, o1, none⟩) SG.length sc1) ∧ w'.cell? ⟨w.heap.size + 1, 7, none⟩ = some (.slice (some ⟨g3, o3, none⟩) SG.length sc2) ∧ w'.cell? ⟨g1, o1 + k * 7, none⟩ = some (.string x.name) ∧ w'.cell? ⟨g1, o1 + k * 7 + 1, none⟩ = some (.int .i64 x.id) ∧ w'.cell? ⟨g1, o1 + k * 7 + 2, none⟩ = some (.int .u64 x.green) ∧ w'.cell? ⟨g1, o1 + k * 7 + 3, none⟩ = some (.slice e1 x.enter.length f1) ∧ w'.cell? ⟨g1, o1 + k * 7 + 4, none⟩ = some (.slice d1 x.during.length b1) ∧ w'.cell? ⟨g1, o1 + k * 7 + 5, none⟩ = some (.slice l1 x.leave.length q1) ∧ w'.cell? ⟨g1, o1 + k * 7 + 6, none⟩ = some (.slice n1 x.nexts.length m1) ∧ w'.cell? ⟨g3, o3 + k * 7, none⟩ = some (.string x.name) ∧ w'.cell? ⟨g3, o3 + k * 7 + 1, none⟩ = some (.int .i64 x.id) ∧ w'.cell? ⟨g3, o3 + k * 7 + 2, none⟩ = some (.int .u64 x.green) ∧ w'.cell? ⟨g3, o3 + k * 7 + 3, none⟩ = some (.slice e2 x.enter.length f2) ∧ w'.cell? ⟨g3, o3 + k * 7 + 4, none⟩ = some (.slice d2 x.during.length b2) ∧ w'.cell? ⟨g3, o3 + k * 7 + 5, none⟩ = some (.slice l2 x.leave.length q2) ∧ w'.cell? ⟨g3, o3 + k * 7 + 6, none⟩ = some (.slice n2 x.nexts.length m2)) (by kernel_rfl) ?_ (fun hHeld => ?_)
              · (try dsimp only)
                exact ⟨y1, y2, p0, p1, p2, p3, p4, p5, p6, r0, r1, r2, r3, r4, r5, r6⟩
              refine tkY 0 ⟨some 112, .fieldAddr 31 (.tmp 2) 6, 0, "sound.go:353", #[], none⟩ ?_ rfl ⟨by rfl, ?_⟩ ?_
              rotate_left
              · intro wz hSz; (try dsimp only at hSz); go_simp; all_goals (with_reducible rfl)
              (try simp only [Act.put, List.setIfInBounds_toArray, List.set_cons_zero, List.set_cons_succ])
              refine tkY 1 ⟨some 113, .load 29 (.tmp 112), 29, "sound.go:353", #[⟨0, .data⟩], none⟩ ?_ rfl ⟨by rfl, ?_⟩ ?_
              rotate_left
              · intro wz hSz; (try dsimp only at hSz); go_simp; all_goals (with_reducible rfl)
              (try simp only [Act.put, List.setIfInBounds_toArray, List.set_cons_zero, List.set_cons_succ])
              refine tkY 2 ⟨some 114, .move (.tmp 7), 3, "sound.go:353", #[], none⟩ ?_ rfl ⟨by rfl, ?_⟩ ?_
              rotate_left
              · intro wz hSz; (try dsimp only at hSz); go_simp; all_goals (with_reducible rfl)
              (try simp only [Act.put, List.setIfInBounds_toArray, List.set_cons_zero, List.set_cons_succ])
              refine tkY 3 ⟨some 115, .indexAddr 29 (.tmp 113) (.tmp 114), 0, "sound.go:353", #[⟨1, .data⟩, ⟨2, .data⟩], none⟩ ?_ rfl ⟨by rfl, ?_⟩ ?_
              rotate_left
              · intro wz hSz; (try dsimp only at hSz); go_simp; all_goals (with_reducible rfl)
              (try simp only [Act.put, List.setIfInBounds_toArray, List.set_cons_zero, List.set_cons_succ])
              refine tkY 4 ⟨some 116, .load 81 (.tmp 115), 81, "sound.go:353", #[⟨3, .data⟩], none⟩ ?_ rfl ⟨by rfl, ?_⟩ ?_
              rotate_left
              · intro wz hSz; (try dsimp only at hSz); go_simp; all_goals (with_reducible rfl)
              (try simp only [Act.put, List.setIfInBounds_toArray, List.set_cons_zero, List.set_cons_succ])
              refine tkY 5 ⟨some 117, .fieldAddr 31 (.tmp 3) 6, 0, "sound.go:353", #[], none⟩ ?_ rfl ⟨by rfl, ?_⟩ ?_
              rotate_left
              · intro wz hSz; (try dsimp only at hSz); go_simp; all_goals (with_reducible rfl)
              (try simp only [Act.put, List.setIfInBounds_toArray, List.set_cons_zero, List.set_cons_succ])
              refine tkY 6 ⟨some 118, .load 29 (.tmp 117), 29, "sound.go:353", #[⟨5, .data⟩], none⟩ ?_ rfl ⟨by rfl, ?_⟩ ?_
              rotate_left
              · intro wz hSz; (try dsimp only at hSz); go_simp; all_goals (with_reducible rfl)
              (try simp only [Act.put, List.setIfInBounds_toArray, List.set_cons_zero, List.set_cons_succ])
              refine tkY 7 ⟨some 119, .move (.tmp 7), 3, "sound.go:353", #[], none⟩ ?_ rfl ⟨by rfl, ?_⟩ ?_
              rotate_left
              · intro wz hSz; (try dsimp only at hSz); go_simp; all_goals (with_reducible rfl)
              (try simp only [Act.put, List.setIfInBounds_toArray, List.set_cons_zero, List.set_cons_succ])
              refine tkY 8 ⟨some 120, .indexAddr 29 (.tmp 118) (.tmp 119), 0, "sound.go:353", #[⟨6, .data⟩, ⟨7, .data⟩], none⟩ ?_ rfl ⟨by rfl, ?_⟩ ?_
              rotate_left
              · intro wz hSz; (try dsimp only at hSz); go_simp; all_goals (with_reducible rfl)
              (try simp only [Act.put, List.setIfInBounds_toArray, List.set_cons_zero, List.set_cons_succ])
              refine tkY 9 ⟨some 121, .load 81 (.tmp 120), 81, "sound.go:353", #[⟨8, .data⟩], none⟩ ?_ rfl ⟨by rfl, ?_⟩ ?_
              rotate_left
              · intro wz hSz; (try dsimp only at hSz); go_simp; all_goals (with_reducible rfl)
              (try simp only [Act.put, List.setIfInBounds_toArray, List.set_cons_zero, List.set_cons_succ])
              refine wpAnyH_ready (rs := [10]) (by kernel_rfl) (by simp) ?_
              refine AllReadyH.cons (o := ⟨some 122, .call { callee := Callee.value (.func 47), args := #[.tmp 116, .tmp 121], argTypes := #[81, 81] }, 4, "sound.go:353", #[⟨4, .data⟩, ⟨9, .data⟩], none⟩) rfl (fun K hK => ?_) AllReadyH.nil
              go_simp
              go_at_call 47
              (with_reducible refine Calls.mono (hN _ (by exact hbn0)) ?_)
              rintro e wn ⟨rfl, hbn⟩
              go_wp2_with fail
              refine hK.out _ _ ?_ (fun hHeld => ?_)
              · (try dsimp only)
                obtain ⟨h0, h1, h2, h3, h4, h5, h6, h7, h8, h9, h10, h11, h12, h13, h14, h15⟩ := hHeld; exact ⟨(hbn.cell (p := ⟨w.heap.size, _, none⟩) (cell_ltF h0)).trans h0, (hbn.cell (p := ⟨w.heap.size + 1, _, none⟩) (cell_ltF h1)).trans h1, (hbn.cell (p := ⟨g1, _, none⟩) (cell_ltF h2)).trans h2, (hbn.cell (p := ⟨g1, _, none⟩) (cell_ltF h3)).trans h3, (hbn.cell (p := ⟨g1, _, none⟩) (cell_ltF h4)).trans h4, (hbn.cell (p := ⟨g1, _, none⟩) (cell_ltF h5)).trans h5, (hbn.cell (p := ⟨g1, _, none⟩) (cell_ltF h6)).trans h6, (hbn.cell (p := ⟨g1, _, none⟩) (cell_ltF h7)).trans h7, (hbn.cell (p := ⟨g1, _, none⟩) (cell_ltF h8)).trans h8, (hbn.cell (p := ⟨g3, _, none⟩) (cell_ltF h9)).trans h9, (hbn.cell (p := ⟨g3, _, none⟩) (cell_ltF h10)).trans h10, (hbn.cell (p := ⟨g3, _, none⟩) (cell_ltF h11)).trans h11, (hbn.cell (p := ⟨g3, _, none⟩) (cell_ltF h12)).trans h12, (hbn.cell (p := ⟨g3, _, none⟩) (cell_ltF h13)).trans h13, (hbn.cell (p := ⟨g3, _, none⟩) (cell_ltF h14)).trans h14, (hbn.cell (p := ⟨g3, _, none⟩) (cell_ltF h15)).trans h15⟩
              clear hK K
              (try simp only [Act.put, List.setIfInBounds_toArray, List.set_cons_zero, List.set_cons_succ])
              refine tkY 11 ⟨some 123, .unOp UnOp.not 4 (.tmp 122), 4, "sound.go:353", #[⟨10, .data⟩], none⟩ ?_ rfl ⟨by rfl, ?_⟩ ?_
              rotate_left
              · intro wz hSz; (try dsimp only at hSz); go_simp; all_goals (with_reducible rfl)
              (try simp only [Act.put, List.setIfInBounds_toArray, List.set_cons_zero, List.set_cons_succ])
              refine wpAnyH_done (by kernel_rfl) ?_ _
              refine NoPanic.normal ?_
              go_wp2_with fail
              have hb2 : Hid (Below Y.heap.size Y wn) := bel_after hb'.out.drew hb'.out.size hbn
              go_roundw
              case rel => exact ⟨k + 1, by omega, by go_num, hb2⟩
              case measure => simp [intOf]; omega
            · have t1 : ¬ (k : Int) < (SG.length : Int) := by omega
              go_wp2_with fail
              go_ret
              exact ⟨rfl, hb⟩
end Go.Proofs.YtnicolaphmffkaaGreatDoor
