import Derived.Test.YtnicolaphmffkaaGreatDoorTkk
import Derived.Test.YtnicolaphmffkaaGreatDoorMaM
namespace Go.Proofs.YtnicolaphmffkaaGreatDoor
open Go.RowKit
set_option linter.unusedVariables false
set_option linter.unusedSimpArgs false

theorem sx_few {z : Sz} {L : List Nd} {ty : Int} (h : sxB z L ty = true) : L.length ≤ 256 := by
  unfold sxB trB at h
  exact of_decide_eq_true (Bool.and_eq_true_iff.1 (Bool.and_eq_true_iff.1 h).1).1
set_option maxRecDepth 100000 in
set_option maxHeartbeats 8000000 in
theorem rStages_any (G : List Gp) (C : List Cf) (D : List Dt) (TM CT : List ByteArray) (VR : List Vr) (SG : List Ts) (pn : ByteArray) (ga ca da ta ka va sa : Option Addr) (gc cc dc tc kc vc sc : Nat) (stt : Int) (w : World) (hS : Tss (fun _ => True) w (.slice sa SG.length sc) SG) (lG : G.length ≤ 64) (lS : SG.length ≤ 256) (hr : ∀ s ∈ SG, s.ok) (hgr : ∀ s ∈ SG, 0 ≤ s.green ∧ s.green < 18446744073709551616) :
    Calls Tryz.prog 39 #[(.agg #[.string pn, .slice ga G.length gc, .slice ca C.length cc, .slice da D.length dc, .slice ta TM.length tc, .slice ka CT.length kc, .slice va VR.length vc, .slice sa SG.length sc, .int .i64 stt])] w fun e w' => e = .returned (.bool (stR ⟨G.length, D.length, TM.length, CT.length, VR.length⟩ SG)) ∧ Below w.heap.size w w' := by
  obtain ⟨_, _, e1, _, kS⟩ := Rows.any hS
  injection e1 with e1 _ e2
  subst e1
  subst e2
  clear hS
  unfold stR
  have hA0 : sgsZ ⟨G.length, D.length, TM.length, CT.length, VR.length⟩ SG.length 0 (-1) (SG.drop 0) = sgsZ ⟨G.length, D.length, TM.length, CT.length, VR.length⟩ SG.length 0 (-1) SG := rfl
  have hM0 : smN (SG.drop 0) = smN SG := rfl
  have hC0 : cgN (SG.drop 0) = cgN SG := rfl
  have hN0 : allN (SG.drop 0) = allN SG := rfl
  generalize sgsZ ⟨G.length, D.length, TM.length, CT.length, VR.length⟩ SG.length 0 (-1) SG = A at *
  generalize smN SG = AM at *
  generalize cgN SG = AC at *
  generalize allN SG = AN at *
  have hb0 : Below w.heap.size w (w.alloc (.cells #[.string pn, .slice ga G.length gc, .slice ca C.length cc, .slice da D.length dc, .slice ta TM.length tc, .slice ka CT.length kc, .slice va VR.length vc, .slice sa SG.length sc, .int .i64 stt] 31)) := bel1 _
  have K0 : Has (w.alloc (.cells #[.string pn, .slice ga G.length gc, .slice ca C.length cc, .slice da D.length dc, .slice ta TM.length tc, .slice ka CT.length kc, .slice va VR.length vc, .slice sa SG.length sc, .int .i64 stt] 31)) w.heap.size #[.string pn, .slice ga G.length gc, .slice ca C.length cc, .slice da D.length dc, .slice ta TM.length tc, .slice ka CT.length kc, .slice va VR.length vc, .slice sa SG.length sc, .int .i64 stt] := Has.new _ _ _ rfl
  have k10a := fun (i : Int) X => within_any i 0 255 X
  go_enter Tryz.func39, Tryz.ntmps39
  go_wp2_with fail
  go_loopw [3, 4, 5, 6] (fun u v x i wr => ∃ (k a b c : Nat) (last : Int), k ≤ SG.length ∧ a ≤ k * 20000000000000 ∧ b ≤ k * 20000000000000 ∧ c ≤ k * 20000000000000000 ∧ u = .int .i64 (a : Int) ∧ v = .int .i64 (b : Int) ∧ x = .int .i64 (c : Int) ∧ i = .int .i64 (k : Int) ∧ Hid (-1 ≤ last ∧ (k = 0 → last = -1) ∧ (0 < k → ∀ h : k - 1 < SG.length, SG[k - 1].id = last)) ∧ Hid (sgsZ ⟨G.length, D.length, TM.length, CT.length, VR.length⟩ SG.length k last (SG.drop k) = A) ∧ Hid (a + smN (SG.drop k) = AM) ∧ Hid (b + cgN (SG.drop k) = AC) ∧ Hid (c + allN (SG.drop k) = AN) ∧ Hid (Below w.heap.size w wr ∧ Has wr w.heap.size #[.string pn, .slice ga G.length gc, .slice ca C.length cc, .slice da D.length dc, .slice ta TM.length tc, .slice ka CT.length kc, .slice va VR.length vc, .slice sa SG.length sc, .int .i64 stt])) (fun _ _ _ i _ => SG.length - (intOf i).toNat)
  case atStart => exact ⟨0, 0, 0, 0, -1, by omega, by omega, by omega, by omega, rfl, rfl, rfl, rfl, ⟨by omega, fun _ => rfl, fun h => by omega⟩, hA0, (by show _ = _; rw [hM0]; omega), (by show _ = _; rw [hC0]; omega), (by show _ = _; rw [hN0]; omega), ⟨hb0, K0⟩⟩
  case round =>
    clear hA0 hM0 hC0 hN0 K0 hb0
    obtain ⟨k, a, b, c, last, hkl, ha, hb2, hc2, rfl, rfl, rfl, rfl, hl', hq', hm', hn', ht', hb'⟩ := hrel
    obtain ⟨hl1, hl0, hl2⟩ := hl'.out
    have hq := hq'.out
    obtain ⟨hbB, Kk⟩ := hb'.out
    clear hl' hq' hb'
    obtain ⟨_, v1, v2⟩ := id Kk
    by_cases hlt : k < SG.length
    case neg =>
      have t1 : ¬ (k : Int) < (SG.length : Int) := by omega
      have hm := hm'.out
      have hn := hn'.out
      have ht := ht'.out
      rw [List.drop_eq_nil_of_le (by omega)] at hq
      rw [smN_end SG k (by omega)] at hm
      rw [cgN_end SG k (by omega)] at hn
      rw [allN_end SG k (by omega)] at ht
      have hq2 : true = A := hq
      subst hq2
      obtain rfl : a = AM := by omega
      obtain rfl : b = AC := by omega
      obtain rfl : c = AN := by omega
      clear kS k10a hq hm hn ht hm' hn' ht' hl2
      by_cases z1 : a ≤ 4096
      case neg =>
        have t2 : ¬ (a : Int) ≤ 4096 := by omega
        go_wp2_with fail
        go_ret
        exact ⟨by first | rfl | simp [z1] | simp [z1, z2] | simp [z1, z2, z3], hbB⟩
      have t2 : (a : Int) ≤ 4096 := by omega
      by_cases z2 : b ≤ 4096
      case neg =>
        have t3 : ¬ (b : Int) ≤ 4096 := by omega
        go_wp2_with fail
        go_ret
        exact ⟨by first | rfl | simp [z1] | simp [z1, z2] | simp [z1, z2, z3], hbB⟩
      have t3 : (b : Int) ≤ 4096 := by omega
      by_cases z3 : c ≤ 16384
      case neg =>
        have t4 : ¬ (c : Int) ≤ 16384 := by omega
        go_wp2_with fail
        go_ret
        exact ⟨by first | rfl | simp [z1] | simp [z1, z2] | simp [z1, z2, z3], hbB⟩
      have t4 : (c : Int) ≤ 16384 := by omega
      go_wp2_with fail
      go_ret
      exact ⟨by first | rfl | simp [z1] | simp [z1, z2] | simp [z1, z2, z3], hbB⟩
    case pos =>
      obtain ⟨g, o, rfl, _, hg, hx⟩ := kS.resolve_left (by intro e; rw [e] at hlt; simp at hlt)
      obtain ⟨cs, _, ⟨ve, vd, vl, vn, rfl, q1, q2, q3, q4⟩, P2⟩ := hx k hlt
      obtain ⟨r1, r2, r3, r4⟩ := hr _ (List.getElem_mem hlt)
      obtain ⟨y1, y2⟩ := hgr _ (List.getElem_mem hlt)
      obtain ⟨e1, c1, rfl, _, -⟩ := Rows.any q1
      obtain ⟨e2, c2, rfl, _, -⟩ := Rows.any q2
      obtain ⟨e3, c3, rfl, _, -⟩ := Rows.any q3
      obtain ⟨e4, c4, rfl, _, k4⟩ := Rows.any q4
      have l1 := (sts_le q1).1
      have l2 := (sts_le q2).1
      have l3 := (sts_le q3).1
      have l4 := (tns_le q4).1
      have p0 := (hbB.cell (p := ⟨g, _, none⟩) hg).trans (P2 0 _ rfl)
      have p1 := (hbB.cell (p := ⟨g, _, none⟩) hg).trans (P2 1 _ rfl)
      have p2 := (hbB.cell (p := ⟨g, _, none⟩) hg).trans (P2 2 _ rfl)
      have p3 := (hbB.cell (p := ⟨g, _, none⟩) hg).trans (P2 3 _ rfl)
      have p4 := (hbB.cell (p := ⟨g, _, none⟩) hg).trans (P2 4 _ rfl)
      have p5 := (hbB.cell (p := ⟨g, _, none⟩) hg).trans (P2 5 _ rfl)
      have p6 := (hbB.cell (p := ⟨g, _, none⟩) hg).trans (P2 6 _ rfl)
      simp only [Nat.add_zero] at p0
      have t1 : (k : Int) < (SG.length : Int) := by omega
      have t0 : (0 : Int) ≤ (k : Int) := by omega
      have hm := hm'.out
      have hn := hn'.out
      have ht := ht'.out
      clear hm' hn' ht'
      rw [smN_drop SG k hlt] at hm
      rw [cgN_drop SG k hlt] at hn
      rw [allN_drop SG k hlt] at ht
      unfold sgN at ht
      rw [sgsZ_drop _ _ _ _ SG k hlt] at hq
      unfold sgZ at hq
      rw [sg1_ref _ _ _ _ hl1 y1 y2 lG] at hq
      have hSG : ∀ h : k < SG.length, SG[k].id = SG[k].id := fun _ => rfl
      clear q4 P2 kS hr
      generalize hRS : sgsZ ⟨G.length, D.length, TM.length, CT.length, VR.length⟩ SG.length (k + 1) SG[k].id (SG.drop (k + 1)) = R at *
      generalize hRM : smN (SG.drop (k + 1)) = RM at *
      generalize hRC : cgN (SG.drop (k + 1)) = RC at *
      generalize hRN : allN (SG.drop (k + 1)) = RN at *
      generalize SG[k].enter = L1 at *
      generalize SG[k].during = L2 at *
      generalize SG[k].leave = L3 at *
      generalize SG[k].nexts = L4 at *
      generalize SG[k].name = x0 at *
      generalize hx1 : SG[k].id = x1 at *
      generalize SG[k].green = x2 at *
      have hb4 := hbB.alloc hbB.size (.cells #[.string x0, .int .i64 x1, .int .u64 x2, .slice e1 L1.length c1, .slice e2 L2.length c2, .slice e3 L3.length c3, .slice e4 L4.length c4] 81)
      have Kk4 := Kk.alloc (.cells #[.string x0, .int .i64 x1, .int .u64 x2, .slice e1 L1.length c1, .slice e2 L2.length c2, .slice e3 L3.length c3, .slice e4 L4.length c4] 81)
      have KS0 : Has (wr.alloc (.cells #[.string x0, .int .i64 x1, .int .u64 x2, .slice e1 L1.length c1, .slice e2 L2.length c2, .slice e3 L3.length c3, .slice e4 L4.length c4] 81)) wr.heap.size #[.string x0, .int .i64 x1, .int .u64 x2, .slice e1 L1.length c1, .slice e2 L2.length c2, .slice e3 L3.length c3, .slice e4 L4.length c4] := Has.new _ _ _ rfl
      have k10 := k10a x1
      go_upto_region 8 with fail
      go_cut [42] from 11 to 146 (fun s42 wx => s42 = .bool (!(inB x1 0 255 && decide (last < x1))) ∧ wx = ((wr.alloc (.cells #[.string x0, .int .i64 x1, .int .u64 x2, .slice e1 L1.length c1, .slice e2 L2.length c2, .slice e3 L3.length c3, .slice e4 L4.length c4] 81))).drew)
      case first =>
        cases hI : inB x1 0 255 with
        | false =>
          rw [hI] at k10
          refine wp_region_noPanic ?_
          refine wp_region_held_drew (S := fun w' => w'.cell? ⟨wr.heap.size, 1, none⟩ = some (.int .i64 x1) ∧ w'.cell? ⟨w.heap.size, 7, none⟩ = some (.slice (some ⟨g, o, none⟩) SG.length sc)) (by kernel_rfl) ?_ (fun hHeld => ?_)
          · (try dsimp only)
            exact ⟨KS0.drew.2.1 1, Kk4.drew.2.1 7⟩
          refine tkY 0 ⟨some 23, .fieldAddr 81 (.tmp 7) 1, 0, "sound.go:224", #[], none⟩ ?_ rfl ⟨by rfl, ?_⟩ ?_
          rotate_left
          · intro wz hSz; (try dsimp only at hSz); go_simp; all_goals (with_reducible rfl)
          (try simp only [Act.put, List.setIfInBounds_toArray, List.set_cons_zero, List.set_cons_succ])
          refine tkY 1 ⟨some 24, .load 3 (.tmp 23), 3, "sound.go:224", #[⟨0, .data⟩], none⟩ ?_ rfl ⟨by rfl, ?_⟩ ?_
          rotate_left
          · intro wz hSz; (try dsimp only at hSz); go_simp; all_goals (with_reducible rfl)
          (try simp only [Act.put, List.setIfInBounds_toArray, List.set_cons_zero, List.set_cons_succ])
          refine wpAnyH_ready (rs := [2]) (by kernel_rfl) (by simp) ?_
          refine AllReadyH.cons (o := ⟨some 25, .call { callee := Callee.value (.func 31), args := #[.tmp 24, .const (Value.int IntKind.i64 0), .const (Value.int IntKind.i64 255)], argTypes := #[3, 3, 3] }, 4, "sound.go:224", #[⟨1, .data⟩], none⟩) rfl (fun K hK => ?_) AllReadyH.nil
          go_simp
          go_at_call 31
          refine Calls.mono (k10 _) ?_
          rintro e wx ⟨rfl, hwx⟩
          have hwy := hwx.symm
          clear hwx
          subst hwy
          go_wp2_with fail
          refine hK.out _ _ ?_ (fun hHeld => ?_)
          · (try dsimp only)
            exact ⟨KS0.drew.2.1 1, Kk4.drew.2.1 7⟩
          clear hK K
          (try simp only [Act.put, List.setIfInBounds_toArray, List.set_cons_zero, List.set_cons_succ])
          refine tkY 3 ⟨some 26, .unOp UnOp.not 4 (.tmp 25), 4, "sound.go:224", #[⟨2, .data⟩], none⟩ ?_ rfl ⟨by rfl, ?_⟩ ?_
          rotate_left
          · intro wz hSz; (try dsimp only at hSz); go_simp; all_goals (with_reducible rfl)
          (try simp only [Act.put, List.setIfInBounds_toArray, List.set_cons_zero, List.set_cons_succ])
          refine tkY 4 ⟨some 27, .move (.tmp 26), 4, "sound.go:224", #[⟨3, .data⟩, ⟨2, .chain⟩], none⟩ ?_ rfl ⟨by rfl, ?_⟩ ?_
          rotate_left
          · intro wz hSz; (try dsimp only at hSz); go_simp; all_goals (with_reducible rfl)
          (try simp only [Act.put, List.setIfInBounds_toArray, List.set_cons_zero, List.set_cons_succ])
          refine tkN 5 ⟨some 28, .move (.tmp 6), 3, "sound.go:224", #[⟨4, .guard⟩], some (4, false)⟩ rfl (by rfl) ?_
          (try simp only [Act.put, List.setIfInBounds_toArray, List.set_cons_zero, List.set_cons_succ])
          refine tkN 6 ⟨some 29, .binOp BinOp.gtr 3 (.tmp 28) (.const (Value.int IntKind.i64 0)) 3, 4, "sound.go:224", #[⟨5, .data⟩, ⟨4, .guard⟩], some (4, false)⟩ rfl (by rfl) ?_
          (try simp only [Act.put, List.setIfInBounds_toArray, List.set_cons_zero, List.set_cons_succ])
          refine tkN 7 ⟨some 30, .move (.tmp 29), 4, "sound.go:224", #[⟨6, .data⟩, ⟨4, .chain⟩, ⟨4, .guard⟩], some (4, false)⟩ rfl (by rfl) ?_
          (try simp only [Act.put, List.setIfInBounds_toArray, List.set_cons_zero, List.set_cons_succ])
          refine tkN 8 ⟨some 31, .fieldAddr 81 (.tmp 7) 1, 0, "sound.go:224", #[⟨7, .guard⟩], some (7, true)⟩ rfl (by rfl) ?_
          (try simp only [Act.put, List.setIfInBounds_toArray, List.set_cons_zero, List.set_cons_succ])
          refine tkN 9 ⟨some 32, .load 3 (.tmp 31), 3, "sound.go:224", #[⟨8, .data⟩, ⟨7, .guard⟩], some (7, true)⟩ rfl (by rfl) ?_
          (try simp only [Act.put, List.setIfInBounds_toArray, List.set_cons_zero, List.set_cons_succ])
          refine tkN 10 ⟨some 33, .fieldAddr 31 (.tmp 1) 6, 0, "sound.go:224", #[⟨7, .guard⟩], some (7, true)⟩ rfl (by rfl) ?_
          (try simp only [Act.put, List.setIfInBounds_toArray, List.set_cons_zero, List.set_cons_succ])
          refine tkN 11 ⟨some 34, .load 29 (.tmp 33), 29, "sound.go:224", #[⟨10, .data⟩, ⟨7, .guard⟩], some (7, true)⟩ rfl (by rfl) ?_
          (try simp only [Act.put, List.setIfInBounds_toArray, List.set_cons_zero, List.set_cons_succ])
          refine tkN 12 ⟨some 35, .move (.tmp 6), 3, "sound.go:224", #[⟨7, .guard⟩], some (7, true)⟩ rfl (by rfl) ?_
          (try simp only [Act.put, List.setIfInBounds_toArray, List.set_cons_zero, List.set_cons_succ])
          refine tkN 13 ⟨some 36, .binOp BinOp.sub 3 (.tmp 35) (.const (Value.int IntKind.i64 1)) 3, 3, "sound.go:224", #[⟨12, .data⟩, ⟨7, .guard⟩], some (7, true)⟩ rfl (by rfl) ?_
          (try simp only [Act.put, List.setIfInBounds_toArray, List.set_cons_zero, List.set_cons_succ])
          refine tkN 14 ⟨some 37, .indexAddr 29 (.tmp 34) (.tmp 36), 0, "sound.go:224", #[⟨11, .data⟩, ⟨13, .data⟩, ⟨7, .guard⟩], some (7, true)⟩ rfl (by rfl) ?_
          (try simp only [Act.put, List.setIfInBounds_toArray, List.set_cons_zero, List.set_cons_succ])
          refine tkN 15 ⟨some 38, .fieldAddr 81 (.tmp 37) 1, 0, "sound.go:224", #[⟨14, .data⟩, ⟨7, .guard⟩], some (7, true)⟩ rfl (by rfl) ?_
          (try simp only [Act.put, List.setIfInBounds_toArray, List.set_cons_zero, List.set_cons_succ])
          refine tkN 16 ⟨some 39, .load 3 (.tmp 38), 3, "sound.go:224", #[⟨15, .data⟩, ⟨7, .guard⟩], some (7, true)⟩ rfl (by rfl) ?_
          (try simp only [Act.put, List.setIfInBounds_toArray, List.set_cons_zero, List.set_cons_succ])
          refine tkN 17 ⟨some 40, .binOp BinOp.leq 3 (.tmp 32) (.tmp 39) 3, 4, "sound.go:224", #[⟨9, .data⟩, ⟨16, .data⟩, ⟨7, .guard⟩], some (7, true)⟩ rfl (by rfl) ?_
          (try simp only [Act.put, List.setIfInBounds_toArray, List.set_cons_zero, List.set_cons_succ])
          refine tkN 18 ⟨some 41, .pick (.tmp 30) (.tmp 40) (.const (Value.bool false)), 4, "sound.go:224", #[⟨7, .data⟩, ⟨17, .data⟩, ⟨4, .guard⟩], some (4, false)⟩ rfl (by rfl) ?_
          (try simp only [Act.put, List.setIfInBounds_toArray, List.set_cons_zero, List.set_cons_succ])
          refine tkY 19 ⟨some 42, .pick (.tmp 27) (.const (Value.bool true)) (.tmp 41), 4, "sound.go:224", #[⟨4, .data⟩, ⟨18, .data⟩], none⟩ ?_ rfl ⟨by rfl, ?_⟩ ?_
          rotate_left
          · intro wz hSz; (try dsimp only at hSz); go_simp; all_goals (with_reducible rfl)
          (try simp only [Act.put, List.setIfInBounds_toArray, List.set_cons_zero, List.set_cons_succ])
          refine wpAnyH_done (by kernel_rfl) ?_ _
          refine NoPanic.normal ?_
          go_wp2_with fail
          go_meet
          case rel => exact ⟨by rw [hI]; rfl, rfl⟩
        | true =>
          rw [hI] at k10
          have hi0 : 0 ≤ x1 := by unfold inB at hI; simp at hI; omega
          by_cases hk : k = 0
          case pos =>
            subst hk
            have hlx : last < x1 := by have := hl0 rfl; omega
            refine wp_region_noPanic ?_
            refine wp_region_held_drew (S := fun w' => w'.cell? ⟨wr.heap.size, 1, none⟩ = some (.int .i64 x1) ∧ w'.cell? ⟨w.heap.size, 7, none⟩ = some (.slice (some ⟨g, o, none⟩) SG.length sc)) (by kernel_rfl) ?_ (fun hHeld => ?_)
            · (try dsimp only)
              exact ⟨KS0.drew.2.1 1, Kk4.drew.2.1 7⟩
            refine tkY 0 ⟨some 23, .fieldAddr 81 (.tmp 7) 1, 0, "sound.go:224", #[], none⟩ ?_ rfl ⟨by rfl, ?_⟩ ?_
            rotate_left
            · intro wz hSz; (try dsimp only at hSz); go_simp; all_goals (with_reducible rfl)
            (try simp only [Act.put, List.setIfInBounds_toArray, List.set_cons_zero, List.set_cons_succ])
            refine tkY 1 ⟨some 24, .load 3 (.tmp 23), 3, "sound.go:224", #[⟨0, .data⟩], none⟩ ?_ rfl ⟨by rfl, ?_⟩ ?_
            rotate_left
            · intro wz hSz; (try dsimp only at hSz); go_simp; all_goals (with_reducible rfl)
            (try simp only [Act.put, List.setIfInBounds_toArray, List.set_cons_zero, List.set_cons_succ])
            refine wpAnyH_ready (rs := [2]) (by kernel_rfl) (by simp) ?_
            refine AllReadyH.cons (o := ⟨some 25, .call { callee := Callee.value (.func 31), args := #[.tmp 24, .const (Value.int IntKind.i64 0), .const (Value.int IntKind.i64 255)], argTypes := #[3, 3, 3] }, 4, "sound.go:224", #[⟨1, .data⟩], none⟩) rfl (fun K hK => ?_) AllReadyH.nil
            go_simp
            go_at_call 31
            refine Calls.mono (k10 _) ?_
            rintro e wx ⟨rfl, hwx⟩
            have hwy := hwx.symm
            clear hwx
            subst hwy
            go_wp2_with fail
            refine hK.out _ _ ?_ (fun hHeld => ?_)
            · (try dsimp only)
              exact ⟨KS0.drew.2.1 1, Kk4.drew.2.1 7⟩
            clear hK K
            (try simp only [Act.put, List.setIfInBounds_toArray, List.set_cons_zero, List.set_cons_succ])
            refine tkY 3 ⟨some 26, .unOp UnOp.not 4 (.tmp 25), 4, "sound.go:224", #[⟨2, .data⟩], none⟩ ?_ rfl ⟨by rfl, ?_⟩ ?_
            rotate_left
            · intro wz hSz; (try dsimp only at hSz); go_simp; all_goals (with_reducible rfl)
            (try simp only [Act.put, List.setIfInBounds_toArray, List.set_cons_zero, List.set_cons_succ])
            refine tkY 4 ⟨some 27, .move (.tmp 26), 4, "sound.go:224", #[⟨3, .data⟩, ⟨2, .chain⟩], none⟩ ?_ rfl ⟨by rfl, ?_⟩ ?_
            rotate_left
            · intro wz hSz; (try dsimp only at hSz); go_simp; all_goals (with_reducible rfl)
            (try simp only [Act.put, List.setIfInBounds_toArray, List.set_cons_zero, List.set_cons_succ])
            refine tkY 5 ⟨some 28, .move (.tmp 6), 3, "sound.go:224", #[⟨4, .guard⟩], some (4, false)⟩ ?_ rfl ⟨by rfl, ?_⟩ ?_
            rotate_left
            · intro wz hSz; (try dsimp only at hSz); go_simp; all_goals (with_reducible rfl)
            (try simp only [Act.put, List.setIfInBounds_toArray, List.set_cons_zero, List.set_cons_succ])
            refine tkY 6 ⟨some 29, .binOp BinOp.gtr 3 (.tmp 28) (.const (Value.int IntKind.i64 0)) 3, 4, "sound.go:224", #[⟨5, .data⟩, ⟨4, .guard⟩], some (4, false)⟩ ?_ rfl ⟨by rfl, ?_⟩ ?_
            rotate_left
            · intro wz hSz; (try dsimp only at hSz); go_simp; all_goals (with_reducible rfl)
            (try simp only [Act.put, List.setIfInBounds_toArray, List.set_cons_zero, List.set_cons_succ])
            refine tkY 7 ⟨some 30, .move (.tmp 29), 4, "sound.go:224", #[⟨6, .data⟩, ⟨4, .chain⟩, ⟨4, .guard⟩], some (4, false)⟩ ?_ rfl ⟨by rfl, ?_⟩ ?_
            rotate_left
            · intro wz hSz; (try dsimp only at hSz); go_simp; all_goals (with_reducible rfl)
            (try simp only [Act.put, List.setIfInBounds_toArray, List.set_cons_zero, List.set_cons_succ])
            refine tkN 8 ⟨some 31, .fieldAddr 81 (.tmp 7) 1, 0, "sound.go:224", #[⟨7, .guard⟩], some (7, true)⟩ rfl (by rfl) ?_
            (try simp only [Act.put, List.setIfInBounds_toArray, List.set_cons_zero, List.set_cons_succ])
            refine tkN 9 ⟨some 32, .load 3 (.tmp 31), 3, "sound.go:224", #[⟨8, .data⟩, ⟨7, .guard⟩], some (7, true)⟩ rfl (by rfl) ?_
            (try simp only [Act.put, List.setIfInBounds_toArray, List.set_cons_zero, List.set_cons_succ])
            refine tkN 10 ⟨some 33, .fieldAddr 31 (.tmp 1) 6, 0, "sound.go:224", #[⟨7, .guard⟩], some (7, true)⟩ rfl (by rfl) ?_
            (try simp only [Act.put, List.setIfInBounds_toArray, List.set_cons_zero, List.set_cons_succ])
            refine tkN 11 ⟨some 34, .load 29 (.tmp 33), 29, "sound.go:224", #[⟨10, .data⟩, ⟨7, .guard⟩], some (7, true)⟩ rfl (by rfl) ?_
            (try simp only [Act.put, List.setIfInBounds_toArray, List.set_cons_zero, List.set_cons_succ])
            refine tkN 12 ⟨some 35, .move (.tmp 6), 3, "sound.go:224", #[⟨7, .guard⟩], some (7, true)⟩ rfl (by rfl) ?_
            (try simp only [Act.put, List.setIfInBounds_toArray, List.set_cons_zero, List.set_cons_succ])
            refine tkN 13 ⟨some 36, .binOp BinOp.sub 3 (.tmp 35) (.const (Value.int IntKind.i64 1)) 3, 3, "sound.go:224", #[⟨12, .data⟩, ⟨7, .guard⟩], some (7, true)⟩ rfl (by rfl) ?_
            (try simp only [Act.put, List.setIfInBounds_toArray, List.set_cons_zero, List.set_cons_succ])
            refine tkN 14 ⟨some 37, .indexAddr 29 (.tmp 34) (.tmp 36), 0, "sound.go:224", #[⟨11, .data⟩, ⟨13, .data⟩, ⟨7, .guard⟩], some (7, true)⟩ rfl (by rfl) ?_
            (try simp only [Act.put, List.setIfInBounds_toArray, List.set_cons_zero, List.set_cons_succ])
            refine tkN 15 ⟨some 38, .fieldAddr 81 (.tmp 37) 1, 0, "sound.go:224", #[⟨14, .data⟩, ⟨7, .guard⟩], some (7, true)⟩ rfl (by rfl) ?_
            (try simp only [Act.put, List.setIfInBounds_toArray, List.set_cons_zero, List.set_cons_succ])
            refine tkN 16 ⟨some 39, .load 3 (.tmp 38), 3, "sound.go:224", #[⟨15, .data⟩, ⟨7, .guard⟩], some (7, true)⟩ rfl (by rfl) ?_
            (try simp only [Act.put, List.setIfInBounds_toArray, List.set_cons_zero, List.set_cons_succ])
            refine tkN 17 ⟨some 40, .binOp BinOp.leq 3 (.tmp 32) (.tmp 39) 3, 4, "sound.go:224", #[⟨9, .data⟩, ⟨16, .data⟩, ⟨7, .guard⟩], some (7, true)⟩ rfl (by rfl) ?_
            (try simp only [Act.put, List.setIfInBounds_toArray, List.set_cons_zero, List.set_cons_succ])
            refine tkY 18 ⟨some 41, .pick (.tmp 30) (.tmp 40) (.const (Value.bool false)), 4, "sound.go:224", #[⟨7, .data⟩, ⟨17, .data⟩, ⟨4, .guard⟩], some (4, false)⟩ ?_ rfl ⟨by rfl, ?_⟩ ?_
            rotate_left
            · intro wz hSz; (try dsimp only at hSz); go_simp; all_goals (with_reducible rfl)
            (try simp only [Act.put, List.setIfInBounds_toArray, List.set_cons_zero, List.set_cons_succ])
            refine tkY 19 ⟨some 42, .pick (.tmp 27) (.const (Value.bool true)) (.tmp 41), 4, "sound.go:224", #[⟨4, .data⟩, ⟨18, .data⟩], none⟩ ?_ rfl ⟨by rfl, ?_⟩ ?_
            rotate_left
            · intro wz hSz; (try dsimp only at hSz); go_simp; all_goals (with_reducible rfl)
            (try simp only [Act.put, List.setIfInBounds_toArray, List.set_cons_zero, List.set_cons_succ])
            refine wpAnyH_done (by kernel_rfl) ?_ _
            refine NoPanic.normal ?_
            go_wp2_with fail
            go_meet
            case rel => exact ⟨by rw [hI, decide_eq_true hlx]; rfl, rfl⟩
          obtain ⟨j, rfl⟩ : ∃ j, k = j + 1 := ⟨k - 1, by omega⟩
          have hj : j < SG.length := by omega
          have hlj := hl2 (by omega) (by simpa using hj)
          obtain ⟨cs', _, ⟨_, _, _, _, rfl, -⟩, P3⟩ := hx j hj
          have pj := (hbB.cell (p := ⟨g, _, none⟩) hg).trans (P3 1 _ rfl)
          rw [show SG[j].id = last from hlj] at pj
          have j3 : ((j + 1 : Nat) : Int) - 1 = (j : Int) := by omega
          have j4 : IntKind.i64.wrap (j : Int) = (j : Int) := wrap64 _ (by omega)
          have t5 : (0 : Int) < ((j + 1 : Nat) : Int) := by omega
          have t6 : (j : Int) < (SG.length : Int) := by omega
          have t7 : (0 : Int) ≤ (j : Int) := by omega
          have pj4 := ((bel1 (w := wr) (.cells #[.string x0, .int .i64 x1, .int .u64 x2, .slice e1 L1.length c1, .slice e2 L2.length c2, .slice e3 L3.length c3, .slice e4 L4.length c4] 81)).cell (p := ⟨g, _, none⟩) (Nat.lt_of_lt_of_le hg hbB.size)).trans pj
          by_cases hlx : last < x1
          case neg =>
            have t8 : x1 ≤ last := by omega
            refine wp_region_noPanic ?_
            refine wp_region_held_drew (S := fun w' => w'.cell? ⟨wr.heap.size, 1, none⟩ = some (.int .i64 x1) ∧ w'.cell? ⟨w.heap.size, 7, none⟩ = some (.slice (some ⟨g, o, none⟩) SG.length sc) ∧ w'.cell? ⟨g, o + j * 7 + 1, none⟩ = some (.int .i64 last)) (by kernel_rfl) ?_ (fun hHeld => ?_)
            · (try dsimp only)
              exact ⟨KS0.drew.2.1 1, Kk4.drew.2.1 7, pj4⟩
            refine tkY 0 ⟨some 23, .fieldAddr 81 (.tmp 7) 1, 0, "sound.go:224", #[], none⟩ ?_ rfl ⟨by rfl, ?_⟩ ?_
            rotate_left
            · intro wz hSz; (try dsimp only at hSz); go_simp; all_goals (with_reducible rfl)
            (try simp only [Act.put, List.setIfInBounds_toArray, List.set_cons_zero, List.set_cons_succ])
            refine tkY 1 ⟨some 24, .load 3 (.tmp 23), 3, "sound.go:224", #[⟨0, .data⟩], none⟩ ?_ rfl ⟨by rfl, ?_⟩ ?_
            rotate_left
            · intro wz hSz; (try dsimp only at hSz); go_simp; all_goals (with_reducible rfl)
            (try simp only [Act.put, List.setIfInBounds_toArray, List.set_cons_zero, List.set_cons_succ])
            refine wpAnyH_ready (rs := [2]) (by kernel_rfl) (by simp) ?_
            refine AllReadyH.cons (o := ⟨some 25, .call { callee := Callee.value (.func 31), args := #[.tmp 24, .const (Value.int IntKind.i64 0), .const (Value.int IntKind.i64 255)], argTypes := #[3, 3, 3] }, 4, "sound.go:224", #[⟨1, .data⟩], none⟩) rfl (fun K hK => ?_) AllReadyH.nil
            go_simp
            go_at_call 31
            refine Calls.mono (k10 _) ?_
            rintro e wx ⟨rfl, hwx⟩
            have hwy := hwx.symm
            clear hwx
            subst hwy
            go_wp2_with fail
            refine hK.out _ _ ?_ (fun hHeld => ?_)
            · (try dsimp only)
              exact ⟨KS0.drew.2.1 1, Kk4.drew.2.1 7, pj4⟩
            clear hK K
            (try simp only [Act.put, List.setIfInBounds_toArray, List.set_cons_zero, List.set_cons_succ])
            refine tkY 3 ⟨some 26, .unOp UnOp.not 4 (.tmp 25), 4, "sound.go:224", #[⟨2, .data⟩], none⟩ ?_ rfl ⟨by rfl, ?_⟩ ?_
            rotate_left
            · intro wz hSz; (try dsimp only at hSz); go_simp; all_goals (with_reducible rfl)
            (try simp only [Act.put, List.setIfInBounds_toArray, List.set_cons_zero, List.set_cons_succ])
            refine tkY 4 ⟨some 27, .move (.tmp 26), 4, "sound.go:224", #[⟨3, .data⟩, ⟨2, .chain⟩], none⟩ ?_ rfl ⟨by rfl, ?_⟩ ?_
            rotate_left
            · intro wz hSz; (try dsimp only at hSz); go_simp; all_goals (with_reducible rfl)
            (try simp only [Act.put, List.setIfInBounds_toArray, List.set_cons_zero, List.set_cons_succ])
            refine tkY 5 ⟨some 28, .move (.tmp 6), 3, "sound.go:224", #[⟨4, .guard⟩], some (4, false)⟩ ?_ rfl ⟨by rfl, ?_⟩ ?_
            rotate_left
            · intro wz hSz; (try dsimp only at hSz); go_simp; all_goals (with_reducible rfl)
            (try simp only [Act.put, List.setIfInBounds_toArray, List.set_cons_zero, List.set_cons_succ])
            refine tkY 6 ⟨some 29, .binOp BinOp.gtr 3 (.tmp 28) (.const (Value.int IntKind.i64 0)) 3, 4, "sound.go:224", #[⟨5, .data⟩, ⟨4, .guard⟩], some (4, false)⟩ ?_ rfl ⟨by rfl, ?_⟩ ?_
            rotate_left
            · intro wz hSz; (try dsimp only at hSz); go_simp; all_goals (with_reducible rfl)
            (try simp only [Act.put, List.setIfInBounds_toArray, List.set_cons_zero, List.set_cons_succ])
            refine tkY 7 ⟨some 30, .move (.tmp 29), 4, "sound.go:224", #[⟨6, .data⟩, ⟨4, .chain⟩, ⟨4, .guard⟩], some (4, false)⟩ ?_ rfl ⟨by rfl, ?_⟩ ?_
            rotate_left
            · intro wz hSz; (try dsimp only at hSz); go_simp; all_goals (with_reducible rfl)
            (try simp only [Act.put, List.setIfInBounds_toArray, List.set_cons_zero, List.set_cons_succ])
            refine tkY 8 ⟨some 31, .fieldAddr 81 (.tmp 7) 1, 0, "sound.go:224", #[⟨7, .guard⟩], some (7, true)⟩ ?_ rfl ⟨by rfl, ?_⟩ ?_
            rotate_left
            · intro wz hSz; (try dsimp only at hSz); go_simp; all_goals (with_reducible rfl)
            (try simp only [Act.put, List.setIfInBounds_toArray, List.set_cons_zero, List.set_cons_succ])
            refine tkY 9 ⟨some 32, .load 3 (.tmp 31), 3, "sound.go:224", #[⟨8, .data⟩, ⟨7, .guard⟩], some (7, true)⟩ ?_ rfl ⟨by rfl, ?_⟩ ?_
            rotate_left
            · intro wz hSz; (try dsimp only at hSz); go_simp; all_goals (with_reducible rfl)
            (try simp only [Act.put, List.setIfInBounds_toArray, List.set_cons_zero, List.set_cons_succ])
            refine tkY 10 ⟨some 33, .fieldAddr 31 (.tmp 1) 6, 0, "sound.go:224", #[⟨7, .guard⟩], some (7, true)⟩ ?_ rfl ⟨by rfl, ?_⟩ ?_
            rotate_left
            · intro wz hSz; (try dsimp only at hSz); go_simp; all_goals (with_reducible rfl)
            (try simp only [Act.put, List.setIfInBounds_toArray, List.set_cons_zero, List.set_cons_succ])
            refine tkY 11 ⟨some 34, .load 29 (.tmp 33), 29, "sound.go:224", #[⟨10, .data⟩, ⟨7, .guard⟩], some (7, true)⟩ ?_ rfl ⟨by rfl, ?_⟩ ?_
            rotate_left
            · intro wz hSz; (try dsimp only at hSz); go_simp; all_goals (with_reducible rfl)
            (try simp only [Act.put, List.setIfInBounds_toArray, List.set_cons_zero, List.set_cons_succ])
            refine tkY 12 ⟨some 35, .move (.tmp 6), 3, "sound.go:224", #[⟨7, .guard⟩], some (7, true)⟩ ?_ rfl ⟨by rfl, ?_⟩ ?_
            rotate_left
            · intro wz hSz; (try dsimp only at hSz); go_simp; all_goals (with_reducible rfl)
            (try simp only [Act.put, List.setIfInBounds_toArray, List.set_cons_zero, List.set_cons_succ])
            refine tkY 13 ⟨some 36, .binOp BinOp.sub 3 (.tmp 35) (.const (Value.int IntKind.i64 1)) 3, 3, "sound.go:224", #[⟨12, .data⟩, ⟨7, .guard⟩], some (7, true)⟩ ?_ rfl ⟨by rfl, ?_⟩ ?_
            rotate_left
            · intro wz hSz; (try dsimp only at hSz); go_simp; all_goals (with_reducible rfl)
            (try simp only [Act.put, List.setIfInBounds_toArray, List.set_cons_zero, List.set_cons_succ])
            refine tkY 14 ⟨some 37, .indexAddr 29 (.tmp 34) (.tmp 36), 0, "sound.go:224", #[⟨11, .data⟩, ⟨13, .data⟩, ⟨7, .guard⟩], some (7, true)⟩ ?_ rfl ⟨by rfl, ?_⟩ ?_
            rotate_left
            · intro wz hSz; (try dsimp only at hSz); go_simp; all_goals (with_reducible rfl)
            (try simp only [Act.put, List.setIfInBounds_toArray, List.set_cons_zero, List.set_cons_succ])
            refine tkY 15 ⟨some 38, .fieldAddr 81 (.tmp 37) 1, 0, "sound.go:224", #[⟨14, .data⟩, ⟨7, .guard⟩], some (7, true)⟩ ?_ rfl ⟨by rfl, ?_⟩ ?_
            rotate_left
            · intro wz hSz; (try dsimp only at hSz); go_simp; all_goals (with_reducible rfl)
            (try simp only [Act.put, List.setIfInBounds_toArray, List.set_cons_zero, List.set_cons_succ])
            refine tkY 16 ⟨some 39, .load 3 (.tmp 38), 3, "sound.go:224", #[⟨15, .data⟩, ⟨7, .guard⟩], some (7, true)⟩ ?_ rfl ⟨by rfl, ?_⟩ ?_
            rotate_left
            · intro wz hSz; (try dsimp only at hSz); go_simp; all_goals (with_reducible rfl)
            (try simp only [Act.put, List.setIfInBounds_toArray, List.set_cons_zero, List.set_cons_succ])
            refine tkY 17 ⟨some 40, .binOp BinOp.leq 3 (.tmp 32) (.tmp 39) 3, 4, "sound.go:224", #[⟨9, .data⟩, ⟨16, .data⟩, ⟨7, .guard⟩], some (7, true)⟩ ?_ rfl ⟨by rfl, ?_⟩ ?_
            rotate_left
            · intro wz hSz; (try dsimp only at hSz); go_simp; all_goals (with_reducible rfl)
            (try simp only [Act.put, List.setIfInBounds_toArray, List.set_cons_zero, List.set_cons_succ])
            refine tkY 18 ⟨some 41, .pick (.tmp 30) (.tmp 40) (.const (Value.bool false)), 4, "sound.go:224", #[⟨7, .data⟩, ⟨17, .data⟩, ⟨4, .guard⟩], some (4, false)⟩ ?_ rfl ⟨by rfl, ?_⟩ ?_
            rotate_left
            · intro wz hSz; (try dsimp only at hSz); go_simp; all_goals (with_reducible rfl)
            (try simp only [Act.put, List.setIfInBounds_toArray, List.set_cons_zero, List.set_cons_succ])
            refine tkY 19 ⟨some 42, .pick (.tmp 27) (.const (Value.bool true)) (.tmp 41), 4, "sound.go:224", #[⟨4, .data⟩, ⟨18, .data⟩], none⟩ ?_ rfl ⟨by rfl, ?_⟩ ?_
            rotate_left
            · intro wz hSz; (try dsimp only at hSz); go_simp; all_goals (with_reducible rfl)
            (try simp only [Act.put, List.setIfInBounds_toArray, List.set_cons_zero, List.set_cons_succ])
            refine wpAnyH_done (by kernel_rfl) ?_ _
            refine NoPanic.normal ?_
            go_wp2_with fail
            go_meet
            case rel => exact ⟨by rw [hI, decide_eq_false (by omega : ¬ last < x1)]; first | rfl | (rw [decide_eq_true t8]; rfl), rfl⟩
          case pos =>
            have t8 : ¬ x1 ≤ last := by omega
            refine wp_region_noPanic ?_
            refine wp_region_held_drew (S := fun w' => w'.cell? ⟨wr.heap.size, 1, none⟩ = some (.int .i64 x1) ∧ w'.cell? ⟨w.heap.size, 7, none⟩ = some (.slice (some ⟨g, o, none⟩) SG.length sc) ∧ w'.cell? ⟨g, o + j * 7 + 1, none⟩ = some (.int .i64 last)) (by kernel_rfl) ?_ (fun hHeld => ?_)
            · (try dsimp only)
              exact ⟨KS0.drew.2.1 1, Kk4.drew.2.1 7, pj4⟩
            refine tkY 0 ⟨some 23, .fieldAddr 81 (.tmp 7) 1, 0, "sound.go:224", #[], none⟩ ?_ rfl ⟨by rfl, ?_⟩ ?_
            rotate_left
            · intro wz hSz; (try dsimp only at hSz); go_simp; all_goals (with_reducible rfl)
            (try simp only [Act.put, List.setIfInBounds_toArray, List.set_cons_zero, List.set_cons_succ])
            refine tkY 1 ⟨some 24, .load 3 (.tmp 23), 3, "sound.go:224", #[⟨0, .data⟩], none⟩ ?_ rfl ⟨by rfl, ?_⟩ ?_
            rotate_left
            · intro wz hSz; (try dsimp only at hSz); go_simp; all_goals (with_reducible rfl)
            (try simp only [Act.put, List.setIfInBounds_toArray, List.set_cons_zero, List.set_cons_succ])
            refine wpAnyH_ready (rs := [2]) (by kernel_rfl) (by simp) ?_
            refine AllReadyH.cons (o := ⟨some 25, .call { callee := Callee.value (.func 31), args := #[.tmp 24, .const (Value.int IntKind.i64 0), .const (Value.int IntKind.i64 255)], argTypes := #[3, 3, 3] }, 4, "sound.go:224", #[⟨1, .data⟩], none⟩) rfl (fun K hK => ?_) AllReadyH.nil
            go_simp
            go_at_call 31
            refine Calls.mono (k10 _) ?_
            rintro e wx ⟨rfl, hwx⟩
            have hwy := hwx.symm
            clear hwx
            subst hwy
            go_wp2_with fail
            refine hK.out _ _ ?_ (fun hHeld => ?_)
            · (try dsimp only)
              exact ⟨KS0.drew.2.1 1, Kk4.drew.2.1 7, pj4⟩
            clear hK K
            (try simp only [Act.put, List.setIfInBounds_toArray, List.set_cons_zero, List.set_cons_succ])
            refine tkY 3 ⟨some 26, .unOp UnOp.not 4 (.tmp 25), 4, "sound.go:224", #[⟨2, .data⟩], none⟩ ?_ rfl ⟨by rfl, ?_⟩ ?_
            rotate_left
            · intro wz hSz; (try dsimp only at hSz); go_simp; all_goals (with_reducible rfl)
            (try simp only [Act.put, List.setIfInBounds_toArray, List.set_cons_zero, List.set_cons_succ])
            refine tkY 4 ⟨some 27, .move (.tmp 26), 4, "sound.go:224", #[⟨3, .data⟩, ⟨2, .chain⟩], none⟩ ?_ rfl ⟨by rfl, ?_⟩ ?_
            rotate_left
            · intro wz hSz; (try dsimp only at hSz); go_simp; all_goals (with_reducible rfl)
            (try simp only [Act.put, List.setIfInBounds_toArray, List.set_cons_zero, List.set_cons_succ])
            refine tkY 5 ⟨some 28, .move (.tmp 6), 3, "sound.go:224", #[⟨4, .guard⟩], some (4, false)⟩ ?_ rfl ⟨by rfl, ?_⟩ ?_
            rotate_left
            · intro wz hSz; (try dsimp only at hSz); go_simp; all_goals (with_reducible rfl)
            (try simp only [Act.put, List.setIfInBounds_toArray, List.set_cons_zero, List.set_cons_succ])
            refine tkY 6 ⟨some 29, .binOp BinOp.gtr 3 (.tmp 28) (.const (Value.int IntKind.i64 0)) 3, 4, "sound.go:224", #[⟨5, .data⟩, ⟨4, .guard⟩], some (4, false)⟩ ?_ rfl ⟨by rfl, ?_⟩ ?_
            rotate_left
            · intro wz hSz; (try dsimp only at hSz); go_simp; all_goals (with_reducible rfl)
            (try simp only [Act.put, List.setIfInBounds_toArray, List.set_cons_zero, List.set_cons_succ])
            refine tkY 7 ⟨some 30, .move (.tmp 29), 4, "sound.go:224", #[⟨6, .data⟩, ⟨4, .chain⟩, ⟨4, .guard⟩], some (4, false)⟩ ?_ rfl ⟨by rfl, ?_⟩ ?_
            rotate_left
            · intro wz hSz; (try dsimp only at hSz); go_simp; all_goals (with_reducible rfl)
            (try simp only [Act.put, List.setIfInBounds_toArray, List.set_cons_zero, List.set_cons_succ])
            refine tkY 8 ⟨some 31, .fieldAddr 81 (.tmp 7) 1, 0, "sound.go:224", #[⟨7, .guard⟩], some (7, true)⟩ ?_ rfl ⟨by rfl, ?_⟩ ?_
            rotate_left
            · intro wz hSz; (try dsimp only at hSz); go_simp; all_goals (with_reducible rfl)
            (try simp only [Act.put, List.setIfInBounds_toArray, List.set_cons_zero, List.set_cons_succ])
            refine tkY 9 ⟨some 32, .load 3 (.tmp 31), 3, "sound.go:224", #[⟨8, .data⟩, ⟨7, .guard⟩], some (7, true)⟩ ?_ rfl ⟨by rfl, ?_⟩ ?_
            rotate_left
            · intro wz hSz; (try dsimp only at hSz); go_simp; all_goals (with_reducible rfl)
            (try simp only [Act.put, List.setIfInBounds_toArray, List.set_cons_zero, List.set_cons_succ])
            refine tkY 10 ⟨some 33, .fieldAddr 31 (.tmp 1) 6, 0, "sound.go:224", #[⟨7, .guard⟩], some (7, true)⟩ ?_ rfl ⟨by rfl, ?_⟩ ?_
            rotate_left
            · intro wz hSz; (try dsimp only at hSz); go_simp; all_goals (with_reducible rfl)
            (try simp only [Act.put, List.setIfInBounds_toArray, List.set_cons_zero, List.set_cons_succ])
            refine tkY 11 ⟨some 34, .load 29 (.tmp 33), 29, "sound.go:224", #[⟨10, .data⟩, ⟨7, .guard⟩], some (7, true)⟩ ?_ rfl ⟨by rfl, ?_⟩ ?_
            rotate_left
            · intro wz hSz; (try dsimp only at hSz); go_simp; all_goals (with_reducible rfl)
            (try simp only [Act.put, List.setIfInBounds_toArray, List.set_cons_zero, List.set_cons_succ])
            refine tkY 12 ⟨some 35, .move (.tmp 6), 3, "sound.go:224", #[⟨7, .guard⟩], some (7, true)⟩ ?_ rfl ⟨by rfl, ?_⟩ ?_
            rotate_left
            · intro wz hSz; (try dsimp only at hSz); go_simp; all_goals (with_reducible rfl)
            (try simp only [Act.put, List.setIfInBounds_toArray, List.set_cons_zero, List.set_cons_succ])
            refine tkY 13 ⟨some 36, .binOp BinOp.sub 3 (.tmp 35) (.const (Value.int IntKind.i64 1)) 3, 3, "sound.go:224", #[⟨12, .data⟩, ⟨7, .guard⟩], some (7, true)⟩ ?_ rfl ⟨by rfl, ?_⟩ ?_
            rotate_left
            · intro wz hSz; (try dsimp only at hSz); go_simp; all_goals (with_reducible rfl)
            (try simp only [Act.put, List.setIfInBounds_toArray, List.set_cons_zero, List.set_cons_succ])
            refine tkY 14 ⟨some 37, .indexAddr 29 (.tmp 34) (.tmp 36), 0, "sound.go:224", #[⟨11, .data⟩, ⟨13, .data⟩, ⟨7, .guard⟩], some (7, true)⟩ ?_ rfl ⟨by rfl, ?_⟩ ?_
            rotate_left
            · intro wz hSz; (try dsimp only at hSz); go_simp; all_goals (with_reducible rfl)
            (try simp only [Act.put, List.setIfInBounds_toArray, List.set_cons_zero, List.set_cons_succ])
            refine tkY 15 ⟨some 38, .fieldAddr 81 (.tmp 37) 1, 0, "sound.go:224", #[⟨14, .data⟩, ⟨7, .guard⟩], some (7, true)⟩ ?_ rfl ⟨by rfl, ?_⟩ ?_
            rotate_left
            · intro wz hSz; (try dsimp only at hSz); go_simp; all_goals (with_reducible rfl)
            (try simp only [Act.put, List.setIfInBounds_toArray, List.set_cons_zero, List.set_cons_succ])
            refine tkY 16 ⟨some 39, .load 3 (.tmp 38), 3, "sound.go:224", #[⟨15, .data⟩, ⟨7, .guard⟩], some (7, true)⟩ ?_ rfl ⟨by rfl, ?_⟩ ?_
            rotate_left
            · intro wz hSz; (try dsimp only at hSz); go_simp; all_goals (with_reducible rfl)
            (try simp only [Act.put, List.setIfInBounds_toArray, List.set_cons_zero, List.set_cons_succ])
            refine tkY 17 ⟨some 40, .binOp BinOp.leq 3 (.tmp 32) (.tmp 39) 3, 4, "sound.go:224", #[⟨9, .data⟩, ⟨16, .data⟩, ⟨7, .guard⟩], some (7, true)⟩ ?_ rfl ⟨by rfl, ?_⟩ ?_
            rotate_left
            · intro wz hSz; (try dsimp only at hSz); go_simp; all_goals (with_reducible rfl)
            (try simp only [Act.put, List.setIfInBounds_toArray, List.set_cons_zero, List.set_cons_succ])
            refine tkY 18 ⟨some 41, .pick (.tmp 30) (.tmp 40) (.const (Value.bool false)), 4, "sound.go:224", #[⟨7, .data⟩, ⟨17, .data⟩, ⟨4, .guard⟩], some (4, false)⟩ ?_ rfl ⟨by rfl, ?_⟩ ?_
            rotate_left
            · intro wz hSz; (try dsimp only at hSz); go_simp; all_goals (with_reducible rfl)
            (try simp only [Act.put, List.setIfInBounds_toArray, List.set_cons_zero, List.set_cons_succ])
            refine tkY 19 ⟨some 42, .pick (.tmp 27) (.const (Value.bool true)) (.tmp 41), 4, "sound.go:224", #[⟨4, .data⟩, ⟨18, .data⟩], none⟩ ?_ rfl ⟨by rfl, ?_⟩ ?_
            rotate_left
            · intro wz hSz; (try dsimp only at hSz); go_simp; all_goals (with_reducible rfl)
            (try simp only [Act.put, List.setIfInBounds_toArray, List.set_cons_zero, List.set_cons_succ])
            refine wpAnyH_done (by kernel_rfl) ?_ _
            refine NoPanic.normal ?_
            go_wp2_with fail
            go_meet
            case rel => exact ⟨by rw [hI, decide_eq_true hlx]; first | rfl | (rw [decide_eq_false (by omega : ¬ x1 ≤ last)]; rfl), rfl⟩
      case rest =>
        obtain ⟨rfl, rfl⟩ := hcut
        clear k10 k10a hl1 hl0 hl2 hx v1 v2 p0 p1 p2 p3 p4 p5 p6
        have hbd := hb4.drew
        have Kd := Kk4.drew
        have Sd := KS0.drew
        have hsz : (wr.alloc (.cells #[.string x0, .int .i64 x1, .int .u64 x2, .slice e1 L1.length c1, .slice e2 L2.length c2, .slice e3 L3.length c3, .slice e4 L4.length c4] 81)).drew.heap.size = (wr.alloc (.cells #[.string x0, .int .i64 x1, .int .u64 x2, .slice e1 L1.length c1, .slice e2 L2.length c2, .slice e3 L3.length c3, .slice e4 L4.length c4] 81)).heap.size := rfl
        rw [← Bool.and_assoc (inB x1 0 255)] at hq
        cases hI : (inB x1 0 255 && decide (last < x1)) with
        | false =>
          rw [hI] at hq
          have hq3 : A = false := by rw [← hq]; rfl
          subst hq3
          go_wp2_with fail
          go_ret
          exact ⟨rfl, hbd⟩
        | true =>
          rw [hI, Bool.true_and] at hq
          have hx0 : -1 ≤ x1 := by have := (Bool.and_eq_true_iff.1 hI).1; unfold inB at this; simp at this; omega
          have hq : (((!(decide (G.length < 64)) || decide (x2 / 2 ^ G.length = 0)) && (rsZ ⟨G.length, D.length, TM.length, CT.length, VR.length⟩ L1 L2 L3 0 && L4.all (nxZ ⟨G.length, D.length, TM.length, CT.length, VR.length⟩ SG.length k))) && R) = A := hq
          obtain ⟨_, v1, v2⟩ := id Kd
          obtain ⟨_, v3, v4⟩ := id Sd
          have g0 : (0 : Int) ≤ (G.length : Int) := by omega
          have g1 : (G.length : Int) ≤ 64 := by omega
          go_upto_region 11 with fail
          go_cut [55] from 11 to 146 (fun s55 wx => s55 = .bool (!(!(decide (G.length < 64)) || decide (x2 / 2 ^ G.length = 0))) ∧ wx = ((wr.alloc (.cells #[.string x0, .int .i64 x1, .int .u64 x2, .slice e1 L1.length c1, .slice e2 L2.length c2, .slice e3 L3.length c3, .slice e4 L4.length c4] 81))).drew)
          case first =>
            by_cases g6 : G.length < 64
            case neg =>
              have s1 : ¬ (G.length : Int) < 64 := by omega
              go_wp2_with fail
              go_meet
              case rel => exact ⟨by rw [decide_eq_false g6]; rfl, rfl⟩
            case pos =>
              have s1 : (G.length : Int) < 64 := by omega
              by_cases z3 : x2 / 2 ^ G.length = 0
              case pos =>
                go_wp2_with fail
                go_meet
                case rel => exact ⟨by rw [decide_eq_true g6, decide_eq_true z3]; rfl, rfl⟩
              case neg =>
                go_wp2_with fail
                go_meet
                case rel => exact ⟨by rw [decide_eq_true g6, decide_eq_false z3]; simp [z3], rfl⟩
          case rest =>
            obtain ⟨rfl, rfl⟩ := hcut
            generalize (!(decide (G.length < 64)) || decide (x2 / 2 ^ G.length = 0)) = X at *
            cases X with
            | false =>
              have hq3 : A = false := by rw [← hq]; rfl
              subst hq3
              go_wp2_with fail
              go_ret
              exact ⟨rfl, hbd⟩
            | true =>
              have hq : (((brZ ⟨G.length, D.length, TM.length, CT.length, VR.length⟩ [] L1 && (brZ ⟨G.length, D.length, TM.length, CT.length, VR.length⟩ [] L2 && brZ ⟨G.length, D.length, TM.length, CT.length, VR.length⟩ [] L3)) && L4.all (nxZ ⟨G.length, D.length, TM.length, CT.length, VR.length⟩ SG.length k)) && R) = A := hq
              have n1 := @br_exN ⟨G.length, D.length, TM.length, CT.length, VR.length⟩ L1
              have n2 := @br_exN ⟨G.length, D.length, TM.length, CT.length, VR.length⟩ L2
              have n3 := @br_exN ⟨G.length, D.length, TM.length, CT.length, VR.length⟩ L3
              have k21 := fun (L : List St) (v : Value) (X : World) (h : Sts (fun _ => True) X v L) (hr : ∀ s ∈ L, ∀ x ∈ s.expr, vOk x.val) => rList_any ⟨G.length, D.length, TM.length, CT.length, VR.length⟩ pn ga ca da ta ka va (some ⟨g, o, none⟩) gc C.length cc dc tc kc vc SG.length sc stt L v (fun _ => True) X h hr
              have k21a := k21 L1 (.slice e1 L1.length c1) _ (Sts.below q1 hbd) r1
              generalize brZ ⟨G.length, D.length, TM.length, CT.length, VR.length⟩ [] L1 = B1 at *
              go_wp2_with fail
              go_at_call 71
              refine Calls.mono k21a ?_
              rintro e wa ⟨rfl, hA1⟩
              have hba := bel_after hbd hbd.size hA1
              have Ka := Kd.below hA1
              have Sa := Sd.below hA1
              clear k21a v1 v2 v3 v4
              cases B1 with
              | false =>
                have hq3 : A = false := by rw [← hq]; rfl
                subst hq3
                go_wp2_with fail
                go_ret
                exact ⟨rfl, hba⟩
              | true =>
                obtain ⟨_, v1, v2⟩ := id Ka
                obtain ⟨_, v3, v4⟩ := id Sa
                have hq : (((brZ ⟨G.length, D.length, TM.length, CT.length, VR.length⟩ [] L2 && brZ ⟨G.length, D.length, TM.length, CT.length, VR.length⟩ [] L3) && L4.all (nxZ ⟨G.length, D.length, TM.length, CT.length, VR.length⟩ SG.length k)) && R) = A := hq
                have k21b := k21 L2 (.slice e2 L2.length c2) _ (Sts.below q2 hba) r2
                generalize brZ ⟨G.length, D.length, TM.length, CT.length, VR.length⟩ [] L2 = B2 at *
                go_wp2_with fail
                go_at_call 71
                refine Calls.mono k21b ?_
                rintro e wb ⟨rfl, hA2⟩
                have hbb := bel_after hba hba.size hA2
                have Kb := Ka.below hA2
                have Sb := Sa.below hA2
                clear k21b v1 v2 v3 v4
                cases B2 with
                | false =>
                  have hq3 : A = false := by rw [← hq]; rfl
                  subst hq3
                  go_wp2_with fail
                  go_ret
                  exact ⟨rfl, hbb⟩
                | true =>
                  obtain ⟨_, v1, v2⟩ := id Kb
                  obtain ⟨_, v3, v4⟩ := id Sb
                  have hq : ((brZ ⟨G.length, D.length, TM.length, CT.length, VR.length⟩ [] L3 && L4.all (nxZ ⟨G.length, D.length, TM.length, CT.length, VR.length⟩ SG.length k)) && R) = A := hq
                  have k21c := k21 L3 (.slice e3 L3.length c3) _ (Sts.below q3 hbb) r3
                  generalize brZ ⟨G.length, D.length, TM.length, CT.length, VR.length⟩ [] L3 = B3 at *
                  go_wp2_with fail
                  go_at_call 71
                  refine Calls.mono k21c ?_
                  rintro e W3 ⟨rfl, hA3⟩
                  have hb3 := bel_after hbb hbb.size hA3
                  have K3 := Kb.below hA3
                  have S3 := Sb.below hA3
                  clear k21c k21 v1 v2 v3 v4
                  cases B3 with
                  | false =>
                    have hq3 : A = false := by rw [← hq]; rfl
                    subst hq3
                    go_wp2_with fail
                    go_ret
                    exact ⟨rfl, hb3⟩
                  | true =>
                    obtain ⟨_, v1, v2⟩ := id K3
                    obtain ⟨_, v3, v4⟩ := id S3
                    have hq : (L4.all (nxZ ⟨G.length, D.length, TM.length, CT.length, VR.length⟩ SG.length k) && R) = A := hq
                    have n1 : exN L1 ≤ L1.length * 256 := by first | exact n1 | exact n1 rfl | exact n1 trivial
                    have n2 : exN L2 ≤ L2.length * 256 := by first | exact n2 | exact n2 rfl | exact n2 trivial
                    have n3 : exN L3 ≤ L3.length * 256 := by first | exact n3 | exact n3 rfl | exact n3 trivial
                    have hb3d := hb3.drew
                    have K3d := K3.drew
                    have S3d := S3.drew
                    have k22a := nodes_any L1 (.slice e1 L1.length c1) (fun _ => True) W3.drew (Sts.below q1 hb3d) (by omega)
                    have k22b := nodes_any L2 (.slice e2 L2.length c2) (fun _ => True) W3.drew (Sts.below q2 hb3d) (by omega)
                    have k22c := nodes_any L3 (.slice e3 L3.length c3) (fun _ => True) W3.drew (Sts.below q3 hb3d) (by omega)
                    have k23 := fun (L : List Nd) (vn : Value) (X : World) (hN : Nds X vn L) (hl : L.length ≤ 2932031007317) (hr : ∀ x ∈ L, vOk x.val) => rExpr_any ⟨G.length, D.length, TM.length, CT.length, VR.length⟩ pn ga ca da ta ka va (some ⟨g, o, none⟩) gc C.length cc dc tc kc vc SG.length sc stt L vn 2 X hN hl hr
                    have e16a : IntKind.i64.wrap ((c : Int) + (exN L1 : Int)) = (c : Int) + (exN L1 : Int) := wrap64 _ (by omega)
                    have e16b : IntKind.i64.wrap ((c : Int) + (exN L1 : Int) + (exN L2 : Int)) = (c : Int) + (exN L1 : Int) + (exN L2 : Int) := wrap64 _ (by omega)
                    have e16c : IntKind.i64.wrap ((c : Int) + (exN L1 : Int) + (exN L2 : Int) + (exN L3 : Int)) = (c : Int) + (exN L1 : Int) + (exN L2 : Int) + (exN L3 : Int) := wrap64 _ (by omega)
                    go_wp2_with fail
                    refine wp_region_noPanic ?_
                    refine wp_region_held_drew (S := fun w' => w'.cell? ⟨wr.heap.size, 3, none⟩ = some (.slice e1 L1.length c1) ∧ w'.cell? ⟨wr.heap.size, 4, none⟩ = some (.slice e2 L2.length c2) ∧ w'.cell? ⟨wr.heap.size, 5, none⟩ = some (.slice e3 L3.length c3)) (by kernel_rfl) ?_ (fun hHeld => ?_)
                    · (try dsimp only)
                      exact ⟨S3.drew.2.1 3, S3.drew.2.1 4, S3.drew.2.1 5⟩
                    refine tkY 0 ⟨some 88, .move (.tmp 5), 3, "sound.go:235", #[], none⟩ ?_ rfl ⟨by rfl, ?_⟩ ?_
                    rotate_left
                    · intro wz hSz; (try dsimp only at hSz); go_simp; all_goals (with_reducible rfl)
                    (try simp only [Act.put, List.setIfInBounds_toArray, List.set_cons_zero, List.set_cons_succ])
                    refine tkY 1 ⟨some 89, .fieldAddr 81 (.tmp 7) 3, 0, "sound.go:235", #[], none⟩ ?_ rfl ⟨by rfl, ?_⟩ ?_
                    rotate_left
                    · intro wz hSz; (try dsimp only at hSz); go_simp; all_goals (with_reducible rfl)
                    (try simp only [Act.put, List.setIfInBounds_toArray, List.set_cons_zero, List.set_cons_succ])
                    refine tkY 2 ⟨some 90, .load 78 (.tmp 89), 78, "sound.go:235", #[⟨1, .data⟩], none⟩ ?_ rfl ⟨by rfl, ?_⟩ ?_
                    rotate_left
                    · intro wz hSz; (try dsimp only at hSz); go_simp; all_goals (with_reducible rfl)
                    (try simp only [Act.put, List.setIfInBounds_toArray, List.set_cons_zero, List.set_cons_succ])
                    refine tkY 5 ⟨some 93, .fieldAddr 81 (.tmp 7) 4, 0, "sound.go:235", #[], none⟩ ?_ rfl ⟨by rfl, ?_⟩ ?_
                    rotate_left
                    · intro wz hSz; (try dsimp only at hSz); go_simp; all_goals (with_reducible rfl)
                    (try simp only [Act.put, List.setIfInBounds_toArray, List.set_cons_zero, List.set_cons_succ])
                    refine tkY 6 ⟨some 94, .load 78 (.tmp 93), 78, "sound.go:235", #[⟨5, .data⟩], none⟩ ?_ rfl ⟨by rfl, ?_⟩ ?_
                    rotate_left
                    · intro wz hSz; (try dsimp only at hSz); go_simp; all_goals (with_reducible rfl)
                    (try simp only [Act.put, List.setIfInBounds_toArray, List.set_cons_zero, List.set_cons_succ])
                    refine tkY 9 ⟨some 97, .fieldAddr 81 (.tmp 7) 5, 0, "sound.go:235", #[], none⟩ ?_ rfl ⟨by rfl, ?_⟩ ?_
                    rotate_left
                    · intro wz hSz; (try dsimp only at hSz); go_simp; all_goals (with_reducible rfl)
                    (try simp only [Act.put, List.setIfInBounds_toArray, List.set_cons_zero, List.set_cons_succ])
                    refine tkY 10 ⟨some 98, .load 78 (.tmp 97), 78, "sound.go:235", #[⟨9, .data⟩], none⟩ ?_ rfl ⟨by rfl, ?_⟩ ?_
                    rotate_left
                    · intro wz hSz; (try dsimp only at hSz); go_simp; all_goals (with_reducible rfl)
                    (try simp only [Act.put, List.setIfInBounds_toArray, List.set_cons_zero, List.set_cons_succ])
                    refine wpAnyH_ready (rs := [3]) (by kernel_rfl) (by simp) ?_
                    refine AllReadyH.cons (o := ⟨some 91, .call { callee := Callee.value (.func 72), args := #[.tmp 90], argTypes := #[78] }, 3, "sound.go:235", #[⟨2, .data⟩], none⟩) rfl (fun K hK => ?_) AllReadyH.nil
                    go_simp
                    go_at_call 72
                    refine Calls.mono k22a ?_
                    rintro e wx ⟨rfl, hwx⟩
                    have hwy := hwx.symm
                    clear hwx
                    subst hwy
                    go_wp2_with fail
                    refine hK.out _ _ ?_ (fun hHeld => ?_)
                    · (try dsimp only)
                      exact ⟨S3.drew.2.1 3, S3.drew.2.1 4, S3.drew.2.1 5⟩
                    clear hK K
                    (try simp only [Act.put, List.setIfInBounds_toArray, List.set_cons_zero, List.set_cons_succ])
                    refine tkY 4 ⟨some 92, .binOp BinOp.add 3 (.tmp 88) (.tmp 91) 3, 3, "sound.go:235", #[⟨0, .data⟩, ⟨3, .data⟩], none⟩ ?_ rfl ⟨by rfl, ?_⟩ ?_
                    rotate_left
                    · intro wz hSz; (try dsimp only at hSz); go_simp; all_goals (with_reducible rfl)
                    (try simp only [Act.put, List.setIfInBounds_toArray, List.set_cons_zero, List.set_cons_succ])
                    refine wpAnyH_ready (rs := [7]) (by kernel_rfl) (by simp) ?_
                    refine AllReadyH.cons (o := ⟨some 95, .call { callee := Callee.value (.func 72), args := #[.tmp 94], argTypes := #[78] }, 3, "sound.go:235", #[⟨6, .data⟩, ⟨3, .chain⟩], none⟩) rfl (fun K hK => ?_) AllReadyH.nil
                    go_simp
                    go_at_call 72
                    refine Calls.mono k22b ?_
                    rintro e wx ⟨rfl, hwx⟩
                    have hwy := hwx.symm
                    clear hwx
                    subst hwy
                    go_wp2_with fail
                    refine hK.out _ _ ?_ (fun hHeld => ?_)
                    · (try dsimp only)
                      exact ⟨S3.drew.2.1 3, S3.drew.2.1 4, S3.drew.2.1 5⟩
                    clear hK K
                    (try simp only [Act.put, List.setIfInBounds_toArray, List.set_cons_zero, List.set_cons_succ])
                    refine tkY 8 ⟨some 96, .binOp BinOp.add 3 (.tmp 92) (.tmp 95) 3, 3, "sound.go:235", #[⟨4, .data⟩, ⟨7, .data⟩], none⟩ ?_ rfl ⟨by rfl, ?_⟩ ?_
                    rotate_left
                    · intro wz hSz; (try dsimp only at hSz); go_simp; all_goals (with_reducible rfl)
                    (try simp only [Act.put, List.setIfInBounds_toArray, List.set_cons_zero, List.set_cons_succ])
                    refine wpAnyH_ready (rs := [11]) (by kernel_rfl) (by simp) ?_
                    refine AllReadyH.cons (o := ⟨some 99, .call { callee := Callee.value (.func 72), args := #[.tmp 98], argTypes := #[78] }, 3, "sound.go:235", #[⟨10, .data⟩, ⟨7, .chain⟩], none⟩) rfl (fun K hK => ?_) AllReadyH.nil
                    go_simp
                    go_at_call 72
                    refine Calls.mono k22c ?_
                    rintro e wx ⟨rfl, hwx⟩
                    have hwy := hwx.symm
                    clear hwx
                    subst hwy
                    go_wp2_with fail
                    refine hK.out _ _ ?_ (fun hHeld => ?_)
                    · (try dsimp only)
                      exact ⟨S3.drew.2.1 3, S3.drew.2.1 4, S3.drew.2.1 5⟩
                    clear hK K
                    (try simp only [Act.put, List.setIfInBounds_toArray, List.set_cons_zero, List.set_cons_succ])
                    refine tkY 12 ⟨some 100, .binOp BinOp.add 3 (.tmp 96) (.tmp 99) 3, 3, "sound.go:235", #[⟨8, .data⟩, ⟨11, .data⟩], none⟩ ?_ rfl ⟨by rfl, ?_⟩ ?_
                    rotate_left
                    · intro wz hSz; (try dsimp only at hSz); go_simp; all_goals (with_reducible rfl)
                    (try simp only [Act.put, List.setIfInBounds_toArray, List.set_cons_zero, List.set_cons_succ])
                    refine tkY 13 ⟨some 5, .assign (.tmp 100), 3, "sound.go:235", #[⟨12, .data⟩, ⟨11, .chain⟩, ⟨0, .phase⟩, ⟨1, .phase⟩, ⟨2, .phase⟩, ⟨3, .phase⟩, ⟨4, .phase⟩, ⟨5, .phase⟩, ⟨6, .phase⟩, ⟨7, .phase⟩, ⟨8, .phase⟩, ⟨9, .phase⟩, ⟨10, .phase⟩, ⟨11, .phase⟩, ⟨12, .phase⟩], none⟩ ?_ rfl ⟨by rfl, ?_⟩ ?_
                    rotate_left
                    · intro wz hSz; (try dsimp only at hSz); go_simp; all_goals (with_reducible rfl)
                    (try simp only [Act.put, List.setIfInBounds_toArray, List.set_cons_zero, List.set_cons_succ])
                    refine wpAnyH_done (by kernel_rfl) ?_ _
                    refine NoPanic.normal ?_
                    clear k22a k22b k22c q1 q2 q3 r1 r2 r3 v1 v2 v3 v4
                    obtain ⟨_, v1, v2⟩ := id K3d
                    obtain ⟨_, v3, v4⟩ := id S3d
                    go_wp2_with fail
                    go_loopw [5, 9] (fun x i wv => ∃ (m d : Nat), m ≤ L4.length ∧ d ≤ k * 20000000000000000 + 1600000000000000 + m * 256 ∧ x = .int .i64 (d : Int) ∧ i = .int .i64 (m : Int) ∧ Hid (((L4.drop m).all (nxZ ⟨G.length, D.length, TM.length, CT.length, VR.length⟩ SG.length k) && R) = A) ∧ Hid (d + nxN (L4.drop m) + RN = AN) ∧ Hid (Below W3.drew.heap.size W3.drew wv)) (fun _ i _ => L4.length - (intOf i).toNat)
                    case atStart => exact ⟨0, c + exN L1 + exN L2 + exN L3, by omega, by omega, by go_num, rfl, hq, (by show _ = _; rw [List.drop_zero]; omega), Below.refl _ _⟩
                    case round =>
                      clear hq v1 v2 v3 v4
                      obtain ⟨m, d, hml, hdl, rfl, rfl, hq', ht', hb'⟩ := hrel
                      have hq := hq'.out
                      have ht2 := ht'.out
                      have hb := hb'.out
                      clear hq' ht' hb'
                      have hbJ := bel_after hb3d hb3d.size hb
                      have Kj := K3d.below hb
                      have Sj := S3d.below hb
                      obtain ⟨_, v3, v4⟩ := id Sj
                      by_cases hmm : m < L4.length
                      case neg =>
                        have s3 : ¬ (m : Int) < (L4.length : Int) := by omega
                        rw [List.drop_eq_nil_of_le (by omega)] at hq
                        rw [nxN_end L4 m (by omega)] at ht2
                        have hq3 : R = A := hq
                        clear hq k23
                        go_wp2_with fail
                        go_roundw
                        case rel => exact ⟨k + 1, a + L1.length + L2.length + L3.length, b + L4.length, d, x1, by omega, by omega, by omega, by omega, by go_num, by go_num, rfl, by go_num, ⟨hx0, fun h => by omega, fun _ h => by simpa using hx1⟩, (by show _ = _; rw [hRS]; exact hq3), (by show _ = _; rw [hRM]; omega), (by show _ = _; rw [hRC]; omega), (by show _ = _; rw [hRN]; omega), ⟨hbJ, Kj⟩⟩
                        case measure => simp [intOf]; omega
                      case pos =>
                        obtain ⟨g2, o2, rfl, _, hg2, hx2⟩ := k4.resolve_left (by intro e; rw [e] at hmm; simp at hmm)
                        obtain ⟨cs2, _, ⟨v2, rfl, hv2⟩, h32⟩ := hx2 m hmm
                        have rw4 := r4 _ (List.getElem_mem hmm)
                        have hnd := hv2.nds.1
                        obtain ⟨fa, fc, rfl, lfl, -⟩ := Rows.any hv2
                        have p0 := (hbJ.cell (p := ⟨g2, _, none⟩) hg2).trans (h32 0 _ rfl)
                        have p1 := (hbJ.cell (p := ⟨g2, _, none⟩) hg2).trans (h32 1 _ rfl)
                        simp only [Nat.add_zero] at p0
                        have s3 : (m : Int) < (L4.length : Int) := by omega
                        have s2 : (0 : Int) ≤ (m : Int) := by omega
                        rw [all_dropZ _ L4 m hmm] at hq
                        rw [nxN_drop L4 m hmm] at ht2
                        unfold nxZ plB at hq
                        have hb6 := hb.alloc hb.size (.cells #[.int .i64 L4[m].dst, .slice fa L4[m].wh.length fc] 84)
                        have hbJ6 := hbJ.alloc hbJ.size (.cells #[.int .i64 L4[m].dst, .slice fa L4[m].wh.length fc] 84)
                        have Kj6 := Kj.alloc (.cells #[.int .i64 L4[m].dst, .slice fa L4[m].wh.length fc] 84)
                        have T6 : Has (wr.alloc (.cells #[.int .i64 L4[m].dst, .slice fa L4[m].wh.length fc] 84)) wr.heap.size #[.int .i64 L4[m].dst, .slice fa L4[m].wh.length fc] := Has.new _ _ _ rfl
                        have k23' := k23 L4[m].wh (.slice fa L4[m].wh.length fc) _ (hnd.below hbJ6) lfl rw4
                        have hfl := @sx_few ⟨G.length, D.length, TM.length, CT.length, VR.length⟩ L4[m].wh 2
                        clear h32 hv2 hx2 rw4 hnd k23
                        generalize sxB _ L4[m].wh 2 = SX at *
                        generalize L4[m].wh.length = fl at *
                        generalize L4[m].dst = w0 at *
                        obtain ⟨_, v1, v2⟩ := id Kj6
                        by_cases y1 : w0 < 0
                        case pos =>
                          have hq3 : A = false := by rw [← hq, decide_eq_false (by omega : ¬ 0 ≤ w0)]; rfl
                          subst hq3
                          clear hq k23'
                          go_wp2_with fail
                          go_ret
                          exact ⟨rfl, hbJ6⟩
                        rw [decide_eq_true (by omega : 0 ≤ w0), Bool.true_and] at hq
                        by_cases y2 : w0 < (SG.length : Int)
                        case neg =>
                          have y2' : (SG.length : Int) ≤ w0 := by omega
                          have hq3 : A = false := by rw [← hq, decide_eq_false y2]; rfl
                          subst hq3
                          clear hq k23'
                          go_wp2_with fail
                          go_ret
                          exact ⟨rfl, hbJ6⟩
                        rw [decide_eq_true y2, Bool.true_and] at hq
                        have y2' : ¬ (SG.length : Int) ≤ w0 := by omega
                        by_cases hE : w0 = (k : Int)
                        case pos =>
                          have hq3 : A = false := by rw [← hq, decide_eq_true hE]; rfl
                          subst hq3
                          clear hq k23'
                          subst hE
                          go_wp2_with fail
                          go_ret
                          exact ⟨rfl, hbJ6⟩
                        rw [decide_eq_false hE] at hq
                        cases SX with
                        | false =>
                          have hq3 : A = false := by rw [← hq]; rfl
                          subst hq3
                          clear hq
                          go_wp2_with fail
                          go_at_call 13
                          refine Calls.mono k23' ?_
                          rintro e wf ⟨rfl, hF⟩
                          have hbF := bel_after hbJ6 hbJ6.size hF
                          go_wp2_with fail
                          go_ret
                          exact ⟨rfl, hbF⟩
                        | true =>
                          have hq3 : Hid (((L4.drop (m + 1)).all (nxZ ⟨G.length, D.length, TM.length, CT.length, VR.length⟩ SG.length k) && R) = A) := hq
                          have hfl2 := hfl rfl
                          clear hq hfl
                          go_wp2_with fail
                          go_at_call 13
                          refine Calls.mono k23' ?_
                          rintro e wf ⟨rfl, hF⟩
                          have hbF := bel_after hb6 hb6.size hF
                          have T7 := T6.below hF
                          obtain ⟨_, v5, v6⟩ := id T7
                          go_wp2_with fail
                          go_roundw
                          case rel => exact ⟨m + 1, d + fl, by omega, by omega, by go_num, by go_num, hq3, (by show _ = _; omega), hbF⟩
                          case measure => simp [intOf]; omega
end Go.Proofs.YtnicolaphmffkaaGreatDoor
