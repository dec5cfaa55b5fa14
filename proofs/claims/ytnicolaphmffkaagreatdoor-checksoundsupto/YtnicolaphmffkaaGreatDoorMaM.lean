import Derived.Test.YtnicolaphmffkaaGreatDoorMaL
namespace Go.Proofs.YtnicolaphmffkaaGreatDoor
open Go.RowKit
set_option linter.unusedVariables false
set_option linter.unusedSimpArgs false

/-- What the reference's stages answers. -/
def stR (z : Sz) (SG : List Ts) : Bool := sgsZ z SG.length 0 (-1) SG && (decide (smN SG ≤ 4096) && (decide (cgN SG ≤ 4096) && decide (allN SG ≤ 16384)))
/-- The reference's order of the same. -/
theorem sdB_ref (G : List Gp) (C : List Cf) (D : List Dt) (TM CT : List ByteArray) (VR : List Vr) (SG : List Ts) (pn : ByteArray) (stt : Int) :
    sdB G C D TM CT VR SG pn stt = (gridB G C && (decide (D.length ≤ 64) && (decide (TM.length ≤ 64) && (decide (CT.length ≤ 64) && (decide (VR.length ≤ 64) && (inB (SG.length : Int) 1 256 && (decide (0 ≤ stt) && (decide (stt < (SG.length : Int)) && (D.all dtB && (ulF [] [pn] && (ulF [] (nmsL G D TM CT VR SG) && stR ⟨G.length, D.length, TM.length, CT.length, VR.length⟩ SG))))))))))) := by
  have e1 : ulF [] [pn] = nmB pn := by simp [ulF]
  unfold sdB ctB stR plB inB
  rw [e1]
  by_cases h0 : 0 ≤ stt ∧ stt < (SG.length : Int)
  · have h1 : (1 : Int) ≤ (SG.length : Int) := by omega
    have h2 : ((SG.length : Int) ≤ 256) ↔ SG.length ≤ 256 := by omega
    simp only [h0.1, h0.2, h1, h2, decide_true, Bool.true_and]
    cases gridB G C <;> cases decide (D.length ≤ 64) <;> cases decide (TM.length ≤ 64) <;> cases decide (CT.length ≤ 64) <;> cases decide (VR.length ≤ 64) <;> cases decide (SG.length ≤ 256) <;> simp
    cases decide (smN SG ≤ 4096) <;> cases decide (cgN SG ≤ 4096) <;> cases decide (allN SG ≤ 16384) <;> cases ulF [] (nmsL G D TM CT VR SG) <;> cases nmB pn <;> cases D.all dtB <;> simp
  · have : (decide (0 ≤ stt) && decide (stt < (SG.length : Int))) = false := by simp; omega
    rw [this]
    by_cases h1 : 0 ≤ stt
    · have h2 : ¬ stt < (SG.length : Int) := fun h => h0 ⟨h1, h⟩
      simp [h2]
    · simp [h1]
set_option maxRecDepth 100000 in
set_option maxHeartbeats 8000000 in
theorem refSound_of (G : List Gp) (C : List Cf) (D : List Dt) (TM CT : List ByteArray) (VR : List Vr) (SG : List Ts) (pn : ByteArray) (ga ca da ta ka va sa : Option Addr) (gc cc dc tc kc vc sc : Nat) (stt : Int) (w : World) (h : TPl w G C D TM CT VR SG pn ga ca da ta ka va sa gc cc dc tc kc vc sc stt) (tb : Tb w)
    (k13 : ∀ X : World, Below w.heap.size w X → G.length ≤ 64 → SG.length ≤ 256 → Calls Tryz.prog 39 #[(.agg #[.string pn, .slice ga G.length gc, .slice ca C.length cc, .slice da D.length dc, .slice ta TM.length tc, .slice ka CT.length kc, .slice va VR.length vc, .slice sa SG.length sc, .int .i64 stt])] X fun e w' => e = .returned (.bool (stR ⟨G.length, D.length, TM.length, CT.length, VR.length⟩ SG)) ∧ Below X.heap.size X w') :
    Calls Tryz.prog 11 #[(.agg #[.string pn, .slice ga G.length gc, .slice ca C.length cc, .slice da D.length dc, .slice ta TM.length tc, .slice ka CT.length kc, .slice va VR.length vc, .slice sa SG.length sc, .int .i64 stt])] w fun e w' => e = .returned (.bool (sdB G C D TM CT VR SG pn stt)) ∧ Below w.heap.size w w' := by
  have hb0 : Below w.heap.size w (w.alloc (.cells #[.string pn, .slice ga G.length gc, .slice ca C.length cc, .slice da D.length dc, .slice ta TM.length tc, .slice ka CT.length kc, .slice va VR.length vc, .slice sa SG.length sc, .int .i64 stt] 31)) := bel1 _
  have K0 : Has (w.alloc (.cells #[.string pn, .slice ga G.length gc, .slice ca C.length cc, .slice da D.length dc, .slice ta TM.length tc, .slice ka CT.length kc, .slice va VR.length vc, .slice sa SG.length sc, .int .i64 stt] 31)) w.heap.size #[.string pn, .slice ga G.length gc, .slice ca C.length cc, .slice da D.length dc, .slice ta TM.length tc, .slice ka CT.length kc, .slice va VR.length vc, .slice sa SG.length sc, .int .i64 stt] := Has.new _ _ _ rfl
  have k9 := refGrid_any G C _ _ (w.alloc (.cells #[.string pn, .slice ga G.length gc, .slice ca C.length cc, .slice da D.length dc, .slice ta TM.length tc, .slice ka CT.length kc, .slice va VR.length vc, .slice sa SG.length sc, .int .i64 stt] 31)) (h.hG.below hb0) (h.hF.below hb0) h.lG h.lF
  have k10 := fun (n lo hi : Int) (X : World) => within_any n lo hi X
  have k12 := fun (X : World) (hX : Below w.heap.size w X) (q : G.length ≤ 64) (q1 : D.length ≤ 64) (q2 : TM.length ≤ 64) (q3 : CT.length ≤ 64) (q4 : VR.length ≤ 64) (q5 : SG.length ≤ 256) => things_any G D TM CT VR SG pn ga ca da ta ka va sa gc C.length cc dc tc kc vc sc stt X (h.hG.below hX) (h.hD.below hX) (h.hT.below hX) (h.hC.below hX) (h.hV.below hX) (Tss.below h.hS hX) q q1 q2 q3 q4 q5
  have lNL : (G.length ≤ 64) → (D.length ≤ 64) → (TM.length ≤ 64) → (CT.length ≤ 64) → (VR.length ≤ 64) → (SG.length ≤ 256) → (nmsL G D TM CT VR SG).length ≤ 576 := by intros; unfold nmsL; simp; omega
  have hmm := h.hm
  have hpp := h.hp
  have lD := h.lD
  have lT := h.lT
  have lC := h.lC
  have lV := h.lV
  have lS := h.lS
  obtain ⟨_, _, e1, kD⟩ := h.hD.any
  injection e1 with e1 _ e2
  subst e1
  subst e2
  rw [sdB_ref]
  have fG := @grid_few G C
  clear h
  generalize stR _ SG = B6 at *
  generalize nmsL G D TM CT VR SG = NL at *
  generalize gridB G C = B1 at *
  have hA0 : ((D.drop 0).all dtB && (ulF [] [pn] && (ulF [] NL && B6))) = (D.all dtB && (ulF [] [pn] && (ulF [] NL && B6))) := rfl
  generalize (D.all dtB && (ulF [] [pn] && (ulF [] NL && B6))) = A at *
  generalize hT' : (B1 && (decide (D.length ≤ 64) && (decide (TM.length ≤ 64) && (decide (CT.length ≤ 64) && (decide (VR.length ≤ 64) && (inB (SG.length : Int) 1 256 && (decide (0 ≤ stt) && (decide (stt < (SG.length : Int)) && A)))))))) = R0
  have hT : Hid ((B1 && (decide (D.length ≤ 64) && (decide (TM.length ≤ 64) && (decide (CT.length ≤ 64) && (decide (VR.length ≤ 64) && (inB (SG.length : Int) 1 256 && (decide (0 ≤ stt) && (decide (stt < (SG.length : Int)) && A)))))))) = R0) := hT'
  clear hT'
  go_enter Tryz.func11, Tryz.ntmps11
  go_wp2_with fail
  go_at_call 9
  refine Calls.mono k9 ?_
  rintro e w1 ⟨rfl, h1⟩
  have hb1 := bel_after hb0 hb0.size h1
  have K1 := K0.below h1
  clear k9 hb0 K0 h1
  obtain ⟨_, v1, v2⟩ := id K1
  cases B1 with
  | false =>
    clear k10 k12 k13
    go_wp2_with fail
    go_ret
    exact ⟨by rw [← hT.out]; rfl, hb1⟩
  | true =>
  have gG := fG rfl
  clear fG
  by_cases h1 : D.length ≤ 64
  case neg =>
    have s1 : (64 : Int) < (D.length : Int) := by omega
    clear k10 k12 k13
    go_wp2_with fail
    go_ret
    exact ⟨by rw [← hT.out]; simp [h1], hb1⟩
  have s1 : ¬ (64 : Int) < (D.length : Int) := by omega
  by_cases h2 : TM.length ≤ 64
  case neg =>
    have s2 : (64 : Int) < (TM.length : Int) := by omega
    clear k10 k12 k13
    go_wp2_with fail
    go_ret
    exact ⟨by rw [← hT.out]; simp [h1, h2], hb1⟩
  have s2 : ¬ (64 : Int) < (TM.length : Int) := by omega
  by_cases h3 : CT.length ≤ 64
  case neg =>
    have s3 : (64 : Int) < (CT.length : Int) := by omega
    clear k10 k12 k13
    go_wp2_with fail
    go_ret
    exact ⟨by rw [← hT.out]; simp [h1, h2, h3], hb1⟩
  have s3 : ¬ (64 : Int) < (CT.length : Int) := by omega
  by_cases h4 : VR.length ≤ 64
  case neg =>
    have s4 : (64 : Int) < (VR.length : Int) := by omega
    clear k10 k12 k13
    go_wp2_with fail
    go_ret
    exact ⟨by rw [← hT.out]; simp [h1, h2, h3, h4], hb1⟩
  have s4 : ¬ (64 : Int) < (VR.length : Int) := by omega
  have hT2 : Hid ((inB (SG.length : Int) 1 256 && (decide (0 ≤ stt) && (decide (stt < (SG.length : Int)) && A))) = R0) := by
    show _ = _
    rw [← hT.out]; simp [h1, h2, h3, h4]
  clear hT
  cases hI : inB (SG.length : Int) 1 256 with
  | false =>
    have k10' := fun X => k10 (SG.length : Int) 1 256 X
    rw [hI] at k10'
    clear k10 k12 k13
    go_wp2_with (go_at_call 31; (with_reducible refine Calls.mono (k10' _) ?_); rintro e wx ⟨rfl, hwx⟩; have hwy := hwx.symm; clear hwx; subst hwy)
    go_ret
    exact ⟨by rw [← hT2.out, hI]; rfl, hb1⟩
  | true =>
  have f5 : SG.length ≤ 256 := by unfold inB at hI; simp at hI; omega
  have k10' := fun X => k10 (SG.length : Int) 1 256 X
  rw [hI] at k10'
  by_cases z1 : 0 ≤ stt
  case neg =>
    have t1 : stt < 0 := by omega
    clear k10 k12 k13
    go_wp2_with (go_at_call 31; (with_reducible refine Calls.mono (k10' _) ?_); rintro e wx ⟨rfl, hwx⟩; have hwy := hwx.symm; clear hwx; subst hwy)
    go_ret
    exact ⟨by rw [← hT2.out, show decide (0 ≤ stt) = false from decide_eq_false (by omega), Bool.false_and, Bool.and_false]; rfl, hb1⟩
  have t1 : ¬ stt < 0 := by omega
  by_cases z2 : stt < (SG.length : Int)
  case neg =>
    have t2 : (SG.length : Int) ≤ stt := by omega
    clear k10 k12 k13
    go_wp2_with (go_at_call 31; (with_reducible refine Calls.mono (k10' _) ?_); rintro e wx ⟨rfl, hwx⟩; have hwy := hwx.symm; clear hwx; subst hwy)
    go_ret
    exact ⟨by rw [← hT2.out, show decide (stt < (SG.length : Int)) = false from decide_eq_false (by omega), Bool.false_and, Bool.and_false, Bool.and_false]; rfl, hb1⟩
  have t2 : ¬ (SG.length : Int) ≤ stt := by omega
  obtain rfl : A = R0 := by rw [← hT2.out, hI]; simp [z1, z2]
  clear hT2
  go_wp2_with (go_at_call 31; (with_reducible refine Calls.mono (k10' _) ?_); rintro e wx ⟨rfl, hwx⟩; have hwy := hwx.symm; clear hwx; subst hwy)
  clear k10' hI
  go_loopw [3] (fun i wr => ∃ k : Nat, k ≤ D.length ∧ i = .int .i64 (k : Int) ∧ Hid (((D.drop k).all dtB && (ulF [] [pn] && (ulF [] NL && B6))) = A) ∧ wr = w1) (fun i _ => D.length - (intOf i).toNat)
  case atStart => exact ⟨0, by omega, rfl, hA0, (by first | rfl | trivial)⟩
  case round =>
    clear hA0
    obtain ⟨k, hkl, rfl, hq', rfl⟩ := hrel
    have hq := hq'.out
    clear hq'
    by_cases hlt : k < D.length
    case neg =>
      have t3 : ¬ (k : Int) < (D.length : Int) := by omega
      rw [List.drop_eq_nil_of_le (by omega)] at hq
      have hq2 : (ulF [] [pn] && (ulF [] NL && B6)) = A := hq
      clear hq kD k10
      subst hq2
      have hbN := hb1.alloc hb1.size (.cells #[.string pn] 9)
      have kU := unlike_any [pn] (some ⟨wr.heap.size, 0, none⟩) 1 (wr.alloc (.cells #[.string pn] 9)) (.inr ⟨wr.heap.size, 0, rfl, by simp, fun i hi => by
        obtain rfl : i = 0 := by simp at hi; omega
        exact (Has.new wr (.string pn :: []).toArray 9 rfl).2.1 0⟩) (by simp) (fun s hs => by rw [List.mem_singleton.1 hs]; exact hpp) (tb.below hbN)
      have kT := fun (X : World) (hX : Below w.heap.size w X) => k12 X hX gG h1 h2 h3 h4 f5
      have kM := fun (X : World) (hX : Below w.heap.size w X) => k13 X hX gG f5
      have lN := lNL gG h1 h2 h3 h4 f5
      clear k12 k13 lNL
      have K2 := K1.alloc (.cells #[.string pn] 9)
      go_wp2_with fail
      go_at_call 37
      refine Calls.mono kU ?_
      rintro e w2 ⟨rfl, h2'⟩
      have hb2 := bel_after hbN hbN.size h2'
      have K3 := K2.below h2'
      clear kU K1 K2 v1 v2 h2' hbN
      generalize hU1 : ulF [] [pn] = U1 at *
      cases U1 with
      | false =>
        go_wp2_with fail
        go_ret
        exact ⟨by rw [hU1]; rfl, hb2⟩
      | true =>
      obtain ⟨_, v1, v2⟩ := id K3
      have kT := kT _ hb2
      go_wp2_with fail
      go_at_call 38
      refine Calls.mono kT ?_
      rintro e w3 ⟨⟨xa, xc, rfl, oR⟩, h3'⟩
      have hb4 := bel_after hb2 hb2.size h3'
      have K4 := K3.below h3'
      have kU := unlike_any NL xa xc w3 (by
        rcases own_tx oR with e | ⟨g, e, _, hg, hx⟩
        · exact .inl e
        · exact .inr ⟨g, 0, e, hg, fun i hi => by rw [Nat.zero_add]; exact hx i hi⟩) (by omega) hmm (tb.below hb4)
      clear kT K3 v1 v2 h3' hb2 oR
      generalize hU2 : ulF [] NL = U2 at *
      go_wp2_with fail
      go_at_call 37
      refine Calls.mono kU ?_
      rintro e w4 ⟨rfl, h4'⟩
      have hb5 := bel_after hb4 hb4.size h4'
      have K5 := K4.below h4'
      clear kU K4 hb4 h4'
      cases U2 with
      | false =>
        go_wp2_with fail
        go_ret
        exact ⟨by rw [hU1, hU2]; rfl, hb5⟩
      | true =>
      obtain ⟨_, v1, v2⟩ := id K5
      have kM := kM _ hb5
      go_wp2_with fail
      go_at_call 39
      refine Calls.mono kM ?_
      rintro e w5 ⟨rfl, h5'⟩
      have hb6 := bel_after hb5 hb5.size h5'
      go_wp2_with fail
      go_ret
      exact ⟨by rw [hU1, hU2]; rfl, hb6⟩
    case pos =>
      obtain ⟨g, o, rfl, hg, hx⟩ := kD.resolve_left (by intro e; rw [e] at hlt; simp at hlt)
      have hx := hx k hlt
      rw [all_dropZ _ D k hlt] at hq
      unfold dtB timeB at hq
      have p2 := (hb1.cell (p := ⟨g, _, none⟩) hg).trans (hx 2 _ rfl)
      have p3 := (hb1.cell (p := ⟨g, _, none⟩) hg).trans (hx 3 _ rfl)
      have t3 : (k : Int) < (D.length : Int) := by omega
      have t4 : (0 : Int) ≤ (k : Int) := by omega
      have ka := fun X => k10 D[k].delay 0 3600 X
      have kb := fun X => k10 D[k].hold 0 3600 X
      unfold inB at ka kb
      clear hx kD k12 k13 k10
      generalize (decide (0 ≤ D[k].delay) && decide (D[k].delay ≤ 3600)) = BA at *
      generalize (decide (0 ≤ D[k].hold) && decide (D[k].hold ≤ 3600)) = BB at *
      generalize D[k].delay = x2 at *
      generalize D[k].hold = x3 at *
      cases BA with
      | false =>
        have hq3 : A = false := by rw [← hq]; rfl
        subst hq3
        clear hq kb
        go_wp2_with (go_at_call 31; (with_reducible refine Calls.mono (ka _) ?_); rintro e wx ⟨rfl, hwx⟩; have hwy := hwx.symm; clear hwx; subst hwy)
        go_ret
        exact ⟨rfl, hb1⟩
      | true =>
      cases BB with
      | false =>
        have hq3 : A = false := by rw [← hq]; rfl
        subst hq3
        clear hq
        go_wp2_with fail
        go_at_call 31
        refine Calls.mono (ka _) ?_
        rintro e wx ⟨rfl, rfl⟩
        go_wp2_with fail
        go_at_call 31
        refine Calls.mono (kb _) ?_
        rintro e wx ⟨rfl, rfl⟩
        go_wp2_with fail
        go_ret
        exact ⟨rfl, hb1⟩
      | true =>
        have hq3 : Hid (((D.drop (k + 1)).all dtB && (ulF [] [pn] && (ulF [] NL && B6))) = A) := hq
        clear hq
        go_wp2_with fail
        go_at_call 31
        refine Calls.mono (ka _) ?_
        rintro e wx ⟨rfl, rfl⟩
        go_wp2_with fail
        go_at_call 31
        refine Calls.mono (kb _) ?_
        rintro e wx ⟨rfl, rfl⟩
        go_wp2_with fail
        go_roundw
        case rel => exact ⟨k + 1, by omega, by go_num, hq3, (by first | rfl | trivial)⟩
        case measure => simp [intOf]; omega
end Go.Proofs.YtnicolaphmffkaaGreatDoor
namespace Go.Proofs.YtnicolaphmffkaaGreatDoor
open Go.RowKit
set_option linter.unusedVariables false
set_option linter.unusedSimpArgs false

/-- A stage's number and its greens, as the reference looks at them. -/
theorem sg1_ref (z : Sz) (last id gr : Int) (hl : -1 ≤ last) (h0 : 0 ≤ gr) (h1 : gr < 18446744073709551616) (hg : z.g ≤ 64) :
    sg1 z last id gr = (inB id 0 255 && (decide (last < id) && (!(decide (z.g < 64)) || decide (gr / 2 ^ z.g = 0)))) := by
  unfold sg1 inB
  have e1 : (decide (z.g < 64) = false) → gr / 2 ^ z.g = 0 := by
    intro h
    have : z.g = 64 := by simp at h; omega
    rw [this]
    exact Int.ediv_eq_zero_of_lt h0 (by simpa using h1)
  by_cases a : last < id
  · have b : 0 ≤ id := by omega
    have c : (id < 256) ↔ (id ≤ 255) := by omega
    simp only [a, b, c, decide_true, Bool.true_and]
    cases hd : decide (z.g < 64) with
    | true => simp
    | false => simp [e1 hd]
  · simp [a]
theorem sm_few {z : Sz} {s : St} (h : smB z s = true) : s.expr.length ≤ 256 := by
  unfold smB smV at h
  have h := (Bool.and_eq_true_iff.1 (Bool.and_eq_true_iff.1 h).2).2
  split at h
  · have := of_decide_eq_true h; omega
  · unfold sxB trB at h
    exact of_decide_eq_true (Bool.and_eq_true_iff.1 (Bool.and_eq_true_iff.1 h).1).1
theorem br_few {z : Sz} (L : List St) : ∀ bs, brZ z bs L = true → ∀ s ∈ L, s.expr.length ≤ 256 := by
  induction L with
  | nil => intro bs _ s hs; cases hs
  | cons x L ih =>
    intro bs h s hs
    unfold brZ at h
    have h := Bool.and_eq_true_iff.1 h
    rcases List.mem_cons.1 hs with rfl | hs
    · exact sm_few h.1
    · have h2 := h.2
      repeat' split at h2
      all_goals (try simp only [Bool.and_eq_true] at h2)
      · exact ih _ h2.2 s hs
      · exact ih _ h2.2.2 s hs
      · exact ih _ h2.2 s hs
      · exact ih _ h2 s hs
theorem ex_few (L : List St) (h : ∀ s ∈ L, s.expr.length ≤ 256) : exN L ≤ L.length * 256 := by
  induction L with
  | nil => simp [exN]
  | cons x L ih => have := h x (by simp); have := ih (fun y hy => h y (by simp [hy])); unfold exN; rw [List.length_cons]; omega
theorem br_exN {z : Sz} {L : List St} (h : brZ z [] L = true) : exN L ≤ L.length * 256 := by
  exact ex_few L (br_few L [] h)
end Go.Proofs.YtnicolaphmffkaaGreatDoor
