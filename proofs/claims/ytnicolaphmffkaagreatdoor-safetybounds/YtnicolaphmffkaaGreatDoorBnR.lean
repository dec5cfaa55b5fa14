import Derived.Test.YtnicolaphmffkaaGreatDoorTkk
import Derived.Test.YtnicolaphmffkaaGreatDoorBnS
import Derived.Test.YtnicolaphmffkaaGreatDoorMaH
namespace Go.Proofs.YtnicolaphmffkaaGreatDoor
set_option linter.unusedSimpArgs false
open Go.RowKit
set_option linter.unusedVariables false

/-- What the reference's Bound answers. -/
def BrP (ok : Bool) (G : List Gp) (C : List Cf) (SG : List Ts) (stt : Int) (w : World) (e : Ending) (w' : World) : Prop :=
 if ok then ∃ S : List Bool, (∀ S', RI (waysL SG).length stt.toNat (goN (waysL SG)) S' [] → S' = S) ∧ e = .returned (.tuple #[.int .i64 (bnF (ckL G.length C SG) (lpA G C SG) (mvsL S SG stt) 0).1, .int .i64 (bnF (ckL G.length C SG) (lpA G C SG) (mvsL S SG stt) 0).2]) ∧ Below w.heap.size w w'
 else e = .returned (.tuple #[.int .i64 0, .int .i64 80]) ∧ Below w.heap.size w w'
def vF (G : List Gp) (C : List Cf) (SG : List Ts) (x : Int) (t : Nat) : Int × Int := if ckM (ckL G.length C SG) x t = true then (0, 60) else (lpA G C SG x (t : Int), 0)
theorem bnF_cons (Q : List Bool) (lp : Int → Int → Int) (x y : Int) (L : List (Int × Int)) (b : Int) : bnF Q lp ((x, y) :: L) b = if ckM Q x y.toNat = true then (0, 60) else bnF Q lp L (max b (lp x y)) := rfl
set_option maxRecDepth 100000 in
set_option maxHeartbeats 8000000 in
theorem refBound_any (G : List Gp) (C : List Cf) (D : List Dt) (TM CT : List ByteArray) (VR : List Vr) (SG : List Ts) (pn : ByteArray) (ga ca da ta ka va sa : Option Addr) (gc cc dc tc kc vc sc : Nat) (stt : Int) (w : World) (hG : Fl 5 Gp.cs w (.slice ga G.length gc) G) (hF : Fl 4 Cf.cs w (.slice ca C.length cc) C) (hSS : Tss (fun _ => True) w (.slice sa SG.length sc) SG) (lG : G.length ≤ 2932031007317) (lC : C.length ≤ 4398046511000) (ok : ∀ (i : Nat) (h : i < C.length), C[i].ok) (hgr : ∀ s ∈ SG, 0 ≤ s.green ∧ s.green < 18446744073709551616)
  (k11 : ∀ X : World, Below w.heap.size w X → Calls Tryz.prog 11 #[(.agg #[.string pn, .slice ga G.length gc, .slice ca C.length cc, .slice da D.length dc, .slice ta TM.length tc, .slice ka CT.length kc, .slice va VR.length vc, .slice sa SG.length sc, .int .i64 stt])] X fun e w' => e = .returned (.bool (sdB G C D TM CT VR SG pn stt)) ∧ Below X.heap.size X w') :
  Calls Tryz.prog 23 #[(.agg #[.string pn, .slice ga G.length gc, .slice ca C.length cc, .slice da D.length dc, .slice ta TM.length tc, .slice ka CT.length kc, .slice va VR.length vc, .slice sa SG.length sc, .int .i64 stt])] w fun e w' => BrP (sdB G C D TM CT VR SG pn stt) G C SG stt w e w' := by
 have hb0 : Below w.heap.size w (w.alloc (.cells #[.string pn, .slice ga G.length gc, .slice ca C.length cc, .slice da D.length dc, .slice ta TM.length tc, .slice ka CT.length kc, .slice va VR.length vc, .slice sa SG.length sc, .int .i64 stt] 31)) := bel1 _
 have K0 : Has (w.alloc (.cells #[.string pn, .slice ga G.length gc, .slice ca C.length cc, .slice da D.length dc, .slice ta TM.length tc, .slice ka CT.length kc, .slice va VR.length vc, .slice sa SG.length sc, .int .i64 stt] 31)) w.heap.size #[.string pn, .slice ga G.length gc, .slice ca C.length cc, .slice da D.length dc, .slice ta TM.length tc, .slice ka CT.length kc, .slice va VR.length vc, .slice sa SG.length sc, .int .i64 stt] := Has.new _ _ _ rfl
 have k7 := k11 _ hb0
 have hw2 := @sd_ways G C D TM CT VR SG pn stt
 have hw3 := @sd_more G C D TM CT VR SG pn stt
 clear k11
 generalize sdB G C D TM CT VR SG pn stt = B at *
 obtain ⟨_, v1, v2⟩ := id K0
 go_enter Tryz.func23, Tryz.ntmps23
 go_wp2_with fail
 go_at_call 11
 refine Calls.mono k7 ?_
 rintro e w1 ⟨rfl, h1⟩
 have hb1 := bel_after hb0 hb0.size h1
 have K1 := K0.below h1
 clear v1 v2 k7
 obtain ⟨_, v1, v2⟩ := id K1
 cases B with
 | false =>
   clear hw2 hw3 hSS
   go_wp2_with fail
   go_ret2
   exact ⟨rfl, hb1⟩
 | true =>
   obtain ⟨l1, l2, l3, l4⟩ := hw2 rfl
   obtain ⟨gr, lcg⟩ := hw3 rfl
   obtain ⟨st, rfl⟩ : ∃ st : Nat, stt = (st : Int) := ⟨stt.toNat, by omega⟩
   have hst : st < SG.length := by omega
   have k8 := refReached_any G C D TM CT VR SG pn ga ca da ta ka va sa gc cc dc tc kc vc sc st w1 (Tss.below hSS hb1) l1 l2 hst
   go_wp2_with fail
   go_at_call 53
   refine Calls.mono k8 ?_
   rintro e w2 ⟨g0, S, rfl, hO, hR, h2⟩
   have hb2 := bel_after hb1 hb1.size h2
   have K2 := K1.below h2
   have hSl : S.length = SG.length := by have := hO.1; simpa [vB] using this
   have hBS : BlR w2 g0 SG.length S := BlR.own hO hSl
   have hgl := gOf_lt hgr
   clear v1 v2 k8 K0 K1 hb0 h1 hO hw2 hw3
   obtain ⟨_, _, e1, _, kS⟩ := Rows.any hSS
   injection e1 with e1 _ e2
   subst e1
   subst e2
   obtain ⟨g, o, rfl, _, hg, hx⟩ := kS.resolve_left (by intro e; rw [e] at hst; simp at hst)
   clear kS hSS
   have hgn : ∀ (X : World) (hX : Below w.heap.size w X) (k : Nat) (hk : k < SG.length), X.cell? ⟨g, o + k * 7 + 2, none⟩ = some (.int .u64 ((gOf SG (k : Int) : Nat) : Int)) := fun X hX k hk => by
    obtain ⟨cs, _, ⟨ve, vd, vl, vn, rfl, q1, q2, q3, q4⟩, P2⟩ := hx k hk
    rw [← gOf_nat SG k hk (hgr _ (List.getElem_mem hk)).1]
    exact (hX.cell (p := ⟨g, _, none⟩) hg).trans (P2 2 _ rfl)
   have k58 : ∀ (x : Int) (t : Nat) (hx : x = -1 ∨ ∃ k : Nat, x = (k : Int) ∧ k < SG.length) (ht : t < SG.length) (X : World) (hX : Below w.heap.size w X), Calls Tryz.prog 58 #[.agg #[.slice ga G.length gc, .slice ca C.length cc], .int .u64 ((gOf SG x : Nat) : Int), .int .u64 ((gOf SG (t : Int) : Nat) : Int)] X fun e w' => e = .returned (.tuple #[.int .i64 (vF G C SG x t).1, .int .i64 (vF G C SG x t).2]) ∧ Below X.heap.size X w' := fun x t hx ht X hX => by
    have := refLongest_any G C (.slice ga G.length gc) (.slice ca C.length cc) (gOf SG x) (gOf SG (t : Int)) X (hgl _) (hgl _) (hG.below hX) (hF.below hX) lG lC ok
    rw [span_eq gr hx ht] at this
    exact this
   have k58z : ∀ (X : World) (hX : Below w.heap.size w X), Calls Tryz.prog 58 #[.agg #[.slice ga G.length gc, .slice ca C.length cc], .int .u64 0, .int .u64 ((gOf SG (st : Int) : Nat) : Int)] X fun e w' => e = .returned (.tuple #[.int .i64 (vF G C SG (-1) st).1, .int .i64 (vF G C SG (-1) st).2]) ∧ Below X.heap.size X w' := fun X hX => k58 (-1) st (.inl rfl) hst X hX
   have hbn0 : Below w.heap.size w w2.drew := hb2.drew
   have y5 := hgn w2 hb2 st hst
   have hl0 := lp_pos (C := C) (SG := SG) gr (-1) (st : Int)
   obtain ⟨_, b1, b2⟩ := id K2
   have hZ0 : bnF (ckL G.length C SG) (lpA G C SG) (mvsL S SG (st : Int)) 0 = if ckM (ckL G.length C SG) (-1) st = true then (0, 60) else bnF (ckL G.length C SG) (lpA G C SG) (mvsF S 0 SG) (lpA G C SG (-1) (st : Int)) := by
    unfold mvsL
    rw [bnF_cons, Int.toNat_natCast, show max 0 (lpA G C SG (-1) (st : Int)) = lpA G C SG (-1) (st : Int) from by omega]
   unfold vF at k58z
   generalize hck : ckM (ckL G.length C SG) (-1) st = c0 at *
   generalize hv0 : (if c0 = true then ((0 : Int), (60 : Int)) else (lpA G C SG (-1) (st : Int), 0)) = vv at k58z
   obtain ⟨n0, e0⟩ := vv
   dsimp only at k58z
   clear hG hF hgr hgl
   go_wp2_with fail
   refine wp_region_noPanic ?_
   refine wp_region_held_drew (S := fun w' => w'.cell? ⟨w.heap.size, 1, none⟩ = some (.slice ga G.length gc) ∧ w'.cell? ⟨w.heap.size, 2, none⟩ = some (.slice ca C.length cc) ∧ w'.cell? ⟨w.heap.size, 7, none⟩ = some (.slice (some ⟨g, o, none⟩) SG.length sc) ∧ w'.cell? ⟨w.heap.size, 8, none⟩ = some (.int .i64 (st : Int)) ∧ w'.cell? ⟨g, o + st * 7 + 2, none⟩ = some (.int .u64 ((gOf SG (st : Int) : Nat) : Int))) (by kernel_rfl) ?_ (fun hHeld => ?_)
   ·(try dsimp only)
    exact ⟨b1 1, b1 2, b1 7, b1 8, y5⟩
   refine tkY 0 ⟨some 19, .fieldAddr 31 (.tmp 1) 1, 0, "safety.go:266", #[], none⟩ ?_ rfl ⟨by rfl, ?_⟩ ?_
   rotate_left
   ·intro wz hSz; (try dsimp only at hSz); go_simp; all_goals (with_reducible rfl)
   (try simp only [Act.put, List.setIfInBounds_toArray, List.set_cons_zero, List.set_cons_succ])
   refine tkY 1 ⟨some 20, .load 25 (.tmp 19), 25, "safety.go:266", #[⟨0, .data⟩], none⟩ ?_ rfl ⟨by rfl, ?_⟩ ?_
   rotate_left
   ·intro wz hSz; (try dsimp only at hSz); go_simp; all_goals (with_reducible rfl)
   (try simp only [Act.put, List.setIfInBounds_toArray, List.set_cons_zero, List.set_cons_succ])
   refine tkY 2 ⟨some 21, .fieldAddr 31 (.tmp 1) 6, 0, "safety.go:266", #[], none⟩ ?_ rfl ⟨by rfl, ?_⟩ ?_
   rotate_left
   ·intro wz hSz; (try dsimp only at hSz); go_simp; all_goals (with_reducible rfl)
   (try simp only [Act.put, List.setIfInBounds_toArray, List.set_cons_zero, List.set_cons_succ])
   refine tkY 3 ⟨some 22, .load 29 (.tmp 21), 29, "safety.go:266", #[⟨2, .data⟩], none⟩ ?_ rfl ⟨by rfl, ?_⟩ ?_
   rotate_left
   ·intro wz hSz; (try dsimp only at hSz); go_simp; all_goals (with_reducible rfl)
   (try simp only [Act.put, List.setIfInBounds_toArray, List.set_cons_zero, List.set_cons_succ])
   refine tkY 4 ⟨some 23, .fieldAddr 31 (.tmp 1) 7, 0, "safety.go:266", #[], none⟩ ?_ rfl ⟨by rfl, ?_⟩ ?_
   rotate_left
   ·intro wz hSz; (try dsimp only at hSz); go_simp; all_goals (with_reducible rfl)
   (try simp only [Act.put, List.setIfInBounds_toArray, List.set_cons_zero, List.set_cons_succ])
   refine tkY 5 ⟨some 24, .load 3 (.tmp 23), 3, "safety.go:266", #[⟨4, .data⟩], none⟩ ?_ rfl ⟨by rfl, ?_⟩ ?_
   rotate_left
   ·intro wz hSz; (try dsimp only at hSz); go_simp; all_goals (with_reducible rfl)
   (try simp only [Act.put, List.setIfInBounds_toArray, List.set_cons_zero, List.set_cons_succ])
   refine tkY 6 ⟨some 25, .indexAddr 29 (.tmp 22) (.tmp 24), 0, "safety.go:266", #[⟨3, .data⟩, ⟨5, .data⟩], none⟩ ?_ rfl ⟨by rfl, ?_⟩ ?_
   rotate_left
   ·intro wz hSz; (try dsimp only at hSz); go_simp; all_goals (with_reducible rfl)
   (try simp only [Act.put, List.setIfInBounds_toArray, List.set_cons_zero, List.set_cons_succ])
   refine tkY 7 ⟨some 26, .fieldAddr 81 (.tmp 25) 2, 0, "safety.go:266", #[⟨6, .data⟩], none⟩ ?_ rfl ⟨by rfl, ?_⟩ ?_
   rotate_left
   ·intro wz hSz; (try dsimp only at hSz); go_simp; all_goals (with_reducible rfl)
   (try simp only [Act.put, List.setIfInBounds_toArray, List.set_cons_zero, List.set_cons_succ])
   refine tkY 8 ⟨some 27, .load 77 (.tmp 26), 77, "safety.go:266", #[⟨7, .data⟩], none⟩ ?_ rfl ⟨by rfl, ?_⟩ ?_
   rotate_left
   ·intro wz hSz; (try dsimp only at hSz); go_simp; all_goals (with_reducible rfl)
   (try simp only [Act.put, List.setIfInBounds_toArray, List.set_cons_zero, List.set_cons_succ])
   refine wpAnyH_ready (rs := [9]) (by kernel_rfl) (by simp) ?_
   refine AllReadyH.cons (o := ⟨some 28, .call { callee := Callee.value (.func 58), args := #[.tmp 20, .const (Value.int IntKind.u64 0), .tmp 27], argTypes := #[25, 77, 77] }, 70, "safety.go:266", #[⟨1, .data⟩, ⟨8, .data⟩], none⟩) rfl (fun K hK => ?_) AllReadyH.nil
   go_simp
   go_at_call 58
   (with_reducible refine Calls.mono (k58z _ (by exact hbn0)) ?_)
   rintro e wn ⟨rfl, hbn⟩
   go_wp2_with fail
   refine hK.out _ _ ?_ (fun hHeld => ?_)
   ·(try dsimp only)
    obtain ⟨h0, h1, h2, h3, h4⟩ := hHeld; exact ⟨(hbn.cell (p := ⟨w.heap.size, _, none⟩) (cell_ltF h0)).trans h0, (hbn.cell (p := ⟨w.heap.size, _, none⟩) (cell_ltF h1)).trans h1, (hbn.cell (p := ⟨w.heap.size, _, none⟩) (cell_ltF h2)).trans h2, (hbn.cell (p := ⟨w.heap.size, _, none⟩) (cell_ltF h3)).trans h3, (hbn.cell (p := ⟨g, _, none⟩) (cell_ltF h4)).trans h4⟩
   clear hK K
   (try simp only [Act.put, List.setIfInBounds_toArray, List.set_cons_zero, List.set_cons_succ])
   refine tkY 10 ⟨some 18, .move (.tmp 28), 70, "safety.go:266", #[⟨9, .data⟩], none⟩ ?_ rfl ⟨by rfl, ?_⟩ ?_
   rotate_left
   ·intro wz hSz; (try dsimp only at hSz); go_simp; all_goals (with_reducible rfl)
   (try simp only [Act.put, List.setIfInBounds_toArray, List.set_cons_zero, List.set_cons_succ])
   refine tkY 11 ⟨some 29, .extract (.tmp 18) 0, 3, "safety.go:266", #[⟨10, .data⟩], none⟩ ?_ rfl ⟨by rfl, ?_⟩ ?_
   rotate_left
   ·intro wz hSz; (try dsimp only at hSz); go_simp; all_goals (with_reducible rfl)
   (try simp only [Act.put, List.setIfInBounds_toArray, List.set_cons_zero, List.set_cons_succ])
   refine tkY 12 ⟨some 30, .extract (.tmp 18) 1, 66, "safety.go:266", #[⟨10, .data⟩, { on := 13, ground := Ground.gcOnly Departure.lateStores }], none⟩ ?_ rfl ⟨by rfl, ?_⟩ ?_
   rotate_left
   ·intro wz hSz; (try dsimp only at hSz); go_simp; all_goals (with_reducible rfl)
   (try simp only [Act.put, List.setIfInBounds_toArray, List.set_cons_zero, List.set_cons_succ])
   refine tkY 13 ⟨some 6, .assign (.tmp 29), 3, "safety.go:266", #[⟨11, .data⟩, ⟨9, .chain⟩, ⟨0, .phase⟩, ⟨1, .phase⟩, ⟨2, .phase⟩, ⟨3, .phase⟩, ⟨4, .phase⟩, ⟨5, .phase⟩, ⟨6, .phase⟩, ⟨7, .phase⟩, ⟨8, .phase⟩, ⟨9, .phase⟩, ⟨10, .phase⟩, ⟨11, .phase⟩, { on := 12, ground := Ground.textOnly Departure.lateStores }], none⟩ ?_ rfl ⟨by rfl, ?_⟩ ?_
   rotate_left
   ·intro wz hSz; (try dsimp only at hSz); go_simp; all_goals (with_reducible rfl)
   (try simp only [Act.put, List.setIfInBounds_toArray, List.set_cons_zero, List.set_cons_succ])
   refine tkY 14 ⟨some 7, .assign (.tmp 30), 66, "safety.go:266", #[⟨12, .data⟩, ⟨13, .chain⟩, ⟨0, .phase⟩, ⟨1, .phase⟩, ⟨2, .phase⟩, ⟨3, .phase⟩, ⟨4, .phase⟩, ⟨5, .phase⟩, ⟨6, .phase⟩, ⟨7, .phase⟩, ⟨8, .phase⟩, ⟨9, .phase⟩, ⟨10, .phase⟩, ⟨11, .phase⟩, ⟨12, .phase⟩, ⟨13, .phase⟩], none⟩ ?_ rfl ⟨by rfl, ?_⟩ ?_
   rotate_left
   ·intro wz hSz; (try dsimp only at hSz); go_simp; all_goals (with_reducible rfl)
   (try simp only [Act.put, List.setIfInBounds_toArray, List.set_cons_zero, List.set_cons_succ])
   refine wpAnyH_done (by kernel_rfl) ?_ _
   refine NoPanic.normal ?_
   have hb3 : Below w.heap.size w wn := bel_after hbn0 hbn0.size hbn
   have K3 := K2.drew.below hbn
   have hBS3 := hBS.below (bel_after (Below.refl w2.heap.size w2).drew (Nat.le_refl _) hbn)
   clear k58z b1 b2 y5 hbn0 hbn hBS K2 hb2 hb1
   generalize hZ : bnF (ckL G.length C SG) (lpA G C SG) (mvsL S SG (st : Int)) 0 = Z at *
   cases c0 with
   | true =>
     simp only [if_true] at hv0 hZ0
     injection hv0 with r1 r2
     subst r1
     subst r2
     subst hZ0
     go_wp2_with fail
     go_ret2
     exact ⟨S, by rw [Int.toNat_natCast]; exact hR, by rw [hZ]; rfl, hb3⟩
   | false =>
     simp only [Bool.false_eq_true, if_false] at hv0 hZ0
     injection hv0 with r1 r2
     subst r1
     subst r2
     have hZs : bnF (ckL G.length C SG) (lpA G C SG) (mvsF S 0 (SG.drop 0)) (lpA G C SG (-1) (st : Int)) = Z := hZ0.symm
     generalize lpA G C SG (-1) (st : Int) = n0 at *
     clear hZ0 hl0
     go_wp2_with fail
     go_loopw [6, 8, 9, 10, 11] (fun u s s9 s10 s11 wr => ∃ (i : Nat) (b : Int), i ≤ SG.length ∧ u = .int .i64 b ∧ s = .int .i64 (i : Int) ∧ Hid (bnF (ckL G.length C SG) (lpA G C SG) (mvsF S i (SG.drop i)) b = Z) ∧ Hid (Below wn.heap.size wn wr)) (fun _ s _ _ _ _ => SG.length - (intOf s).toNat)
     case atStart => exact ⟨0, n0, by omega, rfl, rfl, hZs, Below.refl _ _⟩
     case round =>
      clear hZs
      obtain ⟨i, b, hi, rfl, rfl, hq', hb'⟩ := hrel
      have hq := hq'.out
      have hb := hb'.out
      clear hq' hb'
      have hbw := bel_after hb3 hb3.size hb
      have Kk := K3.below hb
      obtain ⟨_, b1, b2⟩ := id Kk
      by_cases hlt : i < SG.length
      case neg =>
       have t1 : ¬ (i : Int) < (SG.length : Int) := by omega
       rw [mvsF_end _ _ _ (by omega)] at hq
       have hq2 : (b, (0 : Int)) = Z := hq
       subst hq2
       go_wp2_with fail
       go_ret2
       exact ⟨S, by rw [Int.toNat_natCast]; exact hR, by rw [hZ]; rfl, hbw⟩
      case pos =>
       have t1 : (i : Int) < (SG.length : Int) := by omega
       have t0 : (0 : Int) ≤ (i : Int) := by omega
       have t2 : i + 1 ≤ SG.length := hlt
       obtain ⟨cs, _, ⟨ve, vd, vl, vn, rfl, _, _, _, q4⟩, P2⟩ := hx i hlt
       have lN : SG[i].nexts.length ≤ 4398046511000 := Rows.le q4
       obtain ⟨xn, xnc, rfl, _, kN⟩ := Rows.any q4
       have hp6 : ∀ X : World, Below w.heap.size w X → X.cell? ⟨g, o + i * 7 + 6, none⟩ = some (.slice xn SG[i].nexts.length xnc) := fun X hX => (hX.cell (p := ⟨g, _, none⟩) hg).trans (P2 6 _ rfl)
       have hdi := fun (m : Nat) (hm : m < SG[i].nexts.length) => l2 SG[i] (List.getElem_mem hlt) SG[i].nexts[m] (List.getElem_mem hm)
       have hkN : ∀ (m : Nat) (hm : m < SG[i].nexts.length), ∃ gN oN, xn = some ⟨gN, oN, none⟩ ∧ ∀ X : World, Below w.heap.size w X → X.cell? ⟨gN, oN + m * 2, none⟩ = some (.int .i64 SG[i].nexts[m].dst) := by
        intro m hm
        obtain ⟨gN, oN, rfl, _, hgN, P3⟩ := kN.resolve_left (by intro e; rw [e] at hm; simp at hm)
        obtain ⟨cs, _, ⟨v, rfl, _⟩, P4⟩ := P3 m hm
        exact ⟨gN, oN, rfl, fun X hX => (hX.cell (p := ⟨gN, _, none⟩) hgN).trans (by have := P4 0 _ rfl; simpa using this)⟩
       rw [mvsF_drop _ _ i hlt] at hq
       have hq0 : bnF (ckL G.length C SG) (lpA G C SG) ((if sn S i = true then (mvS i SG[i].nexts).drop 0 else []) ++ mvsF S (i + 1) (SG.drop (i + 1))) b = Z := hq
       clear kN P2 q4 hq
       generalize SG[i].nexts = LN at *
       generalize hRS : mvsF S (i + 1) (SG.drop (i + 1)) = RS2 at *
       generalize hsn : sn S i = bi at *
       go_wp2_with fail
       clear Kk hbw b1 b2
       go_loopw [6, 9, 10, 11] (fun u t s10 s11 wv => ∃ (m : Nat) (b : Int), m ≤ LN.length ∧ u = .int .i64 b ∧ t = .int .i64 (m : Int) ∧ Hid (bnF (ckL G.length C SG) (lpA G C SG) ((if bi = true then (mvS i LN).drop m else []) ++ RS2) b = Z) ∧ Hid (Below wn.heap.size wn wv)) (fun _ t _ _ _ => LN.length - (intOf t).toNat)
       case atStart => exact ⟨0, b, by omega, rfl, rfl, hq0, hb⟩
       case round =>
        clear hq0 hb
        obtain ⟨m, b, hml, rfl, rfl, hq', hb'⟩ := hrel
        have hq := hq'.out
        have hb := hb'.out
        clear hq' hb'
        have hbw := bel_after hb3 hb3.size hb
        have Kk := K3.below hb
        obtain ⟨_, b1, b2⟩ := id Kk
        have p6 := hp6 wr hbw
        have zr := ((hBS3.below hb).2 i hlt)
        rw [hsn] at zr
        by_cases hmm : m < LN.length
        case neg =>
         have s3 : ¬ (m : Int) < (LN.length : Int) := by omega
         have hq2 : bnF (ckL G.length C SG) (lpA G C SG) RS2 b = Z := by
          cases bi with
          | true => simp only [if_true] at hq; rwa [mvS_end _ _ _ (by omega), List.nil_append] at hq
          | false => simpa using hq
         go_wp2_with fail
         go_roundw
         case rel => exact ⟨i + 1, b, t2, rfl, by go_num, (by show _ = _; rw [hRS]; exact hq2), hb⟩
         case measure => simp [intOf]; omega
        case pos =>
         have s3 : (m : Int) < (LN.length : Int) := by omega
         have s2 : (0 : Int) ≤ (m : Int) := by omega
         cases bi with
         | false =>
           have hq2 : bnF (ckL G.length C SG) (lpA G C SG) RS2 b = Z := by simpa using hq
           go_wp2_with fail
           go_roundw
           case rel => exact ⟨i + 1, b, t2, rfl, by go_num, (by show _ = _; rw [hRS]; exact hq2), hb⟩
           case measure => simp [intOf]; omega
         | true =>
           simp only [if_true] at hq
           obtain ⟨gN, oN, rfl, pN⟩ := hkN m hmm
           have y6 := pN wr hbw
           obtain ⟨d1, d2⟩ := hdi m hmm
           rw [mvS_drop i LN m hmm, List.cons_append] at hq
           obtain ⟨dn, hdn⟩ : ∃ dn : Nat, LN[m].dst = (dn : Int) := ⟨LN[m].dst.toNat, by omega⟩
           rw [hdn] at y6 d1 d2 hq
           rw [bnF_cons, Int.toNat_natCast] at hq
           have hdl : dn < SG.length := by omega
           have hbn0 : Below w.heap.size w wr.drew := hbw.drew
           have y4 := hgn wr hbw i hlt
           have y5 := p6
           have y7 := hgn wr hbw dn hdl
           have k58m := k58 (i : Int) dn (.inr ⟨i, rfl, hlt⟩) hdl
           unfold vF at k58m
           generalize hck2 : ckM (ckL G.length C SG) (i : Int) dn = c2 at *
           generalize hv2 : (if c2 = true then ((0 : Int), (60 : Int)) else (lpA G C SG (i : Int) (dn : Int), 0)) = vv at k58m
           obtain ⟨n2, e2⟩ := vv
           dsimp only at k58m
           clear hkN hdi pN hdn p6
           go_wp2_with fail
           refine wp_region_noPanic ?_
           refine wp_region_held_drew (S := fun w' => w'.cell? ⟨w.heap.size, 1, none⟩ = some (.slice ga G.length gc) ∧ w'.cell? ⟨w.heap.size, 2, none⟩ = some (.slice ca C.length cc) ∧ w'.cell? ⟨w.heap.size, 7, none⟩ = some (.slice (some ⟨g, o, none⟩) SG.length sc) ∧ w'.cell? ⟨g, o + i * 7 + 2, none⟩ = some (.int .u64 ((gOf SG (i : Int) : Nat) : Int)) ∧ w'.cell? ⟨g, o + i * 7 + 6, none⟩ = some (.slice (some ⟨gN, oN, none⟩) LN.length xnc) ∧ w'.cell? ⟨gN, oN + m * 2, none⟩ = some (.int .i64 (dn : Int)) ∧ w'.cell? ⟨g, o + dn * 7 + 2, none⟩ = some (.int .u64 ((gOf SG (dn : Int) : Nat) : Int))) (by kernel_rfl) ?_ (fun hHeld => ?_)
           ·(try dsimp only)
            exact ⟨b1 1, b1 2, b1 7, y4, y5, y6, y7⟩
           refine tkY 0 ⟨some 59, .fieldAddr 31 (.tmp 1) 1, 0, "safety.go:272", #[], none⟩ ?_ rfl ⟨by rfl, ?_⟩ ?_
           rotate_left
           ·intro wz hSz; (try dsimp only at hSz); go_simp; all_goals (with_reducible rfl)
           (try simp only [Act.put, List.setIfInBounds_toArray, List.set_cons_zero, List.set_cons_succ])
           refine tkY 1 ⟨some 60, .load 25 (.tmp 59), 25, "safety.go:272", #[⟨0, .data⟩], none⟩ ?_ rfl ⟨by rfl, ?_⟩ ?_
           rotate_left
           ·intro wz hSz; (try dsimp only at hSz); go_simp; all_goals (with_reducible rfl)
           (try simp only [Act.put, List.setIfInBounds_toArray, List.set_cons_zero, List.set_cons_succ])
           refine tkY 2 ⟨some 61, .fieldAddr 31 (.tmp 1) 6, 0, "safety.go:272", #[], none⟩ ?_ rfl ⟨by rfl, ?_⟩ ?_
           rotate_left
           ·intro wz hSz; (try dsimp only at hSz); go_simp; all_goals (with_reducible rfl)
           (try simp only [Act.put, List.setIfInBounds_toArray, List.set_cons_zero, List.set_cons_succ])
           refine tkY 3 ⟨some 62, .load 29 (.tmp 61), 29, "safety.go:272", #[⟨2, .data⟩], none⟩ ?_ rfl ⟨by rfl, ?_⟩ ?_
           rotate_left
           ·intro wz hSz; (try dsimp only at hSz); go_simp; all_goals (with_reducible rfl)
           (try simp only [Act.put, List.setIfInBounds_toArray, List.set_cons_zero, List.set_cons_succ])
           refine tkY 4 ⟨some 63, .move (.tmp 8), 3, "safety.go:272", #[], none⟩ ?_ rfl ⟨by rfl, ?_⟩ ?_
           rotate_left
           ·intro wz hSz; (try dsimp only at hSz); go_simp; all_goals (with_reducible rfl)
           (try simp only [Act.put, List.setIfInBounds_toArray, List.set_cons_zero, List.set_cons_succ])
           refine tkY 5 ⟨some 64, .indexAddr 29 (.tmp 62) (.tmp 63), 0, "safety.go:272", #[⟨3, .data⟩, ⟨4, .data⟩], none⟩ ?_ rfl ⟨by rfl, ?_⟩ ?_
           rotate_left
           ·intro wz hSz; (try dsimp only at hSz); go_simp; all_goals (with_reducible rfl)
           (try simp only [Act.put, List.setIfInBounds_toArray, List.set_cons_zero, List.set_cons_succ])
           refine tkY 6 ⟨some 65, .fieldAddr 81 (.tmp 64) 2, 0, "safety.go:272", #[⟨5, .data⟩], none⟩ ?_ rfl ⟨by rfl, ?_⟩ ?_
           rotate_left
           ·intro wz hSz; (try dsimp only at hSz); go_simp; all_goals (with_reducible rfl)
           (try simp only [Act.put, List.setIfInBounds_toArray, List.set_cons_zero, List.set_cons_succ])
           refine tkY 7 ⟨some 66, .load 77 (.tmp 65), 77, "safety.go:272", #[⟨6, .data⟩], none⟩ ?_ rfl ⟨by rfl, ?_⟩ ?_
           rotate_left
           ·intro wz hSz; (try dsimp only at hSz); go_simp; all_goals (with_reducible rfl)
           (try simp only [Act.put, List.setIfInBounds_toArray, List.set_cons_zero, List.set_cons_succ])
           refine tkY 8 ⟨some 67, .fieldAddr 31 (.tmp 1) 6, 0, "safety.go:272", #[], none⟩ ?_ rfl ⟨by rfl, ?_⟩ ?_
           rotate_left
           ·intro wz hSz; (try dsimp only at hSz); go_simp; all_goals (with_reducible rfl)
           (try simp only [Act.put, List.setIfInBounds_toArray, List.set_cons_zero, List.set_cons_succ])
           refine tkY 9 ⟨some 68, .load 29 (.tmp 67), 29, "safety.go:272", #[⟨8, .data⟩], none⟩ ?_ rfl ⟨by rfl, ?_⟩ ?_
           rotate_left
           ·intro wz hSz; (try dsimp only at hSz); go_simp; all_goals (with_reducible rfl)
           (try simp only [Act.put, List.setIfInBounds_toArray, List.set_cons_zero, List.set_cons_succ])
           refine tkY 10 ⟨some 69, .fieldAddr 31 (.tmp 1) 6, 0, "safety.go:272", #[], none⟩ ?_ rfl ⟨by rfl, ?_⟩ ?_
           rotate_left
           ·intro wz hSz; (try dsimp only at hSz); go_simp; all_goals (with_reducible rfl)
           (try simp only [Act.put, List.setIfInBounds_toArray, List.set_cons_zero, List.set_cons_succ])
           refine tkY 11 ⟨some 70, .load 29 (.tmp 69), 29, "safety.go:272", #[⟨10, .data⟩], none⟩ ?_ rfl ⟨by rfl, ?_⟩ ?_
           rotate_left
           ·intro wz hSz; (try dsimp only at hSz); go_simp; all_goals (with_reducible rfl)
           (try simp only [Act.put, List.setIfInBounds_toArray, List.set_cons_zero, List.set_cons_succ])
           refine tkY 12 ⟨some 71, .move (.tmp 8), 3, "safety.go:272", #[], none⟩ ?_ rfl ⟨by rfl, ?_⟩ ?_
           rotate_left
           ·intro wz hSz; (try dsimp only at hSz); go_simp; all_goals (with_reducible rfl)
           (try simp only [Act.put, List.setIfInBounds_toArray, List.set_cons_zero, List.set_cons_succ])
           refine tkY 13 ⟨some 72, .indexAddr 29 (.tmp 70) (.tmp 71), 0, "safety.go:272", #[⟨11, .data⟩, ⟨12, .data⟩], none⟩ ?_ rfl ⟨by rfl, ?_⟩ ?_
           rotate_left
           ·intro wz hSz; (try dsimp only at hSz); go_simp; all_goals (with_reducible rfl)
           (try simp only [Act.put, List.setIfInBounds_toArray, List.set_cons_zero, List.set_cons_succ])
           refine tkY 14 ⟨some 73, .fieldAddr 81 (.tmp 72) 6, 0, "safety.go:272", #[⟨13, .data⟩], none⟩ ?_ rfl ⟨by rfl, ?_⟩ ?_
           rotate_left
           ·intro wz hSz; (try dsimp only at hSz); go_simp; all_goals (with_reducible rfl)
           (try simp only [Act.put, List.setIfInBounds_toArray, List.set_cons_zero, List.set_cons_succ])
           refine tkY 15 ⟨some 74, .load 79 (.tmp 73), 79, "safety.go:272", #[⟨14, .data⟩], none⟩ ?_ rfl ⟨by rfl, ?_⟩ ?_
           rotate_left
           ·intro wz hSz; (try dsimp only at hSz); go_simp; all_goals (with_reducible rfl)
           (try simp only [Act.put, List.setIfInBounds_toArray, List.set_cons_zero, List.set_cons_succ])
           refine tkY 16 ⟨some 75, .move (.tmp 9), 3, "safety.go:272", #[], none⟩ ?_ rfl ⟨by rfl, ?_⟩ ?_
           rotate_left
           ·intro wz hSz; (try dsimp only at hSz); go_simp; all_goals (with_reducible rfl)
           (try simp only [Act.put, List.setIfInBounds_toArray, List.set_cons_zero, List.set_cons_succ])
           refine tkY 17 ⟨some 76, .indexAddr 79 (.tmp 74) (.tmp 75), 0, "safety.go:272", #[⟨15, .data⟩, ⟨16, .data⟩], none⟩ ?_ rfl ⟨by rfl, ?_⟩ ?_
           rotate_left
           ·intro wz hSz; (try dsimp only at hSz); go_simp; all_goals (with_reducible rfl)
           (try simp only [Act.put, List.setIfInBounds_toArray, List.set_cons_zero, List.set_cons_succ])
           refine tkY 18 ⟨some 77, .fieldAddr 84 (.tmp 76) 0, 0, "safety.go:272", #[⟨17, .data⟩], none⟩ ?_ rfl ⟨by rfl, ?_⟩ ?_
           rotate_left
           ·intro wz hSz; (try dsimp only at hSz); go_simp; all_goals (with_reducible rfl)
           (try simp only [Act.put, List.setIfInBounds_toArray, List.set_cons_zero, List.set_cons_succ])
           refine tkY 19 ⟨some 78, .load 3 (.tmp 77), 3, "safety.go:272", #[⟨18, .data⟩], none⟩ ?_ rfl ⟨by rfl, ?_⟩ ?_
           rotate_left
           ·intro wz hSz; (try dsimp only at hSz); go_simp; all_goals (with_reducible rfl)
           (try simp only [Act.put, List.setIfInBounds_toArray, List.set_cons_zero, List.set_cons_succ])
           refine tkY 20 ⟨some 79, .indexAddr 29 (.tmp 68) (.tmp 78), 0, "safety.go:272", #[⟨9, .data⟩, ⟨19, .data⟩], none⟩ ?_ rfl ⟨by rfl, ?_⟩ ?_
           rotate_left
           ·intro wz hSz; (try dsimp only at hSz); go_simp; all_goals (with_reducible rfl)
           (try simp only [Act.put, List.setIfInBounds_toArray, List.set_cons_zero, List.set_cons_succ])
           refine tkY 21 ⟨some 80, .fieldAddr 81 (.tmp 79) 2, 0, "safety.go:272", #[⟨20, .data⟩], none⟩ ?_ rfl ⟨by rfl, ?_⟩ ?_
           rotate_left
           ·intro wz hSz; (try dsimp only at hSz); go_simp; all_goals (with_reducible rfl)
           (try simp only [Act.put, List.setIfInBounds_toArray, List.set_cons_zero, List.set_cons_succ])
           refine tkY 22 ⟨some 81, .load 77 (.tmp 80), 77, "safety.go:272", #[⟨21, .data⟩], none⟩ ?_ rfl ⟨by rfl, ?_⟩ ?_
           rotate_left
           ·intro wz hSz; (try dsimp only at hSz); go_simp; all_goals (with_reducible rfl)
           (try simp only [Act.put, List.setIfInBounds_toArray, List.set_cons_zero, List.set_cons_succ])
           refine wpAnyH_ready (rs := [23]) (by kernel_rfl) (by simp) ?_
           refine AllReadyH.cons (o := ⟨some 82, .call { callee := Callee.value (.func 58), args := #[.tmp 60, .tmp 66, .tmp 81], argTypes := #[25, 77, 77] }, 70, "safety.go:272", #[⟨1, .data⟩, ⟨7, .data⟩, ⟨22, .data⟩], none⟩) rfl (fun K hK => ?_) AllReadyH.nil
           go_simp
           go_at_call 58
           (with_reducible refine Calls.mono (k58m _ (by exact hbn0)) ?_)
           rintro e wm ⟨rfl, hbm⟩
           go_wp2_with fail
           refine hK.out _ _ ?_ (fun hHeld => ?_)
           ·(try dsimp only)
            obtain ⟨h0, h1, h2, h3, h4, h5, h6⟩ := hHeld; exact ⟨(hbm.cell (p := ⟨w.heap.size, _, none⟩) (cell_ltF h0)).trans h0, (hbm.cell (p := ⟨w.heap.size, _, none⟩) (cell_ltF h1)).trans h1, (hbm.cell (p := ⟨w.heap.size, _, none⟩) (cell_ltF h2)).trans h2, (hbm.cell (p := ⟨g, _, none⟩) (cell_ltF h3)).trans h3, (hbm.cell (p := ⟨g, _, none⟩) (cell_ltF h4)).trans h4, (hbm.cell (p := ⟨gN, _, none⟩) (cell_ltF h5)).trans h5, (hbm.cell (p := ⟨g, _, none⟩) (cell_ltF h6)).trans h6⟩
           clear hK K
           (try simp only [Act.put, List.setIfInBounds_toArray, List.set_cons_zero, List.set_cons_succ])
           refine tkY 24 ⟨some 58, .move (.tmp 82), 70, "safety.go:272", #[⟨23, .data⟩], none⟩ ?_ rfl ⟨by rfl, ?_⟩ ?_
           rotate_left
           ·intro wz hSz; (try dsimp only at hSz); go_simp; all_goals (with_reducible rfl)
           (try simp only [Act.put, List.setIfInBounds_toArray, List.set_cons_zero, List.set_cons_succ])
           refine tkY 25 ⟨some 83, .extract (.tmp 58) 0, 3, "safety.go:272", #[⟨24, .data⟩], none⟩ ?_ rfl ⟨by rfl, ?_⟩ ?_
           rotate_left
           ·intro wz hSz; (try dsimp only at hSz); go_simp; all_goals (with_reducible rfl)
           (try simp only [Act.put, List.setIfInBounds_toArray, List.set_cons_zero, List.set_cons_succ])
           refine tkY 26 ⟨some 84, .extract (.tmp 58) 1, 66, "safety.go:272", #[⟨24, .data⟩, { on := 27, ground := Ground.gcOnly Departure.lateStores }], none⟩ ?_ rfl ⟨by rfl, ?_⟩ ?_
           rotate_left
           ·intro wz hSz; (try dsimp only at hSz); go_simp; all_goals (with_reducible rfl)
           (try simp only [Act.put, List.setIfInBounds_toArray, List.set_cons_zero, List.set_cons_succ])
           refine tkY 27 ⟨some 10, .assign (.tmp 83), 3, "safety.go:272", #[⟨25, .data⟩, ⟨23, .chain⟩, ⟨0, .phase⟩, ⟨1, .phase⟩, ⟨2, .phase⟩, ⟨3, .phase⟩, ⟨4, .phase⟩, ⟨5, .phase⟩, ⟨6, .phase⟩, ⟨7, .phase⟩, ⟨8, .phase⟩, ⟨9, .phase⟩, ⟨10, .phase⟩, ⟨11, .phase⟩, ⟨12, .phase⟩, ⟨13, .phase⟩, ⟨14, .phase⟩, ⟨15, .phase⟩, ⟨16, .phase⟩, ⟨17, .phase⟩, ⟨18, .phase⟩, ⟨19, .phase⟩, ⟨20, .phase⟩, ⟨21, .phase⟩, ⟨22, .phase⟩, ⟨23, .phase⟩, ⟨24, .phase⟩, ⟨25, .phase⟩, { on := 26, ground := Ground.textOnly Departure.lateStores }], none⟩ ?_ rfl ⟨by rfl, ?_⟩ ?_
           rotate_left
           ·intro wz hSz; (try dsimp only at hSz); go_simp; all_goals (with_reducible rfl)
           (try simp only [Act.put, List.setIfInBounds_toArray, List.set_cons_zero, List.set_cons_succ])
           refine tkY 28 ⟨some 11, .assign (.tmp 84), 66, "safety.go:272", #[⟨26, .data⟩, ⟨27, .chain⟩, ⟨0, .phase⟩, ⟨1, .phase⟩, ⟨2, .phase⟩, ⟨3, .phase⟩, ⟨4, .phase⟩, ⟨5, .phase⟩, ⟨6, .phase⟩, ⟨7, .phase⟩, ⟨8, .phase⟩, ⟨9, .phase⟩, ⟨10, .phase⟩, ⟨11, .phase⟩, ⟨12, .phase⟩, ⟨13, .phase⟩, ⟨14, .phase⟩, ⟨15, .phase⟩, ⟨16, .phase⟩, ⟨17, .phase⟩, ⟨18, .phase⟩, ⟨19, .phase⟩, ⟨20, .phase⟩, ⟨21, .phase⟩, ⟨22, .phase⟩, ⟨23, .phase⟩, ⟨24, .phase⟩, ⟨25, .phase⟩, ⟨26, .phase⟩, ⟨27, .phase⟩], none⟩ ?_ rfl ⟨by rfl, ?_⟩ ?_
           rotate_left
           ·intro wz hSz; (try dsimp only at hSz); go_simp; all_goals (with_reducible rfl)
           (try simp only [Act.put, List.setIfInBounds_toArray, List.set_cons_zero, List.set_cons_succ])
           refine wpAnyH_done (by kernel_rfl) ?_ _
           refine NoPanic.normal ?_
           have hb6 : Below wn.heap.size wn wm := bel_after hb.drew hb.drew.size hbm
           have hbw6 := bel_after hb3 hb3.size hb6
           clear k58m y4 y5 y6 y7 b1 b2 hbm
           cases c2 with
           | true =>
             simp only [if_true] at hv2 hq
             injection hv2 with r1 r2
             subst r1
             subst r2
             subst hq
             go_wp2_with fail
             go_ret2
             exact ⟨S, by rw [Int.toNat_natCast]; exact hR, by rw [hZ]; rfl, hbw6⟩
           | false =>
             simp only [Bool.false_eq_true, if_false] at hv2 hq
             injection hv2 with r1 r2
             subst r1
             subst r2
             generalize lpA G C SG (i : Int) (dn : Int) = n2 at *
             go_wp2_with fail
             go_roundw
             case rel => exact ⟨m + 1, max b n2, hmm, rfl, by go_num, (by first | exact hq | (show _ = _; simpa using hq)), hb6⟩
             case measure => simp [intOf]; omega
end Go.Proofs.YtnicolaphmffkaaGreatDoor
