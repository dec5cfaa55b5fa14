import Derived.Test.YtjfieclmagbfbaaGreatDoorCkC
import Derived.Test.YtjfieclmagbfbaaGreatDoorBnD
import Derived.OrdersHeld
set_option linter.unusedSimpArgs false
set_option linter.unusedVariables false
set_option maxRecDepth 100000
set_option maxHeartbeats 8000000
namespace Go.Proofs.YtjfieclmagbfbaaGreatDoor
open Go.RowKit
def slX (Q : List Bool) (lp : Int → Int → Int) (x : Int × Int) : List Fd := if ckM Q x.1 x.2.toNat = true then [] else if 3600 < lp x.1 x.2 then [⟨67, x.1, -1, x.2⟩] else []
def slF (Q : List Bool) (lp : Int → Int → Int) : List (Int × Int) → List Fd
 | [] => []
 | x :: L => slX Q lp x ++ slF Q lp L
theorem slF_drop (Q : List Bool) (lp : Int → Int → Int) (L : List (Int × Int)) (k : Nat) (h : k < L.length) : slF Q lp (L.drop k) = slX Q lp L[k] ++ slF Q lp (L.drop (k + 1)) := by
 rw [List.drop_eq_getElem_cons h]; rfl
theorem slF_end (Q : List Bool) (lp : Int → Int → Int) (L : List (Int × Int)) (k : Nat) (h : L.length ≤ k) : slF Q lp (L.drop k) = [] := by
 rw [List.drop_eq_nil_of_le h]; rfl
theorem slowness_any (G : List Gp) (C : List Cf) (D : List Dt) (TM CT : List ByteArray) (VR : List Vr) (SG : List Ts) (pn : ByteArray) (ga ca da ta ka va sa wa : Option Addr) (gc cc dc tc kc vc sc mb ra rc qa qc wc : Nat) (st : Nat) (R : List Bool) (fa : Option Addr) (fc : Nat) (F : List Fd) (w W : World) (rb : Nat) (h : RP w rb #[.string pn, .slice ga G.length gc, .slice ca C.length cc, .slice da D.length dc, .slice ta TM.length tc, .slice ka CT.length kc, .slice va VR.length vc, .slice sa SG.length sc, .int .i64 (st : Int), .slice ga G.length gc, .map (some mb), .slice (some ⟨ra, 0, none⟩) SG.length rc, .slice (some ⟨qa, 0, none⟩) SG.length qc, .slice wa G.length wc] fa fc F W) (hSS : Tss (fun _ => True) w (.slice sa SG.length sc) SG) (hGG : Fl 5 Gp.cs w (.slice ga G.length gc) G) (hBR : BlR w ra SG.length R) (hBQ : BlR w qa SG.length (ckL G.length C SG)) (lS : SG.length ≤ 256) (lcg : cgN SG ≤ 4096) (lG : G.length ≤ 2932031007317) (gr : gridB G C = true) (hd : Ways SG) (hst : st < SG.length) (hgr : ∀ s ∈ SG, 0 ≤ s.green ∧ s.green < 18446744073709551616)
  (hWs : G = [] ∨ ∃ gw, wa = some ⟨gw, 0, none⟩ ∧ gw < w.heap.size ∧ ∀ i, i < G.length → w.cell? ⟨gw, i, none⟩ = some (.int .i64 (wA C (2 ^ min G.length 64 - 1) (i : Int) G 0 0)) ∧ 0 ≤ wA C (2 ^ min G.length 64 - 1) (i : Int) G 0 0 ∧ wA C (2 ^ min G.length 64 - 1) (i : Int) G 0 0 ≤ 3600) :
  Calls Tryz.prog 27 #[.pointer (some ⟨rb, 0, none⟩)] W fun e W' => e = .returned (.tuple #[]) ∧ ∃ fa' fc', RP w rb #[.string pn, .slice ga G.length gc, .slice ca C.length cc, .slice da D.length dc, .slice ta TM.length tc, .slice ka CT.length kc, .slice va VR.length vc, .slice sa SG.length sc, .int .i64 (st : Int), .slice ga G.length gc, .map (some mb), .slice (some ⟨ra, 0, none⟩) SG.length rc, .slice (some ⟨qa, 0, none⟩) SG.length qc, .slice wa G.length wc] fa' fc' (addL F (slF (ckL G.length C SG) (lpA G C SG) (mvsL R SG (st : Int)))) W' := by
 have z0 : W.cell? ⟨rb, 0, none⟩ = some (.string pn) := h.atZ 0 (by decide)
 have z1 : W.cell? ⟨rb, 1, none⟩ = some (.slice ga G.length gc) := h.atZ 1 (by decide)
 have z2 : W.cell? ⟨rb, 2, none⟩ = some (.slice ca C.length cc) := h.atZ 2 (by decide)
 have z3 : W.cell? ⟨rb, 3, none⟩ = some (.slice da D.length dc) := h.atZ 3 (by decide)
 have z4 : W.cell? ⟨rb, 4, none⟩ = some (.slice ta TM.length tc) := h.atZ 4 (by decide)
 have z5 : W.cell? ⟨rb, 5, none⟩ = some (.slice ka CT.length kc) := h.atZ 5 (by decide)
 have z6 : W.cell? ⟨rb, 6, none⟩ = some (.slice va VR.length vc) := h.atZ 6 (by decide)
 have z7 : W.cell? ⟨rb, 7, none⟩ = some (.slice sa SG.length sc) := h.atZ 7 (by decide)
 have z8 : W.cell? ⟨rb, 8, none⟩ = some (.int .i64 (st : Int)) := h.atZ 8 (by decide)
 have z9 : W.cell? ⟨rb, 9, none⟩ = some (.slice ga G.length gc) := h.atZ 9 (by decide)
 have z10 : W.cell? ⟨rb, 10, none⟩ = some (.map (some mb)) := h.atZ 10 (by decide)
 have z11 : W.cell? ⟨rb, 11, none⟩ = some (.slice (some ⟨ra, 0, none⟩) SG.length rc) := h.atZ 11 (by decide)
 have z12 : W.cell? ⟨rb, 12, none⟩ = some (.slice (some ⟨qa, 0, none⟩) SG.length qc) := h.atZ 12 (by decide)
 have z13 : W.cell? ⟨rb, 13, none⟩ = some (.slice wa G.length wc) := h.atZ 13 (by decide)
 have k41 := moves_any G C D TM CT VR SG pn ga ca da ta ka va sa wa gc cc dc tc kc vc sc mb ra rc qa qc wc  (st : Int) R W (Tss.below hSS h.hb) ⟨Nat.lt_of_lt_of_le hBR.1 h.hb.size, fun i hi => (h.hb.cell (p := ⟨ra, i, none⟩) hBR.1).trans (hBR.2 i hi)⟩ lS lcg
 have hok := mvsL_ok (R := R) hd hst
 have mins := fun (k : Nat) (hk : k < G.length) => (grid_min gr k hk).2.2
 have hgl := gOf_lt hgr
 have hAl : (mvsL R SG (st : Int)).length ≤ 4097 := by have := mvsF_len R SG 0; simp [mvsL]; omega
 generalize mvsL R SG (st : Int) = A at *
 generalize hZ : addL F (slF (ckL G.length C SG) (lpA G C SG) A) = Z at *
 go_enter Tryz.func27, Tryz.ntmps27
 go_wp2_with fail
 go_at_call 41
 refine Calls.mono k41 ?_
 rintro e w3 ⟨gm, cm, rfl, oM, h3⟩
 have hr3 := h.below h3
 have hgm : gm < w3.heap.size ∧ w.heap.size ≤ gm ∧ W.heap.size ≤ gm := ⟨(own_lt oM gm rfl).2, Nat.le_trans h.hb.size (own_lt oM gm rfl).1, (own_lt oM gm rfl).1⟩
 have hMc : ∀ (k : Nat) (hk : k < A.length) (j : Nat) (u : Value), (mvC A[k])[j]? = some u → w3.cell? ⟨gm, k * 2 + j, none⟩ = some u := fun k hk j u hu => by
  obtain ⟨hj, -⟩ := List.getElem?_eq_some_iff.1 hu; have hj2 : j < 2 := hj; exact (oM.cellAt (k * 2 + j) (by omega)).trans ((cellsF_get mvC_len _ k j hk hj2).trans hu)
 have hn3 : ∀ q, (Value.slice fa F.length fc).ownBlock = some q → q ≠ gm := fun q hq => by have := (own_lt h.own q hq).2; omega
 have hrg : gm ≠ rb := by have := h.box.1; omega
 clear k41 oM h z0 z1 z2 z3 z4 z5 z6 z7 z8 z9 z10 z11 z12 z13 h3
 go_wp2_with fail
 go_loopw [10] (fun u wr => ∃ (k : Nat) (fa0 : Option Addr) (fc0 : Nat) (F0 : List Fd), k ≤ A.length ∧ u = .int .i64 (k : Int) ∧ Hid (addL F0 (slF (ckL G.length C SG) (lpA G C SG) (A.drop k)) = Z) ∧ Hid (RP w rb #[.string pn, .slice ga G.length gc, .slice ca C.length cc, .slice da D.length dc, .slice ta TM.length tc, .slice ka CT.length kc, .slice va VR.length vc, .slice sa SG.length sc, .int .i64 (st : Int), .slice ga G.length gc, .map (some mb), .slice (some ⟨ra, 0, none⟩) SG.length rc, .slice (some ⟨qa, 0, none⟩) SG.length qc, .slice wa G.length wc] fa0 fc0 F0 wr) ∧ Hid (∀ q, (Value.slice fa0 F0.length fc0).ownBlock = some q → q ≠ gm) ∧ Hid (gm < wr.heap.size ∧ ∀ (k : Nat) (hk : k < A.length) (j : Nat) (u : Value), (mvC A[k])[j]? = some u → wr.cell? ⟨gm, k * 2 + j, none⟩ = some u)) (fun u _ => A.length - (intOf u).toNat)
 case atStart => exact ⟨0, fa, fc, F, by omega, rfl, hZ, hr3, hn3, hgm.1, hMc⟩
 case round =>
  clear hZ hr3 hn3 hMc hgm; obtain ⟨k, fa0, fc0, F0, hk, rfl, hq', hr', hn', hM'⟩ := hrel; have hq := hq'.out; have hr0 := hr'.out; have hn0 : ∀ q, (Value.slice fa0 F0.length fc0).ownBlock = some q → q ≠ gm := hn'.out; obtain ⟨hgm, hMc⟩ := hM'.out; clear hq' hr' hn' hM'
  by_cases hlt : k < A.length
  case neg =>
   have t1 : ¬ (k : Int) < (A.length : Int) := by omega
   rw [slF_end _ _ _ _ (by omega), addL_nil] at hq; subst hq
   go_wp2_with fail
   go_end0
   exact ⟨rfl, fa0, fc0, hr0⟩
  case pos =>
   have t1 : (k : Int) < (A.length : Int) := by omega
   have t0 : (0 : Int) ≤ (k : Int) := by omega
   have t2 : k + 1 ≤ A.length := hlt; have p0 := hMc k hlt 0 _ rfl; have p1 := hMc k hlt 1 _ rfl; simp only [Nat.add_zero] at p0; obtain ⟨hx1, t, hx2, ht⟩ := hok _ (List.getElem_mem hlt); rw [slF_drop _ _ A k hlt, addL_app] at hq; unfold slX at hq; rw [hx2, Int.toNat_natCast] at hq; rw [hx2] at p1; generalize A[k].1 = x1 at *; have b6 : Below wr.heap.size wr (wr.alloc (.cells #[.int .i64 x1, .int .i64 (t : Int)] 102)) := bel1 _; have hr1 := hr0.below b6; have M6 : Has (wr.alloc (.cells #[.int .i64 x1, .int .i64 (t : Int)] 102)) wr.heap.size #[.int .i64 x1, .int .i64 (t : Int)] := Has.new _ _ _ rfl; have hwr : wr.heap.size ≠ rb := by have := hr0.box.1; omega
   have hnw : ∀ q, (Value.slice fa0 F0.length fc0).ownBlock = some q → q ≠ wr.heap.size := fun q hq2 => by have := (own_lt hr0.own q hq2).2; omega
   have hMk : ∀ {X : World}, Below (wr.alloc (.cells #[.int .i64 x1, .int .i64 (t : Int)] 102)).heap.size (wr.alloc (.cells #[.int .i64 x1, .int .i64 (t : Int)] 102)) X → gm < X.heap.size ∧ ∀ (k : Nat) (hk : k < A.length) (j : Nat) (u : Value), (mvC A[k])[j]? = some u → X.cell? ⟨gm, k * 2 + j, none⟩ = some u := fun {X} hX => by
    have hbX := b6.trans (hX.mono b6.size); exact ⟨Nat.lt_of_lt_of_le hgm hbX.size, fun k hk j u hu => (hbX.cell (p := ⟨gm, _, none⟩) hgm).trans (hMc k hk j u hu)⟩
   have hbw : ∀ {X : World}, Below (wr.alloc (.cells #[.int .i64 x1, .int .i64 (t : Int)] 102)).heap.size (wr.alloc (.cells #[.int .i64 x1, .int .i64 (t : Int)] 102)) X → Below w.heap.size w X := fun {X} hX => hr1.hb.trans (hX.mono hr1.hb.size)
   have k42 := fun (X : World) (hX : Below (wr.alloc (.cells #[.int .i64 x1, .int .i64 (t : Int)] 102)).heap.size (wr.alloc (.cells #[.int .i64 x1, .int .i64 (t : Int)] 102)) X) => clashes_any G C D TM CT VR SG pn ga ca da ta ka va sa wa gc cc dc tc kc vc sc mb ra rc qa qc wc  (st : Int) (ckL G.length C SG) x1 t X ⟨Nat.lt_of_lt_of_le hBQ.1 (hbw hX).size, fun i hi => ((hbw hX).cell (p := ⟨qa, i, none⟩) hBQ.1).trans (hBQ.2 i hi)⟩ ht hx1
   have k43 := fun (X : World) (hX : Below (wr.alloc (.cells #[.int .i64 x1, .int .i64 (t : Int)] 102)).heap.size (wr.alloc (.cells #[.int .i64 x1, .int .i64 (t : Int)] 102)) X) => longest_any G C D TM CT VR SG pn ga ca da ta ka va sa wa gc cc dc tc kc vc sc mb ra rc qa qc wc  (st : Int) (wsA G C) x1 t (gOf SG x1) (gOf SG (t : Int)) X (Tss.below hSS (hbw hX)) (hgl _) (hgl _) (hGG.below (hbw hX)) lG mins (by
      rcases hWs with h | ⟨gw, q1, q2, q3⟩
      ·exact .inl h
      ·exact .inr ⟨gw, q1, Nat.lt_of_lt_of_le q2 (hbw hX).size, fun i hi => ⟨((hbw hX).cell (p := ⟨gw, _, none⟩) q2).trans (q3 i hi).1, (q3 i hi).2⟩⟩) ht (gOf_nat SG t ht (hgr _ (List.getElem_mem ht)).1) (by
      rcases hx1 with rfl | ⟨k1, rfl, hk1⟩
      ·exact .inl ⟨rfl, rfl⟩
      ·exact .inr ⟨k1, hk1, rfl, gOf_nat SG k1 hk1 (hgr _ (List.getElem_mem hk1)).1⟩)
   simp only [show thF (gOf SG x1) (gOf SG (t : Int)) (wsA G C) G 0 0 = lpA G C SG x1 (t : Int) from rfl] at k43; clear hok hSS hGG hBR hBQ hWs hgr hd hst mins hgl gr hMc hx1 hx2 hbw ht; generalize lpA G C SG x1 (t : Int) = lp at *; generalize ckM (ckL G.length C SG) x1 t = ck at *; obtain ⟨_, m1, _⟩ := id M6
   go_wp2_with fail
   cases ck with
   | true =>
     rw [if_pos rfl, addL_nil] at hq; refine wp_region_noPanic ?_; refine wp_region_held_drew (S := fun w' => w'.cell? ⟨rb, 0, none⟩ = some (.string pn) ∧ w'.cell? ⟨rb, 1, none⟩ = some (.slice ga G.length gc) ∧ w'.cell? ⟨rb, 2, none⟩ = some (.slice ca C.length cc) ∧ w'.cell? ⟨rb, 3, none⟩ = some (.slice da D.length dc) ∧ w'.cell? ⟨rb, 4, none⟩ = some (.slice ta TM.length tc) ∧ w'.cell? ⟨rb, 5, none⟩ = some (.slice ka CT.length kc) ∧ w'.cell? ⟨rb, 6, none⟩ = some (.slice va VR.length vc) ∧ w'.cell? ⟨rb, 7, none⟩ = some (.slice sa SG.length sc) ∧ w'.cell? ⟨rb, 8, none⟩ = some (.int .i64 (st : Int)) ∧ w'.cell? ⟨rb, 9, none⟩ = some (.slice ga G.length gc) ∧ w'.cell? ⟨rb, 10, none⟩ = some (.map (some mb)) ∧ w'.cell? ⟨rb, 11, none⟩ = some (.slice (some ⟨ra, 0, none⟩) SG.length rc) ∧ w'.cell? ⟨rb, 12, none⟩ = some (.slice (some ⟨qa, 0, none⟩) SG.length qc) ∧ w'.cell? ⟨rb, 13, none⟩ = some (.slice wa G.length wc) ∧ w'.cell? ⟨wr.heap.size, 0, none⟩ = some (.int .i64 x1) ∧ w'.cell? ⟨wr.heap.size, 1, none⟩ = some (.int .i64 (t : Int))) (by kernel_rfl) ?_ (fun hHeld => ?_)
     ·(try dsimp only)
      exact ⟨hr1.atZ 0 (by decide), hr1.atZ 1 (by decide), hr1.atZ 2 (by decide), hr1.atZ 3 (by decide), hr1.atZ 4 (by decide), hr1.atZ 5 (by decide), hr1.atZ 6 (by decide), hr1.atZ 7 (by decide), hr1.atZ 8 (by decide), hr1.atZ 9 (by decide), hr1.atZ 10 (by decide), hr1.atZ 11 (by decide), hr1.atZ 12 (by decide), hr1.atZ 13 (by decide), M6.2.1 0, M6.2.1 1⟩
     refine tkY 0 ?_; refine tkY 1 ?_; refine tkY 2 ?_; refine tkY 3 ?_; refine tkY 4 ?_; refine wpAnyH_ready (rs := [5]) (by kernel_rfl) (by simp) ?_; refine AllReadyH.cons (o := ⟨some 19, .call { callee := Callee.value (.func 42), args := #[.tmp 17, .tmp 18], argTypes := #[82, 102] }, 4, "finding.go:84", #[⟨3, .data⟩, ⟨4, .data⟩], none⟩) rfl (fun K hK => ?_) AllReadyH.nil
     go_simp
     go_at_call 42
     (with_reducible refine Calls.mono (k42 _ (Below.refl _ _).drew) ?_)
     rintro e w5 ⟨rfl, h5⟩; have h5' : Below (wr.alloc (.cells #[.int .i64 x1, .int .i64 (t : Int)] 102)).heap.size (wr.alloc (.cells #[.int .i64 x1, .int .i64 (t : Int)] 102)) w5 := (Below.refl _ (wr.alloc (.cells #[.int .i64 x1, .int .i64 (t : Int)] 102))).drew.trans h5
     go_wp2_with fail
     refine hK.out _ _ ?_ (fun hHeld => ?_)
     ·(try dsimp only)
      obtain ⟨y0, y1, y2, y3, y4, y5, y6, y7, y8, y9, y10, y11, y12, y13, y14, y15⟩ := hHeld; exact ⟨(h5.cell (p := ⟨rb, _, none⟩) (cell_ltF y0)).trans y0, (h5.cell (p := ⟨rb, _, none⟩) (cell_ltF y1)).trans y1, (h5.cell (p := ⟨rb, _, none⟩) (cell_ltF y2)).trans y2, (h5.cell (p := ⟨rb, _, none⟩) (cell_ltF y3)).trans y3, (h5.cell (p := ⟨rb, _, none⟩) (cell_ltF y4)).trans y4, (h5.cell (p := ⟨rb, _, none⟩) (cell_ltF y5)).trans y5, (h5.cell (p := ⟨rb, _, none⟩) (cell_ltF y6)).trans y6, (h5.cell (p := ⟨rb, _, none⟩) (cell_ltF y7)).trans y7, (h5.cell (p := ⟨rb, _, none⟩) (cell_ltF y8)).trans y8, (h5.cell (p := ⟨rb, _, none⟩) (cell_ltF y9)).trans y9, (h5.cell (p := ⟨rb, _, none⟩) (cell_ltF y10)).trans y10, (h5.cell (p := ⟨rb, _, none⟩) (cell_ltF y11)).trans y11, (h5.cell (p := ⟨rb, _, none⟩) (cell_ltF y12)).trans y12, (h5.cell (p := ⟨rb, _, none⟩) (cell_ltF y13)).trans y13, (h5.cell (p := ⟨wr.heap.size, _, none⟩) (cell_ltF y14)).trans y14, (h5.cell (p := ⟨wr.heap.size, _, none⟩) (cell_ltF y15)).trans y15⟩
     clear hK K
     (try simp only [Act.put, List.setIfInBounds_toArray, List.set_cons_zero, List.set_cons_succ])
     refine tkY 6 ?_; refine tkY 7 ?_; refine tkN 8 ?_; refine tkN 9 ?_; refine tkN 10 ?_; refine tkN 11 ?_; refine tkN 12 ?_; refine tkN 13 ?_; refine tkN 14 ?_; refine tkY 15 ?_; refine wpAnyH_done (by kernel_rfl) ?_ _; refine NoPanic.normal ?_; have hr5 := hr1.below h5'; have hM5 := hMk h5'
     go_wp2_with fail
     go_roundw
     case rel => exact ⟨k + 1, fa0, fc0, F0, by omega, by go_num, hq, hr5, hn0, hM5⟩
     case measure => simp [intOf]; omega
   | false =>
     rw [if_neg (by simp)] at hq
     by_cases hlp : 3600 < lp
     case pos =>
      rw [if_pos hlp, addL_one] at hq; refine wp_region_noPanic ?_; refine wp_region_held_drew (S := fun w' => w'.cell? ⟨rb, 0, none⟩ = some (.string pn) ∧ w'.cell? ⟨rb, 1, none⟩ = some (.slice ga G.length gc) ∧ w'.cell? ⟨rb, 2, none⟩ = some (.slice ca C.length cc) ∧ w'.cell? ⟨rb, 3, none⟩ = some (.slice da D.length dc) ∧ w'.cell? ⟨rb, 4, none⟩ = some (.slice ta TM.length tc) ∧ w'.cell? ⟨rb, 5, none⟩ = some (.slice ka CT.length kc) ∧ w'.cell? ⟨rb, 6, none⟩ = some (.slice va VR.length vc) ∧ w'.cell? ⟨rb, 7, none⟩ = some (.slice sa SG.length sc) ∧ w'.cell? ⟨rb, 8, none⟩ = some (.int .i64 (st : Int)) ∧ w'.cell? ⟨rb, 9, none⟩ = some (.slice ga G.length gc) ∧ w'.cell? ⟨rb, 10, none⟩ = some (.map (some mb)) ∧ w'.cell? ⟨rb, 11, none⟩ = some (.slice (some ⟨ra, 0, none⟩) SG.length rc) ∧ w'.cell? ⟨rb, 12, none⟩ = some (.slice (some ⟨qa, 0, none⟩) SG.length qc) ∧ w'.cell? ⟨rb, 13, none⟩ = some (.slice wa G.length wc) ∧ w'.cell? ⟨wr.heap.size, 0, none⟩ = some (.int .i64 x1) ∧ w'.cell? ⟨wr.heap.size, 1, none⟩ = some (.int .i64 (t : Int))) (by kernel_rfl) ?_ (fun hHeld => ?_)
      ·(try dsimp only)
       exact ⟨hr1.atZ 0 (by decide), hr1.atZ 1 (by decide), hr1.atZ 2 (by decide), hr1.atZ 3 (by decide), hr1.atZ 4 (by decide), hr1.atZ 5 (by decide), hr1.atZ 6 (by decide), hr1.atZ 7 (by decide), hr1.atZ 8 (by decide), hr1.atZ 9 (by decide), hr1.atZ 10 (by decide), hr1.atZ 11 (by decide), hr1.atZ 12 (by decide), hr1.atZ 13 (by decide), M6.2.1 0, M6.2.1 1⟩
      refine tkY 0 ?_; refine tkY 1 ?_; refine tkY 2 ?_; refine tkY 3 ?_; refine tkY 4 ?_; refine wpAnyH_ready (rs := [5]) (by kernel_rfl) (by simp) ?_; refine AllReadyH.cons (o := ⟨some 19, .call { callee := Callee.value (.func 42), args := #[.tmp 17, .tmp 18], argTypes := #[82, 102] }, 4, "finding.go:84", #[⟨3, .data⟩, ⟨4, .data⟩], none⟩) rfl (fun K hK => ?_) AllReadyH.nil
      go_simp
      go_at_call 42
      (with_reducible refine Calls.mono (k42 _ (Below.refl _ _).drew) ?_)
      rintro e w5 ⟨rfl, h5⟩; have h5' : Below (wr.alloc (.cells #[.int .i64 x1, .int .i64 (t : Int)] 102)).heap.size (wr.alloc (.cells #[.int .i64 x1, .int .i64 (t : Int)] 102)) w5 := (Below.refl _ (wr.alloc (.cells #[.int .i64 x1, .int .i64 (t : Int)] 102))).drew.trans h5
      go_wp2_with fail
      refine hK.out _ _ ?_ (fun hHeld => ?_)
      ·(try dsimp only)
       obtain ⟨y0, y1, y2, y3, y4, y5, y6, y7, y8, y9, y10, y11, y12, y13, y14, y15⟩ := hHeld; exact ⟨(h5.cell (p := ⟨rb, _, none⟩) (cell_ltF y0)).trans y0, (h5.cell (p := ⟨rb, _, none⟩) (cell_ltF y1)).trans y1, (h5.cell (p := ⟨rb, _, none⟩) (cell_ltF y2)).trans y2, (h5.cell (p := ⟨rb, _, none⟩) (cell_ltF y3)).trans y3, (h5.cell (p := ⟨rb, _, none⟩) (cell_ltF y4)).trans y4, (h5.cell (p := ⟨rb, _, none⟩) (cell_ltF y5)).trans y5, (h5.cell (p := ⟨rb, _, none⟩) (cell_ltF y6)).trans y6, (h5.cell (p := ⟨rb, _, none⟩) (cell_ltF y7)).trans y7, (h5.cell (p := ⟨rb, _, none⟩) (cell_ltF y8)).trans y8, (h5.cell (p := ⟨rb, _, none⟩) (cell_ltF y9)).trans y9, (h5.cell (p := ⟨rb, _, none⟩) (cell_ltF y10)).trans y10, (h5.cell (p := ⟨rb, _, none⟩) (cell_ltF y11)).trans y11, (h5.cell (p := ⟨rb, _, none⟩) (cell_ltF y12)).trans y12, (h5.cell (p := ⟨rb, _, none⟩) (cell_ltF y13)).trans y13, (h5.cell (p := ⟨wr.heap.size, _, none⟩) (cell_ltF y14)).trans y14, (h5.cell (p := ⟨wr.heap.size, _, none⟩) (cell_ltF y15)).trans y15⟩
      clear hK K
      (try simp only [Act.put, List.setIfInBounds_toArray, List.set_cons_zero, List.set_cons_succ])
      refine tkY 6 ?_; refine tkY 7 ?_; refine tkY 8 ?_; refine tkY 9 ?_; refine tkY 10 ?_; refine tkY 11 ?_; refine tkY 12 ?_; refine wpAnyH_ready (rs := [13]) (by kernel_rfl) (by simp) ?_; refine AllReadyH.cons (o := ⟨some 27, .call { callee := Callee.value (.func 43), args := #[.tmp 25, .tmp 26], argTypes := #[82, 102] }, 3, "finding.go:84", #[⟨11, .data⟩, ⟨12, .data⟩, ⟨7, .chain⟩, ⟨7, .guard⟩], some (7, true)⟩) rfl (fun K hK => ?_) AllReadyH.nil
      go_simp
      go_at_call 43
      (with_reducible refine Calls.mono (k43 _ h5') ?_)
      rintro e w7 ⟨rfl, h7⟩; have h7' : Below (wr.alloc (.cells #[.int .i64 x1, .int .i64 (t : Int)] 102)).heap.size (wr.alloc (.cells #[.int .i64 x1, .int .i64 (t : Int)] 102)) w7 := h5'.trans (h7.mono h5'.size)
      go_wp2_with fail
      refine hK.out _ _ ?_ (fun hHeld => ?_)
      ·(try dsimp only)
       obtain ⟨y0, y1, y2, y3, y4, y5, y6, y7, y8, y9, y10, y11, y12, y13, y14, y15⟩ := hHeld; exact ⟨(h7.cell (p := ⟨rb, _, none⟩) (cell_ltF y0)).trans y0, (h7.cell (p := ⟨rb, _, none⟩) (cell_ltF y1)).trans y1, (h7.cell (p := ⟨rb, _, none⟩) (cell_ltF y2)).trans y2, (h7.cell (p := ⟨rb, _, none⟩) (cell_ltF y3)).trans y3, (h7.cell (p := ⟨rb, _, none⟩) (cell_ltF y4)).trans y4, (h7.cell (p := ⟨rb, _, none⟩) (cell_ltF y5)).trans y5, (h7.cell (p := ⟨rb, _, none⟩) (cell_ltF y6)).trans y6, (h7.cell (p := ⟨rb, _, none⟩) (cell_ltF y7)).trans y7, (h7.cell (p := ⟨rb, _, none⟩) (cell_ltF y8)).trans y8, (h7.cell (p := ⟨rb, _, none⟩) (cell_ltF y9)).trans y9, (h7.cell (p := ⟨rb, _, none⟩) (cell_ltF y10)).trans y10, (h7.cell (p := ⟨rb, _, none⟩) (cell_ltF y11)).trans y11, (h7.cell (p := ⟨rb, _, none⟩) (cell_ltF y12)).trans y12, (h7.cell (p := ⟨rb, _, none⟩) (cell_ltF y13)).trans y13, (h7.cell (p := ⟨wr.heap.size, _, none⟩) (cell_ltF y14)).trans y14, (h7.cell (p := ⟨wr.heap.size, _, none⟩) (cell_ltF y15)).trans y15⟩
      clear hK K
      (try simp only [Act.put, List.setIfInBounds_toArray, List.set_cons_zero, List.set_cons_succ])
      refine tkY 14 ?_; refine tkY 15 ?_; refine wpAnyH_done (by kernel_rfl) ?_ _; refine NoPanic.normal ?_; have hr7 := hr1.below h7'; have M7 := M6.below h7'; have hM7 := hMk h7'; obtain ⟨_, m7, _⟩ := id M7
      go_wp2_with (go_at_call 63; (with_reducible refine Calls.mono (tell_any w _ rb _ _ _ F0 67 x1 (-1) (t : Int) hr7) ?_); rintro e w9 ⟨rfl, fa9, fc9, hr9, ts9⟩)
      have hM9 : gm < w9.heap.size ∧ ∀ (k : Nat) (hk : k < A.length) (j : Nat) (u : Value), (mvC A[k])[j]? = some u → w9.cell? ⟨gm, k * 2 + j, none⟩ = some u := ⟨Nat.lt_of_lt_of_le hM7.1 ts9.only.size, fun k hk j u hu => by
       have e := ts9.only.block gm hM7.1 (by rintro (e | e); exact hrg e; exact hn0 _ e rfl); have := hM7.2 k hk j u hu; unfold World.cell? at this ⊢; rw [e]; exact this⟩
      have hn9 := ts9.far hn0 (fun q hq2 => by have := hM7.1; omega); go_roundw
      case rel => exact ⟨k + 1, fa9, fc9, _, by omega, by go_num, hq, hr9, hn9, hM9⟩
      case measure => simp [intOf]; omega
     case neg =>
      rw [if_neg hlp, addL_nil] at hq; refine wp_region_noPanic ?_; refine wp_region_held_drew (S := fun w' => w'.cell? ⟨rb, 0, none⟩ = some (.string pn) ∧ w'.cell? ⟨rb, 1, none⟩ = some (.slice ga G.length gc) ∧ w'.cell? ⟨rb, 2, none⟩ = some (.slice ca C.length cc) ∧ w'.cell? ⟨rb, 3, none⟩ = some (.slice da D.length dc) ∧ w'.cell? ⟨rb, 4, none⟩ = some (.slice ta TM.length tc) ∧ w'.cell? ⟨rb, 5, none⟩ = some (.slice ka CT.length kc) ∧ w'.cell? ⟨rb, 6, none⟩ = some (.slice va VR.length vc) ∧ w'.cell? ⟨rb, 7, none⟩ = some (.slice sa SG.length sc) ∧ w'.cell? ⟨rb, 8, none⟩ = some (.int .i64 (st : Int)) ∧ w'.cell? ⟨rb, 9, none⟩ = some (.slice ga G.length gc) ∧ w'.cell? ⟨rb, 10, none⟩ = some (.map (some mb)) ∧ w'.cell? ⟨rb, 11, none⟩ = some (.slice (some ⟨ra, 0, none⟩) SG.length rc) ∧ w'.cell? ⟨rb, 12, none⟩ = some (.slice (some ⟨qa, 0, none⟩) SG.length qc) ∧ w'.cell? ⟨rb, 13, none⟩ = some (.slice wa G.length wc) ∧ w'.cell? ⟨wr.heap.size, 0, none⟩ = some (.int .i64 x1) ∧ w'.cell? ⟨wr.heap.size, 1, none⟩ = some (.int .i64 (t : Int))) (by kernel_rfl) ?_ (fun hHeld => ?_)
      ·(try dsimp only)
       exact ⟨hr1.atZ 0 (by decide), hr1.atZ 1 (by decide), hr1.atZ 2 (by decide), hr1.atZ 3 (by decide), hr1.atZ 4 (by decide), hr1.atZ 5 (by decide), hr1.atZ 6 (by decide), hr1.atZ 7 (by decide), hr1.atZ 8 (by decide), hr1.atZ 9 (by decide), hr1.atZ 10 (by decide), hr1.atZ 11 (by decide), hr1.atZ 12 (by decide), hr1.atZ 13 (by decide), M6.2.1 0, M6.2.1 1⟩
      refine tkY 0 ?_; refine tkY 1 ?_; refine tkY 2 ?_; refine tkY 3 ?_; refine tkY 4 ?_; refine wpAnyH_ready (rs := [5]) (by kernel_rfl) (by simp) ?_; refine AllReadyH.cons (o := ⟨some 19, .call { callee := Callee.value (.func 42), args := #[.tmp 17, .tmp 18], argTypes := #[82, 102] }, 4, "finding.go:84", #[⟨3, .data⟩, ⟨4, .data⟩], none⟩) rfl (fun K hK => ?_) AllReadyH.nil
      go_simp
      go_at_call 42
      (with_reducible refine Calls.mono (k42 _ (Below.refl _ _).drew) ?_)
      rintro e w5 ⟨rfl, h5⟩; have h5' : Below (wr.alloc (.cells #[.int .i64 x1, .int .i64 (t : Int)] 102)).heap.size (wr.alloc (.cells #[.int .i64 x1, .int .i64 (t : Int)] 102)) w5 := (Below.refl _ (wr.alloc (.cells #[.int .i64 x1, .int .i64 (t : Int)] 102))).drew.trans h5
      go_wp2_with fail
      refine hK.out _ _ ?_ (fun hHeld => ?_)
      ·(try dsimp only)
       obtain ⟨y0, y1, y2, y3, y4, y5, y6, y7, y8, y9, y10, y11, y12, y13, y14, y15⟩ := hHeld; exact ⟨(h5.cell (p := ⟨rb, _, none⟩) (cell_ltF y0)).trans y0, (h5.cell (p := ⟨rb, _, none⟩) (cell_ltF y1)).trans y1, (h5.cell (p := ⟨rb, _, none⟩) (cell_ltF y2)).trans y2, (h5.cell (p := ⟨rb, _, none⟩) (cell_ltF y3)).trans y3, (h5.cell (p := ⟨rb, _, none⟩) (cell_ltF y4)).trans y4, (h5.cell (p := ⟨rb, _, none⟩) (cell_ltF y5)).trans y5, (h5.cell (p := ⟨rb, _, none⟩) (cell_ltF y6)).trans y6, (h5.cell (p := ⟨rb, _, none⟩) (cell_ltF y7)).trans y7, (h5.cell (p := ⟨rb, _, none⟩) (cell_ltF y8)).trans y8, (h5.cell (p := ⟨rb, _, none⟩) (cell_ltF y9)).trans y9, (h5.cell (p := ⟨rb, _, none⟩) (cell_ltF y10)).trans y10, (h5.cell (p := ⟨rb, _, none⟩) (cell_ltF y11)).trans y11, (h5.cell (p := ⟨rb, _, none⟩) (cell_ltF y12)).trans y12, (h5.cell (p := ⟨rb, _, none⟩) (cell_ltF y13)).trans y13, (h5.cell (p := ⟨wr.heap.size, _, none⟩) (cell_ltF y14)).trans y14, (h5.cell (p := ⟨wr.heap.size, _, none⟩) (cell_ltF y15)).trans y15⟩
      clear hK K
      (try simp only [Act.put, List.setIfInBounds_toArray, List.set_cons_zero, List.set_cons_succ])
      refine tkY 6 ?_; refine tkY 7 ?_; refine tkY 8 ?_; refine tkY 9 ?_; refine tkY 10 ?_; refine tkY 11 ?_; refine tkY 12 ?_; refine wpAnyH_ready (rs := [13]) (by kernel_rfl) (by simp) ?_; refine AllReadyH.cons (o := ⟨some 27, .call { callee := Callee.value (.func 43), args := #[.tmp 25, .tmp 26], argTypes := #[82, 102] }, 3, "finding.go:84", #[⟨11, .data⟩, ⟨12, .data⟩, ⟨7, .chain⟩, ⟨7, .guard⟩], some (7, true)⟩) rfl (fun K hK => ?_) AllReadyH.nil
      go_simp
      go_at_call 43
      (with_reducible refine Calls.mono (k43 _ h5') ?_)
      rintro e w7 ⟨rfl, h7⟩; have h7' : Below (wr.alloc (.cells #[.int .i64 x1, .int .i64 (t : Int)] 102)).heap.size (wr.alloc (.cells #[.int .i64 x1, .int .i64 (t : Int)] 102)) w7 := h5'.trans (h7.mono h5'.size)
      go_wp2_with fail
      refine hK.out _ _ ?_ (fun hHeld => ?_)
      ·(try dsimp only)
       obtain ⟨y0, y1, y2, y3, y4, y5, y6, y7, y8, y9, y10, y11, y12, y13, y14, y15⟩ := hHeld; exact ⟨(h7.cell (p := ⟨rb, _, none⟩) (cell_ltF y0)).trans y0, (h7.cell (p := ⟨rb, _, none⟩) (cell_ltF y1)).trans y1, (h7.cell (p := ⟨rb, _, none⟩) (cell_ltF y2)).trans y2, (h7.cell (p := ⟨rb, _, none⟩) (cell_ltF y3)).trans y3, (h7.cell (p := ⟨rb, _, none⟩) (cell_ltF y4)).trans y4, (h7.cell (p := ⟨rb, _, none⟩) (cell_ltF y5)).trans y5, (h7.cell (p := ⟨rb, _, none⟩) (cell_ltF y6)).trans y6, (h7.cell (p := ⟨rb, _, none⟩) (cell_ltF y7)).trans y7, (h7.cell (p := ⟨rb, _, none⟩) (cell_ltF y8)).trans y8, (h7.cell (p := ⟨rb, _, none⟩) (cell_ltF y9)).trans y9, (h7.cell (p := ⟨rb, _, none⟩) (cell_ltF y10)).trans y10, (h7.cell (p := ⟨rb, _, none⟩) (cell_ltF y11)).trans y11, (h7.cell (p := ⟨rb, _, none⟩) (cell_ltF y12)).trans y12, (h7.cell (p := ⟨rb, _, none⟩) (cell_ltF y13)).trans y13, (h7.cell (p := ⟨wr.heap.size, _, none⟩) (cell_ltF y14)).trans y14, (h7.cell (p := ⟨wr.heap.size, _, none⟩) (cell_ltF y15)).trans y15⟩
      clear hK K
      (try simp only [Act.put, List.setIfInBounds_toArray, List.set_cons_zero, List.set_cons_succ])
      refine tkY 14 ?_; refine tkY 15 ?_; refine wpAnyH_done (by kernel_rfl) ?_ _; refine NoPanic.normal ?_; have hr7 := hr1.below h7'; have hM7 := hMk h7'
      go_wp2_with fail
      go_roundw
      case rel => exact ⟨k + 1, fa0, fc0, F0, by omega, by go_num, hq, hr7, hn0, hM7⟩
      case measure => simp [intOf]; omega
end Go.Proofs.YtjfieclmagbfbaaGreatDoor
