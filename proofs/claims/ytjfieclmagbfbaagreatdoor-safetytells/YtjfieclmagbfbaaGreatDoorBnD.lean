import Derived.Test.YtjfieclmagbfbaaGreatDoorBnP
set_option linter.unusedVariables false
set_option maxRecDepth 100000
set_option maxHeartbeats 8000000
namespace Go.Proofs.YtjfieclmagbfbaaGreatDoor
open Go.RowKit
def gOf (SG : List Ts) (x : Int) : Nat := if x = -1 then 0 else ((SG[x.toNat]?).map (fun s => s.green.toNat)).getD 0
def bnF (Q : List Bool) (lp : Int → Int → Int) : List (Int × Int) → Int → Int × Int
 | [], b => (b, 0)
 | x :: L, b => if ckM Q x.1 x.2.toNat = true then (0, 60) else bnF Q lp L (max b (lp x.1 x.2))
theorem bnF_drop (Q : List Bool) (lp : Int → Int → Int) (L : List (Int × Int)) (k : Nat) (b : Int) (h : k < L.length) : bnF Q lp (L.drop k) b = if ckM Q L[k].1 L[k].2.toNat = true then (0, 60) else bnF Q lp (L.drop (k + 1)) (max b (lp L[k].1 L[k].2)) := by
 rw [List.drop_eq_getElem_cons h]; rfl
theorem bnF_end (Q : List Bool) (lp : Int → Int → Int) (L : List (Int × Int)) (k : Nat) (b : Int) (h : L.length ≤ k) : bnF Q lp (L.drop k) b = (b, 0) := by
 rw [List.drop_eq_nil_of_le h]; rfl
theorem gOf_nat (SG : List Ts) (k : Nat) (h : k < SG.length) (h0 : 0 ≤ SG[k].green) : SG[k].green = ((gOf SG (k : Int) : Nat) : Int) := by
 unfold gOf
 rw [if_neg (by omega), Int.toNat_natCast, List.getElem?_eq_getElem h]
 simp; omega
theorem gOf_lt {SG : List Ts} (h : ∀ s ∈ SG, 0 ≤ s.green ∧ s.green < 18446744073709551616) (x : Int) : gOf SG x < 18446744073709551616 := by
 unfold gOf
 split
 ·omega
 ·cases h2 : SG[x.toNat]? with
  | none => simp
  | some s => have := h s (List.mem_of_getElem? h2); simp; omega
def MvOk (n : Nat) (x : Int × Int) : Prop := (x.1 = -1 ∨ ∃ k : Nat, x.1 = (k : Int) ∧ k < n) ∧ ∃ t : Nat, x.2 = (t : Int) ∧ t < n
theorem mvsF_ok (R : List Bool) (n : Nat) : ∀ (L : List Ts) (k : Nat), k + L.length ≤ n → (∀ s ∈ L, ∀ x ∈ s.nexts, 0 ≤ x.dst ∧ x.dst < (n : Int)) → ∀ y ∈ mvsF R k L, MvOk n y
 | [], _, _, _, y, hy => by simp [mvsF] at hy
 | s :: L, k, hk, hd, y, hy => by
   simp only [List.length_cons] at hk; unfold mvsF at hy; rcases List.mem_append.1 hy with h | h
   ·split at h
    ·unfold mvS at h
     obtain ⟨x, hx, rfl⟩ := List.mem_map.1 h; obtain ⟨d1, d2⟩ := hd s (List.mem_cons_self) x hx; exact ⟨.inr ⟨k, rfl, by omega⟩, x.dst.toNat, by simp; omega, by omega⟩
    ·simp at h
   ·exact mvsF_ok R n L (k + 1) (by omega) (fun s hs => hd s (List.mem_cons_of_mem _ hs)) y h
theorem mvsL_ok {R : List Bool} {SG : List Ts} {st : Nat} (hd : Ways SG) (h : st < SG.length) : ∀ y ∈ mvsL R SG (st : Int), MvOk SG.length y := by
 intro y hy
 unfold mvsL at hy
 rcases List.mem_cons.1 hy with rfl | h2
 ·exact ⟨.inl rfl, st, rfl, h⟩
 ·exact mvsF_ok R SG.length SG 0 (by omega) (fun s hs x hx => hd s hs x hx) y h2
theorem sd_more {G : List Gp} {C : List Cf} {D : List Dt} {TM CT : List ByteArray} {VR : List Vr} {SG : List Ts} {pn : ByteArray} {stt : Int} (h : sdB G C D TM CT VR SG pn stt = true) : gridB G C = true ∧ cgN SG ≤ 4096 := by
 unfold sdB at h
 simp only [Bool.and_eq_true] at h
 refine ⟨h.1, ?_⟩
 have h2 := h.2.1
 unfold ctB at h2
 simp only [Bool.and_eq_true, decide_eq_true_eq] at h2
 omega
def wsA (G : List Gp) (C : List Cf) (i : Nat) : Int := wA C (2 ^ min G.length 64 - 1) (i : Int) G 0 0
def lpA (G : List Gp) (C : List Cf) (SG : List Ts) (x y : Int) : Int := thF (gOf SG x) (gOf SG y) (wsA G C) G 0 0
def BoP (ok : Bool) (G : List Gp) (C : List Cf) (SG : List Ts) (stt : Int) (w : World) (e : Ending) (w' : World) : Prop :=
 if ok then ∃ R : List Bool, RI (waysL SG).length stt.toNat (goN (waysL SG)) R [] ∧ e = .returned (.tuple #[.int .i64 (bnF (ckL G.length C SG) (lpA G C SG) (mvsL R SG stt) 0).1, .int .i64 (bnF (ckL G.length C SG) (lpA G C SG) (mvsL R SG stt) 0).2]) ∧ Below w.heap.size w w'
 else e = .returned (.tuple #[.int .i64 0, .int .i64 80]) ∧ Below w.heap.size w w'
theorem bound_any (G : List Gp) (C : List Cf) (D : List Dt) (TM CT : List ByteArray) (VR : List Vr) (SG : List Ts) (pn : ByteArray) (ga ca da ta ka va sa : Option Addr) (gc cc dc tc kc vc sc : Nat) (stt : Int) (w : World) (h : TPl w G C D TM CT VR SG pn ga ca da ta ka va sa gc cc dc tc kc vc sc stt) (hW : Wt w) (ok : ∀ (i : Nat) (h : i < C.length), C[i].ok) (hgr : ∀ s ∈ SG, 0 ≤ s.green ∧ s.green < 18446744073709551616) :
  Calls Tryz.prog 14 #[(.agg #[.string pn, .slice ga G.length gc, .slice ca C.length cc, .slice da D.length dc, .slice ta TM.length tc, .slice ka CT.length kc, .slice va VR.length vc, .slice sa SG.length sc, .int .i64 stt])] w fun e w' => BoP (sdB G C D TM CT VR SG pn stt) G C SG stt w e w' := by
 have hb0 : Below w.heap.size w (w.alloc (.cells #[.string pn, .slice ga G.length gc, .slice ca C.length cc, .slice da D.length dc, .slice ta TM.length tc, .slice ka CT.length kc, .slice va VR.length vc, .slice sa SG.length sc, .int .i64 stt] 31)) := bel1 _
 have K0 : Has (w.alloc (.cells #[.string pn, .slice ga G.length gc, .slice ca C.length cc, .slice da D.length dc, .slice ta TM.length tc, .slice ka CT.length kc, .slice va VR.length vc, .slice sa SG.length sc, .int .i64 stt] 31)) w.heap.size #[.string pn, .slice ga G.length gc, .slice ca C.length cc, .slice da D.length dc, .slice ta TM.length tc, .slice ka CT.length kc, .slice va VR.length vc, .slice sa SG.length sc, .int .i64 stt] := Has.new _ _ _ rfl
 have k7 := sound_any G C D TM CT VR SG pn ga ca da ta ka va sa gc cc dc tc kc vc sc stt (w.alloc (.cells #[.string pn, .slice ga G.length gc, .slice ca C.length cc, .slice da D.length dc, .slice ta TM.length tc, .slice ka CT.length kc, .slice va VR.length vc, .slice sa SG.length sc, .int .i64 stt] 31)) (h.below hb0) (hW.be hb0)
 have hw2 := @sd_ways G C D TM CT VR SG pn stt
 have hw3 := @sd_more G C D TM CT VR SG pn stt
 have hGG := h.hG
 have hFF := h.hF
 have hSS := h.hS
 have lG := h.lG
 have lC := h.lF
 clear h
 generalize sdB G C D TM CT VR SG pn stt = B at *
 obtain ⟨_, v1, v2⟩ := id K0
 go_enter Tryz.func14, Tryz.ntmps14
 go_wp2_with fail
 go_at_call 20
 refine Calls.mono k7 ?_
 rintro e w1 ⟨rfl, h1⟩
 have hb1 := bel_after hb0 hb0.size h1
 have K1 := K0.below h1
 clear v1 v2 k7
 obtain ⟨_, v1, v2⟩ := id K1
 cases B with
 | false =>
   clear hw2 hw3 hSS
   go_wp2_with fail
   go_ret2
   exact ⟨rfl, hb1⟩
 | true =>
   obtain ⟨l1, l2, l3, l4⟩ := hw2 rfl; obtain ⟨gr, lcg⟩ := hw3 rfl; obtain ⟨st, rfl⟩ : ∃ st : Nat, stt = (st : Int) := ⟨stt.toNat, by omega⟩; have hst : st < SG.length := by omega
   have k54 := planOf_any G C D TM CT VR SG pn ga ca da ta ka va sa gc cc dc tc kc vc sc st w1 (hGG.below hb1) (hFF.below hb1) (Tss.below hSS hb1) lG lC ok gr l1 l2 hst hgr; clear hw2 hw3 K0 hb0 ok
   go_wp2_with fail
   go_at_call 21; refine Calls.mono k54 ?_; rintro e w2 ⟨mb, ra, qa, wc, wa, R, rfl, hRI, hBR, hBQ, hWs, hOm, h2⟩; have hb2 := bel_after hb1 hb1.size h2; have hb3 : Below w.heap.size w (w2.alloc (.cells #[.string pn, .slice ga G.length gc, .slice ca C.length cc, .slice da D.length dc, .slice ta TM.length tc, .slice ka CT.length kc, .slice va VR.length vc, .slice sa SG.length sc, .int .i64 (st : Int), .slice ga G.length gc, .map (some mb), .slice (some ⟨ra, 0, none⟩) SG.length SG.length, .slice (some ⟨qa, 0, none⟩) SG.length SG.length, .slice wa G.length wc] 82)) := hb2.alloc hb2.size _; have P3 : Has (w2.alloc (.cells #[.string pn, .slice ga G.length gc, .slice ca C.length cc, .slice da D.length dc, .slice ta TM.length tc, .slice ka CT.length kc, .slice va VR.length vc, .slice sa SG.length sc, .int .i64 (st : Int), .slice ga G.length gc, .map (some mb), .slice (some ⟨ra, 0, none⟩) SG.length SG.length, .slice (some ⟨qa, 0, none⟩) SG.length SG.length, .slice wa G.length wc] 82)) w2.heap.size #[.string pn, .slice ga G.length gc, .slice ca C.length cc, .slice da D.length dc, .slice ta TM.length tc, .slice ka CT.length kc, .slice va VR.length vc, .slice sa SG.length sc, .int .i64 (st : Int), .slice ga G.length gc, .map (some mb), .slice (some ⟨ra, 0, none⟩) SG.length SG.length, .slice (some ⟨qa, 0, none⟩) SG.length SG.length, .slice wa G.length wc] := Has.new _ _ _ rfl; have hba : Below w2.heap.size w2 (w2.alloc (.cells #[.string pn, .slice ga G.length gc, .slice ca C.length cc, .slice da D.length dc, .slice ta TM.length tc, .slice ka CT.length kc, .slice va VR.length vc, .slice sa SG.length sc, .int .i64 (st : Int), .slice ga G.length gc, .map (some mb), .slice (some ⟨ra, 0, none⟩) SG.length SG.length, .slice (some ⟨qa, 0, none⟩) SG.length SG.length, .slice wa G.length wc] 82)) := bel1 _; obtain ⟨_, p1, _⟩ := id P3; have k55 := moves_any G C D TM CT VR SG pn ga ca da ta ka va sa wa gc cc dc tc kc vc sc mb ra SG.length qa SG.length wc (st : Int) R (w2.alloc (.cells #[.string pn, .slice ga G.length gc, .slice ca C.length cc, .slice da D.length dc, .slice ta TM.length tc, .slice ka CT.length kc, .slice va VR.length vc, .slice sa SG.length sc, .int .i64 (st : Int), .slice ga G.length gc, .map (some mb), .slice (some ⟨ra, 0, none⟩) SG.length SG.length, .slice (some ⟨qa, 0, none⟩) SG.length SG.length, .slice wa G.length wc] 82)) (Tss.below hSS hb3) (hBR.below hba) l1 lcg; clear k54 v1 v2 K1
   go_wp2_with fail
   go_at_call 41; refine Calls.mono k55 ?_; rintro e w3 ⟨gm, cm, rfl, oM, h3⟩; have hok := mvsL_ok (R := R) l2 hst; have hb4 := bel_after hb3 hb3.size h3; have P4 := P3.below h3; have hw4 : Below w2.heap.size w2 w3 := bel_after hba hba.size h3; have hgmO := own_lt oM gm rfl; have hMc : ∀ (k : Nat) (hk : k < (mvsL R SG (st : Int)).length) (j : Nat) (u : Value), (mvC (mvsL R SG (st : Int))[k])[j]? = some u → w3.cell? ⟨gm, k * 2 + j, none⟩ = some u := fun k hk j u hu => by
    obtain ⟨hj, -⟩ := List.getElem?_eq_some_iff.1 hu; have hj2 : j < 2 := hj; exact (oM.cellAt (k * 2 + j) (by omega)).trans ((cellsF_get mvC_len _ k j hk hj2).trans hu)
   have mins := fun (k : Nat) (hk : k < G.length) => (grid_min gr k hk).2.2
   have hgl := gOf_lt hgr; have hAl : (mvsL R SG (st : Int)).length ≤ 4097 := by have := mvsF_len R SG 0; simp [mvsL]; omega
   generalize hA : mvsL R SG (st : Int) = A at *; generalize hZ : bnF (ckL G.length C SG) (lpA G C SG) A 0 = Z at *; obtain ⟨_, p1, _⟩ := id P4; clear k55 oM
   go_wp2_with fail
   clear p1
   go_loopw [5, 16] (fun u t wr => ∃ (k : Nat) (b : Int), k ≤ A.length ∧ u = .int .i64 b ∧ t = .int .i64 (k : Int) ∧ Hid (bnF (ckL G.length C SG) (lpA G C SG) (A.drop k) b = Z) ∧ Hid (Below w3.heap.size w3 wr)) (fun _ t _ => A.length - (intOf t).toNat)
   case atStart => exact ⟨0, 0, by omega, rfl, rfl, hZ, Below.refl _ _⟩
   case round =>
    obtain ⟨k, b, hk, rfl, rfl, hq', hb'⟩ := hrel; have hq := hq'.out; have hb := hb'.out; clear hq' hb'; have hbB := bel_after hb4 hb4.size hb; have Pk := P4.below hb; have hw5 : Below w2.heap.size w2 wr := bel_after hw4 hw4.size hb
    by_cases hlt : k < A.length
    case neg =>
     have t1 : ¬ (k : Int) < (A.length : Int) := by omega
     rw [bnF_end _ _ _ _ _ (by omega)] at hq; subst hq
     go_wp2_with fail
     go_ret2
     exact ⟨R, by rw [Int.toNat_natCast]; exact hRI, by rw [hA, hZ]; rfl, hbB⟩
    case pos =>
     have t1 : (k : Int) < (A.length : Int) := by omega
     have t0 : (0 : Int) ≤ (k : Int) := by omega
     have p0 := (hb.cell (p := ⟨gm, _, none⟩) hgmO.2).trans (hMc k hlt 0 _ rfl); have p1 := (hb.cell (p := ⟨gm, _, none⟩) hgmO.2).trans (hMc k hlt 1 _ rfl); simp only [Nat.add_zero] at p0; obtain ⟨hx1, t, hx2, ht⟩ := hok _ (List.getElem_mem hlt); rw [bnF_drop _ _ A k b hlt, hx2, Int.toNat_natCast] at hq; rw [hx2] at p1; generalize A[k].1 = x1 at *; clear hMc hok hx2; have hb6 := hb.alloc hb.size (.cells #[.int .i64 x1, .int .i64 (t : Int)] 102); have hbB6 := hbB.alloc hbB.size (.cells #[.int .i64 x1, .int .i64 (t : Int)] 102); have hw6 := hw5.alloc hw5.size (.cells #[.int .i64 x1, .int .i64 (t : Int)] 102); have Pk6 := Pk.alloc (.cells #[.int .i64 x1, .int .i64 (t : Int)] 102); have M6 : Has (wr.alloc (.cells #[.int .i64 x1, .int .i64 (t : Int)] 102)) wr.heap.size #[.int .i64 x1, .int .i64 (t : Int)] := Has.new _ _ _ rfl; have k56 := clashes_any G C D TM CT VR SG pn ga ca da ta ka va sa wa gc cc dc tc kc vc sc mb ra SG.length qa SG.length wc (st : Int) (ckL G.length C SG) x1 t (wr.alloc (.cells #[.int .i64 x1, .int .i64 (t : Int)] 102)) (hBQ.below hw6) ht hx1; obtain ⟨_, b1, _⟩ := id Pk6; obtain ⟨_, m1, _⟩ := id M6; generalize ckM (ckL G.length C SG) x1 t = ck at *
     go_wp2_with fail
     go_at_call 42; refine Calls.mono k56 ?_; rintro e w5 ⟨rfl, h5⟩; have hb7 := bel_after hb6 hb6.size h5; have hbB7 := bel_after hbB6 hbB6.size h5; have hw7 := bel_after hw6 hw6.size h5; have Pk7 := Pk6.below h5; have M7 := M6.below h5; clear b1 m1 k56 hb hbB hw5 hb6 hbB6 hw6
     cases ck with
     | true =>
       simp only [if_true] at hq; subst hq
       go_wp2_with fail
       go_ret2
       exact ⟨R, by rw [Int.toNat_natCast]; exact hRI, by rw [hA, hZ]; rfl, hbB7⟩
     | false =>
       simp only [Bool.false_eq_true, if_false] at hq; obtain ⟨_, b1, _⟩ := id Pk7; obtain ⟨_, m1, _⟩ := id M7; have k57 := longest_any G C D TM CT VR SG pn ga ca da ta ka va sa wa gc cc dc tc kc vc sc mb ra SG.length qa SG.length wc (st : Int) (wsA G C) x1 t (gOf SG x1) (gOf SG (t : Int)) w5 (Tss.below hSS hbB7) (hgl _) (hgl _) (hGG.below hbB7) lG mins (by
        rcases hWs with h | ⟨gw, q1, q2, q3⟩
        ·exact .inl h
        ·exact .inr ⟨gw, q1, Nat.lt_of_lt_of_le q2 hw7.size, fun i hi => ⟨(hw7.cell (p := ⟨gw, _, none⟩) q2).trans (q3 i hi).1, (q3 i hi).2⟩⟩) ht (gOf_nat SG t ht (hgr _ (List.getElem_mem ht)).1) (by
        rcases hx1 with rfl | ⟨k1, rfl, hk1⟩
        ·exact .inl ⟨rfl, rfl⟩
        ·exact .inr ⟨k1, hk1, rfl, gOf_nat SG k1 hk1 (hgr _ (List.getElem_mem hk1)).1⟩)
       rw [show thF (gOf SG x1) (gOf SG (t : Int)) (wsA G C) G 0 0 = lpA G C SG x1 (t : Int) from rfl] at k57
       go_wp2_with fail
       go_at_call 43; refine Calls.mono k57 ?_; rintro e w6 ⟨rfl, h6⟩; have hb8 := bel_after hb7 hb7.size h6; clear k57 b1 m1
       go_wp2_with fail
       go_roundw
       case rel => exact ⟨k + 1, max b (lpA G C SG x1 (t : Int)), hlt, rfl, by go_num, hq, hb8⟩
       case measure => simp [intOf]; omega
end Go.Proofs.YtjfieclmagbfbaaGreatDoor
