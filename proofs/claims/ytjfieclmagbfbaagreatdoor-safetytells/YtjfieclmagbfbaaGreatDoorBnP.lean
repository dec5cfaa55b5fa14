import Derived.Test.YtjfieclmagbfbaaGreatDoorJBnL
import Derived.Test.YtjfieclmagbfbaaGreatDoorJCkA
import Derived.Test.YtjfieclmagbfbaaGreatDoorRcC
import Derived.Laws.IdiomCopy
set_option linter.unusedVariables false
set_option maxRecDepth 100000
set_option maxHeartbeats 8000000
namespace Go.Proofs.YtjfieclmagbfbaaGreatDoor
open Go.RowKit
theorem below_setCells {n : Nat} {w0 : World} (b : Nat) (hb : n ≤ b) : ∀ (vs : List Value) (o : Nat) (w : World), Below n w0 w → Below n w0 (w.setCells b o vs)
 | [], _, _, h => h
 | v :: r, o, w, h => below_setCells b hb r (o + 1) _ (h.setCell (p := ⟨b, o, none⟩) hb v)
theorem size_setCells (b : Nat) : ∀ (vs : List Value) (o : Nat) (w : World), (w.setCells b o vs).heap.size = w.heap.size
 | [], _, _ => rfl
 | v :: r, o, w => (size_setCells b r (o + 1) _).trans (by simp [World.setCell])
theorem cell_setCells_ne {w : World} {b g i o : Nat} {vs : List Value} (h : g ≠ b) : (w.setCells b o vs).cell? ⟨g, i, none⟩ = w.cell? ⟨g, i, none⟩ := World.cell?_setCells_out b vs o w _ (fun e _ => absurd e h)
theorem ownsMap_bel {P : Program} {k : TypeId} {R : Value → Option (DataW Unit × List MemPlace)} {w w' : World} {b n : Nat} {D : DataW Unit} (h : w.ownsMap P k R b n D) (hb : Below w.heap.size w w') : w'.ownsMap P k R b n D := by
 have hlt := h.lt
 obtain ⟨es, clock, hbl, F, hs, hD⟩ := h
 exact ⟨es, clock, (hb.block b hlt).trans hbl, F, hs, hD⟩
theorem ownsMap_keep {P : Program} {k : TypeId} {R : Value → Option (DataW Unit × List MemPlace)} {w : World} {b n c o : Nat} {D : DataW Unit} {vs : List Value} (h : w.ownsMap P k R b n D) (hb : b ≠ c) : (w.setCells c o vs).ownsMap P k R b n D := by
 have key : ∀ (vs : List Value) (o : Nat) (w : World), (w.setCells c o vs).heap[b]? = w.heap[b]? := by
  intro vs
  induction vs with
  | nil => intro o w; rfl
  | cons v r ih => intro o w; exact (ih (o + 1) _).trans (Below.heap_setCell _ _ _ _ hb)
 obtain ⟨es, clock, hbl, F, hs, hD⟩ := h
 exact ⟨es, clock, (key vs o w).trans hbl, F, hs, hD⟩
theorem Has.setCells {w : World} {b : Nat} {zs : Array Value} (h : Has w b zs) (vs : List Value) (hl : vs.length = zs.size) : Has (w.setCells b 0 vs) b vs.toArray := by
 have fr : ∀ (vs : List Value) (o : Nat) (w : World), (∀ i, w.frozen? ⟨b, i, none⟩ = false) → ∀ i, (w.setCells b o vs).frozen? ⟨b, i, none⟩ = false := by
  intro vs
  induction vs with
  | nil => intro o w h i; exact h i
  | cons v r ih => intro o w h i; exact ih (o + 1) _ (fun j => by rw [World.frozen?_setCell]; exact h j) i
 refine ⟨by rw [size_setCells]; exact h.1, fun i => ?_, fr vs 0 w h.2.2⟩
 by_cases hi : i < vs.length
 ·have := World.cell?_setCells_in b vs 0 w (fun j hj => by rw [Nat.zero_add, h.2.1 j, Array.getElem?_eq_getElem (by omega)]; rfl) i hi
  rw [Nat.zero_add] at this; rw [this]; simp [hi]
 ·rw [World.cell?_setCells_out b vs 0 w ⟨b, i, none⟩ (fun _ _ => Or.inr (by simpa using hi)), h.2.1 i, Array.getElem?_eq_none (by omega)]
  simp; omega
theorem BlR.setCells {w : World} {g n b o : Nat} {R : List Bool} {vs : List Value} (h : BlR w g n R) (hb : g ≠ b) : BlR (w.setCells b o vs) g n R :=
 ⟨by rw [size_setCells]; exact h.1, fun i hi => (cell_setCells_ne hb).trans (h.2 i hi)⟩
theorem planOf_any (G : List Gp) (C : List Cf) (D : List Dt) (TM CT : List ByteArray) (VR : List Vr) (SG : List Ts) (pn : ByteArray) (ga ca da ta ka va sa : Option Addr) (gc cc dc tc kc vc sc : Nat) (st : Nat) (w : World) (hG : Fl 5 Gp.cs w (.slice ga G.length gc) G) (hF : Fl 4 Cf.cs w (.slice ca C.length cc) C) (hS : Tss (fun _ => True) w (.slice sa SG.length sc) SG) (lG : G.length ≤ 2932031007317) (lC : C.length ≤ 4398046511000) (ok : ∀ (i : Nat) (h : i < C.length), C[i].ok) (gr : gridB G C = true) (lS : SG.length ≤ 256) (hd : Ways SG) (h1 : st < SG.length) (hgr : ∀ s ∈ SG, 0 ≤ s.green ∧ s.green < 18446744073709551616) :
  Calls Tryz.prog 21 #[(.agg #[.string pn, .slice ga G.length gc, .slice ca C.length cc, .slice da D.length dc, .slice ta TM.length tc, .slice ka CT.length kc, .slice va VR.length vc, .slice sa SG.length sc, .int .i64 (st : Int)])] w fun e w' => ∃ (mb ra qa wc : Nat) (wa : Option Addr) (R : List Bool), e = .returned (.agg #[.string pn, .slice ga G.length gc, .slice ca C.length cc, .slice da D.length dc, .slice ta TM.length tc, .slice ka CT.length kc, .slice va VR.length vc, .slice sa SG.length sc, .int .i64 (st : Int), .slice ga G.length gc, .map (some mb), .slice (some ⟨ra, 0, none⟩) SG.length SG.length, .slice (some ⟨qa, 0, none⟩) SG.length SG.length, .slice wa G.length wc]) ∧ RI (waysL SG).length st (goN (waysL SG)) R [] ∧ BlR w' ra SG.length R ∧ BlR w' qa SG.length (ckL G.length C SG) ∧ (G = [] ∨ ∃ gw, wa = some ⟨gw, 0, none⟩ ∧ gw < w'.heap.size ∧ ∀ i, i < G.length → w'.cell? ⟨gw, i, none⟩ = some (.int .i64 (wA C (2 ^ min G.length 64 - 1) (i : Int) G 0 0)) ∧ 0 ≤ wA C (2 ^ min G.length 64 - 1) (i : Int) G 0 0 ∧ wA C (2 ^ min G.length 64 - 1) (i : Int) G 0 0 ≤ 3600) ∧ w'.ownsMap (H := Unit) Tryz.prog 132 (plainElem Tryz.prog 3) mb (2 * C.length) (mD C C.length) ∧ Below w.heap.size w w' := by
 have hb0 : Below w.heap.size w ((w.alloc (.cells #[.string pn, .slice ga G.length gc, .slice ca C.length cc, .slice da D.length dc, .slice ta TM.length tc, .slice ka CT.length kc, .slice va VR.length vc, .slice sa SG.length sc, .int .i64 (st : Int)] 31)).alloc (.cells #[.string ⟨#[]⟩, .slice none 0 0, .slice none 0 0, .slice none 0 0, .slice none 0 0, .slice none 0 0, .slice none 0 0, .slice none 0 0, .int .i64 0, .slice none 0 0, .map none, .slice none 0 0, .slice none 0 0, .slice none 0 0] 82)) := ((Below.refl _ _).alloc (Nat.le_refl _) _).alloc (by simp) _
 have K0 : Has ((w.alloc (.cells #[.string pn, .slice ga G.length gc, .slice ca C.length cc, .slice da D.length dc, .slice ta TM.length tc, .slice ka CT.length kc, .slice va VR.length vc, .slice sa SG.length sc, .int .i64 (st : Int)] 31)).alloc (.cells #[.string ⟨#[]⟩, .slice none 0 0, .slice none 0 0, .slice none 0 0, .slice none 0 0, .slice none 0 0, .slice none 0 0, .slice none 0 0, .int .i64 0, .slice none 0 0, .map none, .slice none 0 0, .slice none 0 0, .slice none 0 0] 82)) w.heap.size #[.string pn, .slice ga G.length gc, .slice ca C.length cc, .slice da D.length dc, .slice ta TM.length tc, .slice ka CT.length kc, .slice va VR.length vc, .slice sa SG.length sc, .int .i64 (st : Int)] := (Has.new w #[.string pn, .slice ga G.length gc, .slice ca C.length cc, .slice da D.length dc, .slice ta TM.length tc, .slice ka CT.length kc, .slice va VR.length vc, .slice sa SG.length sc, .int .i64 (st : Int)] 31 rfl).alloc _
 have Z0 : Has ((w.alloc (.cells #[.string pn, .slice ga G.length gc, .slice ca C.length cc, .slice da D.length dc, .slice ta TM.length tc, .slice ka CT.length kc, .slice va VR.length vc, .slice sa SG.length sc, .int .i64 (st : Int)] 31)).alloc (.cells #[.string ⟨#[]⟩, .slice none 0 0, .slice none 0 0, .slice none 0 0, .slice none 0 0, .slice none 0 0, .slice none 0 0, .slice none 0 0, .int .i64 0, .slice none 0 0, .map none, .slice none 0 0, .slice none 0 0, .slice none 0 0] 82)) (w.heap.size + 1) #[.string ⟨#[]⟩, .slice none 0 0, .slice none 0 0, .slice none 0 0, .slice none 0 0, .slice none 0 0, .slice none 0 0, .slice none 0 0, .int .i64 0, .slice none 0 0, .map none, .slice none 0 0, .slice none 0 0, .slice none 0 0] := Has.new _ _ _ (by simp)
 have k88 := streetOf_any C (.slice ga G.length gc) (.slice ca C.length cc) ((w.alloc (.cells #[.string pn, .slice ga G.length gc, .slice ca C.length cc, .slice da D.length dc, .slice ta TM.length tc, .slice ka CT.length kc, .slice va VR.length vc, .slice sa SG.length sc, .int .i64 (st : Int)] 31)).alloc (.cells #[.string ⟨#[]⟩, .slice none 0 0, .slice none 0 0, .slice none 0 0, .slice none 0 0, .slice none 0 0, .slice none 0 0, .slice none 0 0, .int .i64 0, .slice none 0 0, .map none, .slice none 0 0, .slice none 0 0, .slice none 0 0] 82)) (hF.below hb0) lC ok ⟨_, _, _, rfl⟩
 have k52 := fun (X : World) (hX : Below w.heap.size w X) => reached_any G C D TM CT VR SG pn ga ca da ta ka va sa gc cc dc tc kc vc sc st X (Tss.below hS hX) lS hd h1
 have k89 := fun (X : World) (hX : Below w.heap.size w X) => clashing_any G C D TM CT VR SG pn ga ca da ta ka va sa gc cc dc tc kc vc sc (st : Int) X (hF.below hX) (Tss.below hS hX) lG lC ok lS hgr
 have k90 := fun (mb : Nat) (X : World) (hX : Below w.heap.size w X) (hm : X.ownsMap (H := Unit) Tryz.prog 132 (plainElem Tryz.prog 3) mb (2 * C.length) (mD C C.length)) => waitsFor_any G C (.slice ga G.length gc) mb (2 ^ min G.length 64 - 1) X (allOf_lt _) (hG.below hX) lG lC gr ok hm hm.lt
 clear hS hd hgr
 obtain ⟨_, v1, v2⟩ := id K0
 go_enter Tryz.func21, Tryz.ntmps21
 go_wp2_with fail
 go_at_call 59
 refine Calls.mono k88 ?_
 rintro e w1 ⟨⟨mb, rfl, hm, hmb, hml⟩, hbs⟩
 have hmbn : mb ≠ w.heap.size + 1 := by have := hmb; simp at this; omega
 have hb1 := bel_after hb0 hb0.size hbs
 have K1 := K0.below hbs
 have Z1 := Z0.below hbs
 have k90 := k90 mb
 clear k88 v1 v2 K0 Z0 hb0 hbs
 go_wp2_with fail
 have hX0 : Below w.heap.size w (w1.alloc (.cells #[.slice ga G.length gc, .map (some mb)] 79)).drew := (hb1.alloc hb1.size _).drew
 have Z0 : Has (w1.alloc (.cells #[.slice ga G.length gc, .map (some mb)] 79)).drew (w.heap.size + 1) #[.string ⟨#[]⟩, .slice none 0 0, .slice none 0 0, .slice none 0 0, .slice none 0 0, .slice none 0 0, .slice none 0 0, .slice none 0 0, .int .i64 0, .slice none 0 0, .map none, .slice none 0 0, .slice none 0 0, .slice none 0 0] := (Z1.alloc _).drew
 have hm0 := (hm.alloc (.cells #[.slice ga G.length gc, .map (some mb)] 79)).drew
 have K2 : Has (w1.alloc (.cells #[.slice ga G.length gc, .map (some mb)] 79)) w.heap.size #[.string pn, .slice ga G.length gc, .slice ca C.length cc, .slice da D.length dc, .slice ta TM.length tc, .slice ka CT.length kc, .slice va VR.length vc, .slice sa SG.length sc, .int .i64 (st : Int)] := K1.alloc _
 have M2 : Has (w1.alloc (.cells #[.slice ga G.length gc, .map (some mb)] 79)) w1.heap.size #[.slice ga G.length gc, .map (some mb)] := Has.new _ _ _ rfl
 have h13 : w.heap.size + 2 ≤ w1.heap.size := Nat.succ_le_of_lt Z1.1
 obtain ⟨_, v1, _⟩ := id K2
 obtain ⟨_, m1, _⟩ := id M2
 refine wp_region_noPanic ?_
 refine wp_region_held_drew (S := fun w' => w'.cell? ⟨w.heap.size, 0, none⟩ = some (.string pn) ∧ w'.cell? ⟨w.heap.size, 1, none⟩ = some (.slice ga G.length gc) ∧ w'.cell? ⟨w.heap.size, 2, none⟩ = some (.slice ca C.length cc) ∧ w'.cell? ⟨w.heap.size, 3, none⟩ = some (.slice da D.length dc) ∧ w'.cell? ⟨w.heap.size, 4, none⟩ = some (.slice ta TM.length tc) ∧ w'.cell? ⟨w.heap.size, 5, none⟩ = some (.slice ka CT.length kc) ∧ w'.cell? ⟨w.heap.size, 6, none⟩ = some (.slice va VR.length vc) ∧ w'.cell? ⟨w.heap.size, 7, none⟩ = some (.slice sa SG.length sc) ∧ w'.cell? ⟨w.heap.size, 8, none⟩ = some (.int .i64 (st : Int)) ∧ w'.cell? ⟨w1.heap.size, 0, none⟩ = some (.slice ga G.length gc) ∧ w'.cell? ⟨w1.heap.size, 1, none⟩ = some (.map (some mb))) (by kernel_rfl) ?_ (fun hHeld => ?_)
 ·(try dsimp only)
  exact ⟨v1 0, v1 1, v1 2, v1 3, v1 4, v1 5, v1 6, v1 7, v1 8, m1 0, m1 1⟩
 refine tkY 0 ?_
 refine tkY 1 ?_
 refine tkY 2 ?_
 refine tkY 4 ?_
 refine tkY 6 ?_
 refine tkY 7 ?_
 refine tkY 8 ?_
 refine wpAnyH_ready (rs := [3]) (by kernel_rfl) (by simp) ?_
 refine AllReadyH.cons (o := ⟨some 10, .call { callee := Callee.value (.func 37), args := #[.tmp 9], argTypes := #[31] }, 42, "plan.go:16", #[⟨2, .data⟩], none⟩) rfl (fun K hK => ?_) AllReadyH.nil
 go_simp
 go_at_call 37
 (with_reducible refine Calls.mono (k52 _ hX0) ?_)
 rintro e xa ⟨ra, R, rfl, oR, hRI, hba⟩
 have hXa := bel_after hX0 hX0.size hba
 have Za := Z0.below hba
 have hma := ownsMap_bel hm0 hba
 go_wp2_with fail
 refine hK.out _ _ ?_ (fun hHeld => ?_)
 ·(try dsimp only)
  obtain ⟨h0, h1, h2, h3, h4, h5, h6, h7, h8, h9, h10⟩ := hHeld; exact ⟨(hba.cell (p := ⟨w.heap.size, _, none⟩) (cell_ltF h0)).trans h0, (hba.cell (p := ⟨w.heap.size, _, none⟩) (cell_ltF h1)).trans h1, (hba.cell (p := ⟨w.heap.size, _, none⟩) (cell_ltF h2)).trans h2, (hba.cell (p := ⟨w.heap.size, _, none⟩) (cell_ltF h3)).trans h3, (hba.cell (p := ⟨w.heap.size, _, none⟩) (cell_ltF h4)).trans h4, (hba.cell (p := ⟨w.heap.size, _, none⟩) (cell_ltF h5)).trans h5, (hba.cell (p := ⟨w.heap.size, _, none⟩) (cell_ltF h6)).trans h6, (hba.cell (p := ⟨w.heap.size, _, none⟩) (cell_ltF h7)).trans h7, (hba.cell (p := ⟨w.heap.size, _, none⟩) (cell_ltF h8)).trans h8, (hba.cell (p := ⟨w1.heap.size, _, none⟩) (cell_ltF h9)).trans h9, (hba.cell (p := ⟨w1.heap.size, _, none⟩) (cell_ltF h10)).trans h10⟩
 clear hK K
 (try simp only [Act.put, List.setIfInBounds_toArray, List.set_cons_zero, List.set_cons_succ])
 refine wpAnyH_ready (rs := [5]) (by kernel_rfl) (by simp) ?_
 refine AllReadyH.cons (o := ⟨some 12, .call { callee := Callee.value (.func 60), args := #[.tmp 11], argTypes := #[31] }, 42, "plan.go:16", #[⟨4, .data⟩, ⟨3, .chain⟩], none⟩) rfl (fun K hK => ?_) AllReadyH.nil
 go_simp
 go_at_call 60
 (with_reducible refine Calls.mono (k89 _ hXa) ?_)
 rintro e xb ⟨qa, rfl, oQ, hbb⟩
 have hXb := bel_after hXa hXa.size hbb
 have Zb := Za.below hbb
 have hmb2 := ownsMap_bel hma hbb
 have oR2 := own_bel oR hbb
 go_wp2_with fail
 refine hK.out _ _ ?_ (fun hHeld => ?_)
 ·(try dsimp only)
  obtain ⟨h0, h1, h2, h3, h4, h5, h6, h7, h8, h9, h10⟩ := hHeld; exact ⟨(hbb.cell (p := ⟨w.heap.size, _, none⟩) (cell_ltF h0)).trans h0, (hbb.cell (p := ⟨w.heap.size, _, none⟩) (cell_ltF h1)).trans h1, (hbb.cell (p := ⟨w.heap.size, _, none⟩) (cell_ltF h2)).trans h2, (hbb.cell (p := ⟨w.heap.size, _, none⟩) (cell_ltF h3)).trans h3, (hbb.cell (p := ⟨w.heap.size, _, none⟩) (cell_ltF h4)).trans h4, (hbb.cell (p := ⟨w.heap.size, _, none⟩) (cell_ltF h5)).trans h5, (hbb.cell (p := ⟨w.heap.size, _, none⟩) (cell_ltF h6)).trans h6, (hbb.cell (p := ⟨w.heap.size, _, none⟩) (cell_ltF h7)).trans h7, (hbb.cell (p := ⟨w.heap.size, _, none⟩) (cell_ltF h8)).trans h8, (hbb.cell (p := ⟨w1.heap.size, _, none⟩) (cell_ltF h9)).trans h9, (hbb.cell (p := ⟨w1.heap.size, _, none⟩) (cell_ltF h10)).trans h10⟩
 clear hK K
 (try simp only [Act.put, List.setIfInBounds_toArray, List.set_cons_zero, List.set_cons_succ])
 refine wpAnyH_ready (rs := [9]) (by kernel_rfl) (by simp) ?_
 refine AllReadyH.cons (o := ⟨some 16, .call { callee := Callee.value (.func 62), args := #[.tmp 15], argTypes := #[22] }, 47, "plan.go:16", #[⟨8, .data⟩, ⟨5, .chain⟩], none⟩) rfl (fun K hK => ?_) AllReadyH.nil
 go_simp
 go_at_call 62
 (with_reducible refine Calls.mono (allOf_any G.length ga gc _ lG) ?_)
 rintro e xc ⟨rfl, rfl⟩
 go_wp2_with fail
 refine hK.out _ _ ?_ (fun hHeld => ?_)
 ·(try dsimp only)
  exact hHeld
 clear hK K
 (try simp only [Act.put, List.setIfInBounds_toArray, List.set_cons_zero, List.set_cons_succ])
 refine wpAnyH_ready (rs := [10]) (by kernel_rfl) (by simp) ?_
 refine AllReadyH.cons (o := ⟨some 17, .call { callee := Callee.value (.func 61), args := #[.tmp 13, .tmp 16], argTypes := #[79, 47] }, 80, "plan.go:16", #[⟨6, .data⟩, ⟨9, .data⟩, ⟨9, .chain⟩], none⟩) rfl (fun K hK => ?_) AllReadyH.nil
 go_simp
 go_at_call 61
 (with_reducible refine Calls.mono (k90 _ hXb hmb2) ?_)
 rintro e xd ⟨⟨wa, wc, rfl, hW⟩, hbd⟩
 have hXd := bel_after hXb hXb.size hbd
 have hmd := ownsMap_bel hmb2 hbd
 have Zd := Zb.below hbd
 have oR3 := own_bel oR2 hbd
 have oQ3 := own_bel oQ hbd
 obtain ⟨_, zz1, zz2⟩ := id Zd
 go_wp2_with fail
 refine hK.out _ _ ?_ (fun hHeld => ?_)
 ·(try dsimp only)
  obtain ⟨h0, h1, h2, h3, h4, h5, h6, h7, h8, h9, h10⟩ := hHeld; exact ⟨(hbd.cell (p := ⟨w.heap.size, _, none⟩) (cell_ltF h0)).trans h0, (hbd.cell (p := ⟨w.heap.size, _, none⟩) (cell_ltF h1)).trans h1, (hbd.cell (p := ⟨w.heap.size, _, none⟩) (cell_ltF h2)).trans h2, (hbd.cell (p := ⟨w.heap.size, _, none⟩) (cell_ltF h3)).trans h3, (hbd.cell (p := ⟨w.heap.size, _, none⟩) (cell_ltF h4)).trans h4, (hbd.cell (p := ⟨w.heap.size, _, none⟩) (cell_ltF h5)).trans h5, (hbd.cell (p := ⟨w.heap.size, _, none⟩) (cell_ltF h6)).trans h6, (hbd.cell (p := ⟨w.heap.size, _, none⟩) (cell_ltF h7)).trans h7, (hbd.cell (p := ⟨w.heap.size, _, none⟩) (cell_ltF h8)).trans h8, (hbd.cell (p := ⟨w1.heap.size, _, none⟩) (cell_ltF h9)).trans h9, (hbd.cell (p := ⟨w1.heap.size, _, none⟩) (cell_ltF h10)).trans h10⟩
 clear hK K
 (try simp only [Act.put, List.setIfInBounds_toArray, List.set_cons_zero, List.set_cons_succ])
 refine tkY 11 ?_
 refine wpAnyH_ready (rs := [12]) (by kernel_rfl) (by simp) ?_
 refine AllReadyH.cons (o := ⟨none, .store 82 (.tmp 2) (.tmp 18), 0, "plan.go:16", #[⟨11, .data⟩, ⟨10, .chain⟩, ⟨0, .phase⟩, ⟨1, .phase⟩, ⟨2, .phase⟩, ⟨3, .phase⟩, ⟨4, .phase⟩, ⟨5, .phase⟩, ⟨6, .phase⟩, ⟨7, .phase⟩, ⟨8, .phase⟩, ⟨9, .phase⟩, ⟨10, .phase⟩, ⟨11, .phase⟩], none⟩) rfl (fun K hK => ?_) AllReadyH.nil
 go_simp
 refine hK.out _ _ ?_ (fun hHeld => ?_)
 ·(try dsimp only)
  obtain ⟨h0, h1, h2, h3, h4, h5, h6, h7, h8, h9, h10⟩ := hHeld; exact ⟨(cell_setCells_ne (w := xd) (b := w.heap.size + 1) (o := 0) (vs := [.string pn, .slice ga G.length gc, .slice ca C.length cc, .slice da D.length dc, .slice ta TM.length tc, .slice ka CT.length kc, .slice va VR.length vc, .slice sa SG.length sc, .int .i64 (st : Int), .slice ga G.length gc, .map (some mb), .slice (some ⟨ra, 0, none⟩) SG.length SG.length, .slice (some ⟨qa, 0, none⟩) SG.length SG.length, .slice wa G.length wc]) (by omega)).trans h0, (cell_setCells_ne (w := xd) (b := w.heap.size + 1) (o := 0) (vs := [.string pn, .slice ga G.length gc, .slice ca C.length cc, .slice da D.length dc, .slice ta TM.length tc, .slice ka CT.length kc, .slice va VR.length vc, .slice sa SG.length sc, .int .i64 (st : Int), .slice ga G.length gc, .map (some mb), .slice (some ⟨ra, 0, none⟩) SG.length SG.length, .slice (some ⟨qa, 0, none⟩) SG.length SG.length, .slice wa G.length wc]) (by omega)).trans h1, (cell_setCells_ne (w := xd) (b := w.heap.size + 1) (o := 0) (vs := [.string pn, .slice ga G.length gc, .slice ca C.length cc, .slice da D.length dc, .slice ta TM.length tc, .slice ka CT.length kc, .slice va VR.length vc, .slice sa SG.length sc, .int .i64 (st : Int), .slice ga G.length gc, .map (some mb), .slice (some ⟨ra, 0, none⟩) SG.length SG.length, .slice (some ⟨qa, 0, none⟩) SG.length SG.length, .slice wa G.length wc]) (by omega)).trans h2, (cell_setCells_ne (w := xd) (b := w.heap.size + 1) (o := 0) (vs := [.string pn, .slice ga G.length gc, .slice ca C.length cc, .slice da D.length dc, .slice ta TM.length tc, .slice ka CT.length kc, .slice va VR.length vc, .slice sa SG.length sc, .int .i64 (st : Int), .slice ga G.length gc, .map (some mb), .slice (some ⟨ra, 0, none⟩) SG.length SG.length, .slice (some ⟨qa, 0, none⟩) SG.length SG.length, .slice wa G.length wc]) (by omega)).trans h3, (cell_setCells_ne (w := xd) (b := w.heap.size + 1) (o := 0) (vs := [.string pn, .slice ga G.length gc, .slice ca C.length cc, .slice da D.length dc, .slice ta TM.length tc, .slice ka CT.length kc, .slice va VR.length vc, .slice sa SG.length sc, .int .i64 (st : Int), .slice ga G.length gc, .map (some mb), .slice (some ⟨ra, 0, none⟩) SG.length SG.length, .slice (some ⟨qa, 0, none⟩) SG.length SG.length, .slice wa G.length wc]) (by omega)).trans h4, (cell_setCells_ne (w := xd) (b := w.heap.size + 1) (o := 0) (vs := [.string pn, .slice ga G.length gc, .slice ca C.length cc, .slice da D.length dc, .slice ta TM.length tc, .slice ka CT.length kc, .slice va VR.length vc, .slice sa SG.length sc, .int .i64 (st : Int), .slice ga G.length gc, .map (some mb), .slice (some ⟨ra, 0, none⟩) SG.length SG.length, .slice (some ⟨qa, 0, none⟩) SG.length SG.length, .slice wa G.length wc]) (by omega)).trans h5, (cell_setCells_ne (w := xd) (b := w.heap.size + 1) (o := 0) (vs := [.string pn, .slice ga G.length gc, .slice ca C.length cc, .slice da D.length dc, .slice ta TM.length tc, .slice ka CT.length kc, .slice va VR.length vc, .slice sa SG.length sc, .int .i64 (st : Int), .slice ga G.length gc, .map (some mb), .slice (some ⟨ra, 0, none⟩) SG.length SG.length, .slice (some ⟨qa, 0, none⟩) SG.length SG.length, .slice wa G.length wc]) (by omega)).trans h6, (cell_setCells_ne (w := xd) (b := w.heap.size + 1) (o := 0) (vs := [.string pn, .slice ga G.length gc, .slice ca C.length cc, .slice da D.length dc, .slice ta TM.length tc, .slice ka CT.length kc, .slice va VR.length vc, .slice sa SG.length sc, .int .i64 (st : Int), .slice ga G.length gc, .map (some mb), .slice (some ⟨ra, 0, none⟩) SG.length SG.length, .slice (some ⟨qa, 0, none⟩) SG.length SG.length, .slice wa G.length wc]) (by omega)).trans h7, (cell_setCells_ne (w := xd) (b := w.heap.size + 1) (o := 0) (vs := [.string pn, .slice ga G.length gc, .slice ca C.length cc, .slice da D.length dc, .slice ta TM.length tc, .slice ka CT.length kc, .slice va VR.length vc, .slice sa SG.length sc, .int .i64 (st : Int), .slice ga G.length gc, .map (some mb), .slice (some ⟨ra, 0, none⟩) SG.length SG.length, .slice (some ⟨qa, 0, none⟩) SG.length SG.length, .slice wa G.length wc]) (by omega)).trans h8, (cell_setCells_ne (w := xd) (b := w.heap.size + 1) (o := 0) (vs := [.string pn, .slice ga G.length gc, .slice ca C.length cc, .slice da D.length dc, .slice ta TM.length tc, .slice ka CT.length kc, .slice va VR.length vc, .slice sa SG.length sc, .int .i64 (st : Int), .slice ga G.length gc, .map (some mb), .slice (some ⟨ra, 0, none⟩) SG.length SG.length, .slice (some ⟨qa, 0, none⟩) SG.length SG.length, .slice wa G.length wc]) (by omega)).trans h9, (cell_setCells_ne (w := xd) (b := w.heap.size + 1) (o := 0) (vs := [.string pn, .slice ga G.length gc, .slice ca C.length cc, .slice da D.length dc, .slice ta TM.length tc, .slice ka CT.length kc, .slice va VR.length vc, .slice sa SG.length sc, .int .i64 (st : Int), .slice ga G.length gc, .map (some mb), .slice (some ⟨ra, 0, none⟩) SG.length SG.length, .slice (some ⟨qa, 0, none⟩) SG.length SG.length, .slice wa G.length wc]) (by omega)).trans h10⟩
 clear hK K
 (try simp only [Act.put, List.setIfInBounds_toArray, List.set_cons_zero, List.set_cons_succ])
 refine wpAnyH_done (by kernel_rfl) ?_ _
 refine NoPanic.normal ?_
 go_wp2_with fail
 have K : Has (World.setCells xd (w.heap.size + 1) 0 [.string pn, .slice ga G.length gc, .slice ca C.length cc, .slice da D.length dc, .slice ta TM.length tc, .slice ka CT.length kc, .slice va VR.length vc, .slice sa SG.length sc, .int .i64 (st : Int), .slice ga G.length gc, .map (some mb), .slice (some ⟨ra, 0, none⟩) SG.length SG.length, .slice (some ⟨qa, 0, none⟩) SG.length SG.length, .slice wa G.length wc]) (w.heap.size + 1) #[.string pn, .slice ga G.length gc, .slice ca C.length cc, .slice da D.length dc, .slice ta TM.length tc, .slice ka CT.length kc, .slice va VR.length vc, .slice sa SG.length sc, .int .i64 (st : Int), .slice ga G.length gc, .map (some mb), .slice (some ⟨ra, 0, none⟩) SG.length SG.length, .slice (some ⟨qa, 0, none⟩) SG.length SG.length, .slice wa G.length wc] := Zd.setCells _ rfl
 have hO1 := own_lt oR3 ra rfl
 have hO2 := own_lt oQ3 qa rfl
 have hXa2 := hXa.size
 have hX2 := hX0.size
 have hRl : R.length = SG.length := by rw [hRI.len, ways_len]
 have hQl : (ckL G.length C SG).length = SG.length := by simp [ckL]
 have hz : (w1.alloc (.cells #[.slice ga G.length gc, .map (some mb)] 79)).drew.heap.size = w1.heap.size + 1 := by simp [World.drew]
 have BR : BlR (World.setCells xd (w.heap.size + 1) 0 [.string pn, .slice ga G.length gc, .slice ca C.length cc, .slice da D.length dc, .slice ta TM.length tc, .slice ka CT.length kc, .slice va VR.length vc, .slice sa SG.length sc, .int .i64 (st : Int), .slice ga G.length gc, .map (some mb), .slice (some ⟨ra, 0, none⟩) SG.length SG.length, .slice (some ⟨qa, 0, none⟩) SG.length SG.length, .slice wa G.length wc]) ra SG.length R := (BlR.own oR3 hRl).setCells (by omega)
 have BQ : BlR (World.setCells xd (w.heap.size + 1) 0 [.string pn, .slice ga G.length gc, .slice ca C.length cc, .slice da D.length dc, .slice ta TM.length tc, .slice ka CT.length kc, .slice va VR.length vc, .slice sa SG.length sc, .int .i64 (st : Int), .slice ga G.length gc, .map (some mb), .slice (some ⟨ra, 0, none⟩) SG.length SG.length, .slice (some ⟨qa, 0, none⟩) SG.length SG.length, .slice wa G.length wc]) qa SG.length (ckL G.length C SG) := (BlR.own oQ3 hQl).setCells (by have := hba.size; omega)
 have hE : Below w.heap.size w (World.setCells xd (w.heap.size + 1) 0 [.string pn, .slice ga G.length gc, .slice ca C.length cc, .slice da D.length dc, .slice ta TM.length tc, .slice ka CT.length kc, .slice va VR.length vc, .slice sa SG.length sc, .int .i64 (st : Int), .slice ga G.length gc, .map (some mb), .slice (some ⟨ra, 0, none⟩) SG.length SG.length, .slice (some ⟨qa, 0, none⟩) SG.length SG.length, .slice wa G.length wc]) := below_setCells _ (by omega) _ _ _ hXd
 have hWE : G = [] ∨ ∃ gw, wa = some ⟨gw, 0, none⟩ ∧ gw < ((World.setCells xd (w.heap.size + 1) 0 [.string pn, .slice ga G.length gc, .slice ca C.length cc, .slice da D.length dc, .slice ta TM.length tc, .slice ka CT.length kc, .slice va VR.length vc, .slice sa SG.length sc, .int .i64 (st : Int), .slice ga G.length gc, .map (some mb), .slice (some ⟨ra, 0, none⟩) SG.length SG.length, .slice (some ⟨qa, 0, none⟩) SG.length SG.length, .slice wa G.length wc])).heap.size ∧ ∀ i, i < G.length → ((World.setCells xd (w.heap.size + 1) 0 [.string pn, .slice ga G.length gc, .slice ca C.length cc, .slice da D.length dc, .slice ta TM.length tc, .slice ka CT.length kc, .slice va VR.length vc, .slice sa SG.length sc, .int .i64 (st : Int), .slice ga G.length gc, .map (some mb), .slice (some ⟨ra, 0, none⟩) SG.length SG.length, .slice (some ⟨qa, 0, none⟩) SG.length SG.length, .slice wa G.length wc])).cell? ⟨gw, i, none⟩ = some (.int .i64 (wA C (2 ^ min G.length 64 - 1) (i : Int) G 0 0)) ∧ 0 ≤ wA C (2 ^ min G.length 64 - 1) (i : Int) G 0 0 ∧ wA C (2 ^ min G.length 64 - 1) (i : Int) G 0 0 ≤ 3600 := by
  rcases hW with h | ⟨gw, q1, q2, q3⟩
  ·exact .inl h
  ·by_cases e : gw = w.heap.size + 1
   ·by_cases hG0 : G = []
    ·exact .inl hG0
    ·exfalso
     have hp : 0 < G.length := List.length_pos_iff.2 hG0; have r1 := (q3 0 hp).1; rw [e, Zd.2.1 0] at r1; simp at r1
   ·exact .inr ⟨gw, q1, by rw [size_setCells]; exact q2, fun i hi => ⟨(cell_setCells_ne e).trans (q3 i hi).1, (q3 i hi).2⟩⟩
 obtain ⟨_, k1, _⟩ := id K
 clear K zz1 zz2 Zd Zb Za oR oR2 oR3 oQ oQ3 hm0 hma hmb2 Z0 Z1 v1 m1
 refine bodyPost_ret (v := .agg #[.string pn, .slice ga G.length gc, .slice ca C.length cc, .slice da D.length dc, .slice ta TM.length tc, .slice ka CT.length kc, .slice va VR.length vc, .slice sa SG.length sc, .int .i64 (st : Int), .slice ga G.length gc, .map (some mb), .slice (some ⟨ra, 0, none⟩) SG.length SG.length, .slice (some ⟨qa, 0, none⟩) SG.length SG.length, .slice wa G.length wc]) (w := (World.setCells xd (w.heap.size + 1) 0 [.string pn, .slice ga G.length gc, .slice ca C.length cc, .slice da D.length dc, .slice ta TM.length tc, .slice ka CT.length kc, .slice va VR.length vc, .slice sa SG.length sc, .int .i64 (st : Int), .slice ga G.length gc, .map (some mb), .slice (some ⟨ra, 0, none⟩) SG.length SG.length, .slice (some ⟨qa, 0, none⟩) SG.length SG.length, .slice wa G.length wc])) ?_ rfl ⟨mb, ra, qa, wc, wa, R, rfl, hRI, BR, BQ, hWE, ownsMap_keep hmd hmbn, hE⟩
 generalize (World.setCells xd (w.heap.size + 1) 0 [.string pn, .slice ga G.length gc, .slice ca C.length cc, .slice da D.length dc, .slice ta TM.length tc, .slice ka CT.length kc, .slice va VR.length vc, .slice sa SG.length sc, .int .i64 (st : Int), .slice ga G.length gc, .map (some mb), .slice (some ⟨ra, 0, none⟩) SG.length SG.length, .slice (some ⟨qa, 0, none⟩) SG.length SG.length, .slice wa G.length wc]) = X at *
 simp [results, Tryz.results21, go_sem, k1]
end Go.Proofs.YtjfieclmagbfbaaGreatDoor
