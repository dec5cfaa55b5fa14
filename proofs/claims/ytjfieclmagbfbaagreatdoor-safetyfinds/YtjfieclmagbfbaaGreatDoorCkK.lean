import Derived.Test.YtjfieclmagbfbaaGreatDoorJCkH
import Derived.OrdersHeld
set_option linter.unusedSimpArgs false
set_option linter.unusedVariables false
set_option maxRecDepth 100000
set_option maxHeartbeats 8000000
namespace Go.Proofs.YtjfieclmagbfbaaGreatDoor
open Go.RowKit
theorem rows_all {n : Nat} : ∀ (cs : List Cf) (p : Option Cf), zBv n p cs = true → ∀ d ∈ cs, cfB n d = true
 | [], _, _, d, hd => by cases hd
 | c :: cs, p, h, d, hd => by
   simp [zBv] at h; rcases List.mem_cons.1 hd with rfl | hd
   ·exact h.1.1
   ·exact rows_all cs _ h.2 d hd
theorem shL_drop (G : List Gp) (C : List Cf) (k : Nat) (h : k < C.length) : shL G (C.drop k) = shX G C[k] ++ shL G (C.drop (k + 1)) := by
 rw [List.drop_eq_getElem_cons h]; rfl
theorem shL_end (G : List Gp) (C : List Cf) (k : Nat) (h : C.length ≤ k) : shL G (C.drop k) = [] := by
 rw [List.drop_eq_nil_of_le h]; rfl
theorem igF_app : ∀ L M : List (Int × Int), igF (L ++ M) = igF L ++ igF M
 | [], _ => rfl
 | p :: L, M => by show _ :: igF (L ++ M) = _ :: (igF L ++ igF M); rw [igF_app L M]
theorem FP.drew {w V W : World} {rb : Nat} {fa : Option Addr} {fc : Nat} {F : List Fd} (h : FP w V rb fa fc F W) : FP w V rb fa fc F W.drew := h.below ((Below.refl _ _).drew)
theorem pairsR_any (G : List Gp) (C : List Cf) (D : List Dt) (TM CT : List ByteArray) (VR : List Vr) (SG : List Ts) (pn : ByteArray) (ga ca da ta ka va sa : Option Addr) (gc cc dc tc kc vc sc : Nat) (stt : Int) (fa : Option Addr) (fc : Nat) (F : List Fd) (w V W : World) (rb : Nat) (h : FP w V rb fa fc F W) (hG : Fl 5 Gp.cs w (.slice ga G.length gc) G) (hF : Fl 4 Cf.cs w (.slice ca C.length cc) C) (hS : Tss (fun _ => True) w (.slice sa SG.length sc) SG) (lG : G.length ≤ 2932031007317) (lC : C.length ≤ 4398046511000) (lS : SG.length ≤ 256) (gr : zBg G C = true) (ok : ∀ (i : Nat) (h : i < C.length), C[i].ok) (hgr : ∀ s ∈ SG, 0 ≤ s.green ∧ s.green < 18446744073709551616) :
  Calls Tryz.prog 47 #[.pointer (some ⟨rb, 0, none⟩), .agg #[.string pn, .slice ga G.length gc, .slice ca C.length cc, .slice da D.length dc, .slice ta TM.length tc, .slice ka CT.length kc, .slice va VR.length vc, .slice sa SG.length sc, .int .i64 stt]] W fun e W' => e = .returned (.tuple #[]) ∧ ∃ fa' fc', FP w V rb fa' fc' (addL (addL F (igF (shL G C))) (scF C 0 SG)) W' := by
 obtain ⟨_, _, e1, kG⟩ := hG.any
 injection e1 with e1 _ e2
 subst e1
 subst e2
 obtain ⟨_, _, e1, kF⟩ := hF.any
 injection e1 with e1 _ e2
 subst e1
 subst e2
 obtain ⟨_, _, e1, _, kS⟩ := Rows.any hS
 injection e1 with e1 _ e2
 subst e1
 subst e2
 clear hG hF hS
 have hcf : ∀ d ∈ C, cfB G.length d = true := rows_all C none (by simp [zBg] at gr; exact gr.2.2)
 have h1 := h.below (bel1 (.cells #[.string pn, .slice ga G.length gc, .slice ca C.length cc, .slice da D.length dc, .slice ta TM.length tc, .slice ka CT.length kc, .slice va VR.length vc, .slice sa SG.length sc, .int .i64 stt] 31))
 have N1 : Has (W.alloc (.cells #[.string pn, .slice ga G.length gc, .slice ca C.length cc, .slice da D.length dc, .slice ta TM.length tc, .slice ka CT.length kc, .slice va VR.length vc, .slice sa SG.length sc, .int .i64 stt] 31)) W.heap.size #[.string pn, .slice ga G.length gc, .slice ca C.length cc, .slice da D.length dc, .slice ta TM.length tc, .slice ka CT.length kc, .slice va VR.length vc, .slice sa SG.length sc, .int .i64 stt] := Has.new _ _ _ rfl
 have hn1 : ∀ q, (Value.slice fa F.length fc).ownBlock = some q → q ≠ W.heap.size := fun q hq => by have := (zAg h.own q hq).2; omega
 have hnr : W.heap.size ≠ rb := by have := h.box.1; omega
 have c4 := N1.2.1 2
 have c5 := N1.2.1 1
 generalize hA : addL F (igF (shL G C)) = A
 go_enter Tryz.func47, Tryz.ntmps47
 go_wp2_with fail
 generalize (W.alloc (.cells #[.string pn, .slice ga G.length gc, .slice ca C.length cc, .slice da D.length dc, .slice ta TM.length tc, .slice ka CT.length kc, .slice va VR.length vc, .slice sa SG.length sc, .int .i64 stt] 31)) = W1 at *
 clear h c4 c5
 generalize W.heap.size = nb at *
 go_loopw [6] (fun u wr => ∃ (k : Nat) (fa0 : Option Addr) (fc0 : Nat) (F0 : List Fd), k ≤ C.length ∧ u = .int .i64 (k : Int) ∧ Hid (addL F0 (igF (shL G (C.drop k))) = A) ∧ Hid (FP w V rb fa0 fc0 F0 wr) ∧ Hid (Has wr nb #[.string pn, .slice ga G.length gc, .slice ca C.length cc, .slice da D.length dc, .slice ta TM.length tc, .slice ka CT.length kc, .slice va VR.length vc, .slice sa SG.length sc, .int .i64 stt]) ∧ Hid (∀ q, (Value.slice fa0 F0.length fc0).ownBlock = some q → q ≠ nb)) (fun u _ => C.length - (intOf u).toNat)
 case atStart => exact ⟨0, fa, fc, F, by omega, rfl, hA, h1, N1, hn1⟩
 case round =>
  clear hA h1 N1 hn1; obtain ⟨k, fa0, fc0, F0, hk, rfl, hq', hr', N', hn'⟩ := hrel; have hq := hq'.out; have hr0 := hr'.out; have N1 := N'.out; have hn1 : ∀ q, (Value.slice fa0 F0.length fc0).ownBlock = some q → q ≠ nb := hn'.out; clear hq' hr' N' hn'
  by_cases hlt : k < C.length
  case pos =>
   obtain ⟨gc1, oc1, rfl, hgc1, P1⟩ := kF.resolve_left (by intro e; rw [e] at hlt; simp at hlt); have q0 := P1 k hlt 0 _ rfl; have q1 := P1 k hlt 1 _ rfl; have q2 := P1 k hlt 2 _ rfl; have q3 := P1 k hlt 3 _ rfl; simp only [Nat.add_zero] at q0; have hc := hcf _ (List.getElem_mem hlt); simp [cfB] at hc; rw [shL_drop G C k hlt, igF_app, zBh] at hq; unfold shX at hq; obtain ⟨a, ha⟩ : ∃ a : Nat, C[k].a = (a : Int) := ⟨C[k].a.toNat, by omega⟩; obtain ⟨b, hb⟩ : ∃ b : Nat, C[k].b = (b : Int) := ⟨C[k].b.toNat, by omega⟩; rw [ha] at q0 hc hq; rw [hb] at q1 hc hq; have la : a < G.length := by omega
   have lb : b < G.length := by omega
   obtain ⟨gg1, og1, rfl, hgg1, P2⟩ := kG.resolve_left (by intro e; rw [e] at la; simp at la); have q4 := P2 a la 3 _ rfl; have q5 := P2 b lb 3 _ rfl; rw [show amb G (a : Int) = G[a].amber from by simp [amb, la], show amb G (b : Int) = G[b].amber from by simp [amb, lb]] at hq; clear ha hb P1 P2 kF kG hcf hc kS ok hgr gr; generalize C[k].ab = x2 at *; generalize C[k].ba = x3 at *; generalize G[a].amber = am1 at *; generalize G[b].amber = am2 at *; have sS : ∀ X : World, Below w.heap.size w X → X.cell? ⟨gc1, oc1 + k * 4, none⟩ = some (.int .i64 (a : Int)) ∧ X.cell? ⟨gc1, oc1 + k * 4 + 1, none⟩ = some (.int .i64 (b : Int)) ∧ X.cell? ⟨gc1, oc1 + k * 4 + 2, none⟩ = some (.int .i64 x2) ∧ X.cell? ⟨gc1, oc1 + k * 4 + 3, none⟩ = some (.int .i64 x3) ∧ X.cell? ⟨gg1, og1 + a * 5 + 3, none⟩ = some (.int .i64 am1) ∧ X.cell? ⟨gg1, og1 + b * 5 + 3, none⟩ = some (.int .i64 am2) := fun X hX => ⟨(hX.cell (p := ⟨gc1, _, none⟩) hgc1).trans q0, (hX.cell (p := ⟨gc1, _, none⟩) hgc1).trans q1, (hX.cell (p := ⟨gc1, _, none⟩) hgc1).trans q2, (hX.cell (p := ⟨gc1, _, none⟩) hgc1).trans q3, (hX.cell (p := ⟨gg1, _, none⟩) hgg1).trans q4, (hX.cell (p := ⟨gg1, _, none⟩) hgg1).trans q5⟩
   have t1 : (k : Int) < (C.length : Int) := by omega
   have t0 : (0 : Int) ≤ (k : Int) := by omega
   have t2 : k + 1 ≤ C.length := hlt; have ta : (a : Int) < (G.length : Int) := by omega
   have ta0 : (0 : Int) ≤ (a : Int) := by omega
   have tb : (b : Int) < (G.length : Int) := by omega
   have tb0 : (0 : Int) ≤ (b : Int) := by omega
   clear q0 q1 q2 q3 q4 q5
   go_wp2_with fail
   by_cases c0 : x2 < am1
   case pos =>
    by_cases c1 : x3 < am2
    case pos =>
     rw [if_pos c0] at hq; rw [if_pos c1] at hq; simp only [List.nil_append, List.append_nil, List.cons_append, igF, zDm, zAf] at hq; refine wp_region_noPanic ?_; refine wp_region_held_drew (S := fun w' => w'.cell? ⟨gc1, oc1 + k * 4, none⟩ = some (.int .i64 (a : Int)) ∧ w'.cell? ⟨gc1, oc1 + k * 4 + 1, none⟩ = some (.int .i64 (b : Int)) ∧ w'.cell? ⟨gc1, oc1 + k * 4 + 2, none⟩ = some (.int .i64 x2) ∧ w'.cell? ⟨gc1, oc1 + k * 4 + 3, none⟩ = some (.int .i64 x3) ∧ w'.cell? ⟨gg1, og1 + a * 5 + 3, none⟩ = some (.int .i64 am1) ∧ w'.cell? ⟨gg1, og1 + b * 5 + 3, none⟩ = some (.int .i64 am2)) (by kernel_rfl) ?_ (fun hHeld => ?_)
     ·(try dsimp only)
      exact sS _ hr0.drew.hb
     refine tkY 0 ?_; refine tkY 1 ?_; refine tkY 2 ?_; refine tkY 3 ?_; refine tkY 4 ?_; refine tkY 5 ?_; refine tkY 6 ?_; refine tkY 7 ?_; refine tkY 8 ?_; refine tkY 9 ?_; refine tkY 10 ?_; refine tkY 11 ?_; refine tkY 12 ?_; refine tkY 13 ?_; refine tkY 14 ?_; refine wpAnyH_done (by kernel_rfl) ?_ _; refine NoPanic.normal ?_; have hr2 := hr0.drew; have N2 := N1.drew
     go_wp2_with fail
     refine wp_region_noPanic ?_; refine wp_region_held_drew (S := fun w' => w'.cell? ⟨gc1, oc1 + k * 4, none⟩ = some (.int .i64 (a : Int)) ∧ w'.cell? ⟨gc1, oc1 + k * 4 + 1, none⟩ = some (.int .i64 (b : Int)) ∧ w'.cell? ⟨gc1, oc1 + k * 4 + 2, none⟩ = some (.int .i64 x2) ∧ w'.cell? ⟨gc1, oc1 + k * 4 + 3, none⟩ = some (.int .i64 x3) ∧ w'.cell? ⟨gg1, og1 + a * 5 + 3, none⟩ = some (.int .i64 am1) ∧ w'.cell? ⟨gg1, og1 + b * 5 + 3, none⟩ = some (.int .i64 am2)) (by kernel_rfl) ?_ (fun hHeld => ?_)
     ·(try dsimp only)
      exact sS _ hr2.drew.hb
     refine tkY 0 ?_; refine tkY 1 ?_; refine tkY 2 ?_; refine tkY 3 ?_; refine tkY 4 ?_; refine tkY 5 ?_; refine tkY 6 ?_; refine tkY 7 ?_; refine tkY 8 ?_; refine tkY 9 ?_; refine tkY 10 ?_; refine wpAnyH_ready (rs := [11]) (by kernel_rfl) (by simp) ?_; refine AllReadyH.cons (o := ⟨some 47, .call { callee := Callee.value (.func 72), args := #[.tmp 36, .const (Value.int IntKind.i64 61), .const (Value.int IntKind.i64 (-1)), .tmp 41, .tmp 46], argTypes := #[107, 35, 3, 3, 3] }, 0, "safety.go:195", #[⟨0, .data⟩, ⟨5, .data⟩, ⟨10, .data⟩], none⟩) rfl (fun K hK => ?_) AllReadyH.nil
     go_simp
     go_at_call 72
     (with_reducible refine Calls.mono (zAs w V _ rb _ _ F0 61 (-1) (a : Int) (b : Int) hr2.drew) ?_)
     rintro e w3 ⟨rfl, fa3, fc3, hr3, ts3⟩; have N3 := ts3.has N2.drew hnr (fun e => hn1 _ e rfl); have hn3 := ts3.far hn1 (fun q hq2 => by have e1 := N2.drew.1; omega)
     go_wp2_with fail
     refine hK.out _ _ ?_ (fun hHeld => ?_)
     ·(try dsimp only)
      exact sS _ hr3.hb
     clear hK K
     (try simp only [Act.put, List.setIfInBounds_toArray, List.set_cons_zero, List.set_cons_succ])
     refine wpAnyH_done (by kernel_rfl) ?_ _; refine NoPanic.normal ?_; generalize addF F0 ⟨61, -1, (a : Int), (b : Int)⟩ = F3 at *
     go_wp2_with fail
     refine wp_region_noPanic ?_; refine wp_region_held_drew (S := fun w' => w'.cell? ⟨gc1, oc1 + k * 4, none⟩ = some (.int .i64 (a : Int)) ∧ w'.cell? ⟨gc1, oc1 + k * 4 + 1, none⟩ = some (.int .i64 (b : Int)) ∧ w'.cell? ⟨gc1, oc1 + k * 4 + 2, none⟩ = some (.int .i64 x2) ∧ w'.cell? ⟨gc1, oc1 + k * 4 + 3, none⟩ = some (.int .i64 x3) ∧ w'.cell? ⟨gg1, og1 + a * 5 + 3, none⟩ = some (.int .i64 am1) ∧ w'.cell? ⟨gg1, og1 + b * 5 + 3, none⟩ = some (.int .i64 am2)) (by kernel_rfl) ?_ (fun hHeld => ?_)
     ·(try dsimp only)
      exact sS _ hr3.drew.hb
     refine tkY 0 ?_; refine tkY 1 ?_; refine tkY 2 ?_; refine tkY 3 ?_; refine tkY 4 ?_; refine tkY 5 ?_; refine tkY 6 ?_; refine tkY 7 ?_; refine tkY 8 ?_; refine tkY 9 ?_; refine tkY 10 ?_; refine tkY 11 ?_; refine tkY 12 ?_; refine tkY 13 ?_; refine tkY 14 ?_; refine wpAnyH_done (by kernel_rfl) ?_ _; refine NoPanic.normal ?_; have hr4 := hr3.drew; have N4 := N3.drew
     go_wp2_with fail
     refine wp_region_noPanic ?_; refine wp_region_held_drew (S := fun w' => w'.cell? ⟨gc1, oc1 + k * 4, none⟩ = some (.int .i64 (a : Int)) ∧ w'.cell? ⟨gc1, oc1 + k * 4 + 1, none⟩ = some (.int .i64 (b : Int)) ∧ w'.cell? ⟨gc1, oc1 + k * 4 + 2, none⟩ = some (.int .i64 x2) ∧ w'.cell? ⟨gc1, oc1 + k * 4 + 3, none⟩ = some (.int .i64 x3) ∧ w'.cell? ⟨gg1, og1 + a * 5 + 3, none⟩ = some (.int .i64 am1) ∧ w'.cell? ⟨gg1, og1 + b * 5 + 3, none⟩ = some (.int .i64 am2)) (by kernel_rfl) ?_ (fun hHeld => ?_)
     ·(try dsimp only)
      exact sS _ hr4.drew.hb
     refine tkY 0 ?_; refine tkY 1 ?_; refine tkY 2 ?_; refine tkY 3 ?_; refine tkY 4 ?_; refine tkY 5 ?_; refine tkY 6 ?_; refine tkY 7 ?_; refine tkY 8 ?_; refine tkY 9 ?_; refine tkY 10 ?_; refine wpAnyH_ready (rs := [11]) (by kernel_rfl) (by simp) ?_; refine AllReadyH.cons (o := ⟨some 74, .call { callee := Callee.value (.func 72), args := #[.tmp 63, .const (Value.int IntKind.i64 61), .const (Value.int IntKind.i64 (-1)), .tmp 68, .tmp 73], argTypes := #[107, 35, 3, 3, 3] }, 0, "safety.go:198", #[⟨0, .data⟩, ⟨5, .data⟩, ⟨10, .data⟩], none⟩) rfl (fun K hK => ?_) AllReadyH.nil
     go_simp
     go_at_call 72
     (with_reducible refine Calls.mono (zAs w V _ rb _ _ F3 61 (-1) (b : Int) (a : Int) hr4.drew) ?_)
     rintro e w5 ⟨rfl, fa5, fc5, hr5, ts5⟩; have N5 := ts5.has N4.drew hnr (fun e => hn3 _ e rfl); have hn5 := ts5.far hn3 (fun q hq2 => by have e1 := N4.drew.1; omega)
     go_wp2_with fail
     refine hK.out _ _ ?_ (fun hHeld => ?_)
     ·(try dsimp only)
      exact sS _ hr5.hb
     clear hK K
     (try simp only [Act.put, List.setIfInBounds_toArray, List.set_cons_zero, List.set_cons_succ])
     refine wpAnyH_done (by kernel_rfl) ?_ _; refine NoPanic.normal ?_; generalize addF F3 ⟨61, -1, (b : Int), (a : Int)⟩ = F5 at *
     go_wp2_with fail
     go_roundw
     case rel => exact ⟨k + 1, _, _, _, by omega, by go_num, hq, hr5, N5, hn5⟩
     case measure => simp [intOf]; omega
    case neg =>
     rw [if_pos c0] at hq; rw [if_neg c1] at hq; simp only [List.nil_append, List.append_nil, List.cons_append, igF, zDm, zAf] at hq; refine wp_region_noPanic ?_; refine wp_region_held_drew (S := fun w' => w'.cell? ⟨gc1, oc1 + k * 4, none⟩ = some (.int .i64 (a : Int)) ∧ w'.cell? ⟨gc1, oc1 + k * 4 + 1, none⟩ = some (.int .i64 (b : Int)) ∧ w'.cell? ⟨gc1, oc1 + k * 4 + 2, none⟩ = some (.int .i64 x2) ∧ w'.cell? ⟨gc1, oc1 + k * 4 + 3, none⟩ = some (.int .i64 x3) ∧ w'.cell? ⟨gg1, og1 + a * 5 + 3, none⟩ = some (.int .i64 am1) ∧ w'.cell? ⟨gg1, og1 + b * 5 + 3, none⟩ = some (.int .i64 am2)) (by kernel_rfl) ?_ (fun hHeld => ?_)
     ·(try dsimp only)
      exact sS _ hr0.drew.hb
     refine tkY 0 ?_; refine tkY 1 ?_; refine tkY 2 ?_; refine tkY 3 ?_; refine tkY 4 ?_; refine tkY 5 ?_; refine tkY 6 ?_; refine tkY 7 ?_; refine tkY 8 ?_; refine tkY 9 ?_; refine tkY 10 ?_; refine tkY 11 ?_; refine tkY 12 ?_; refine tkY 13 ?_; refine tkY 14 ?_; refine wpAnyH_done (by kernel_rfl) ?_ _; refine NoPanic.normal ?_; have hr2 := hr0.drew; have N2 := N1.drew
     go_wp2_with fail
     refine wp_region_noPanic ?_; refine wp_region_held_drew (S := fun w' => w'.cell? ⟨gc1, oc1 + k * 4, none⟩ = some (.int .i64 (a : Int)) ∧ w'.cell? ⟨gc1, oc1 + k * 4 + 1, none⟩ = some (.int .i64 (b : Int)) ∧ w'.cell? ⟨gc1, oc1 + k * 4 + 2, none⟩ = some (.int .i64 x2) ∧ w'.cell? ⟨gc1, oc1 + k * 4 + 3, none⟩ = some (.int .i64 x3) ∧ w'.cell? ⟨gg1, og1 + a * 5 + 3, none⟩ = some (.int .i64 am1) ∧ w'.cell? ⟨gg1, og1 + b * 5 + 3, none⟩ = some (.int .i64 am2)) (by kernel_rfl) ?_ (fun hHeld => ?_)
     ·(try dsimp only)
      exact sS _ hr2.drew.hb
     refine tkY 0 ?_; refine tkY 1 ?_; refine tkY 2 ?_; refine tkY 3 ?_; refine tkY 4 ?_; refine tkY 5 ?_; refine tkY 6 ?_; refine tkY 7 ?_; refine tkY 8 ?_; refine tkY 9 ?_; refine tkY 10 ?_; refine wpAnyH_ready (rs := [11]) (by kernel_rfl) (by simp) ?_; refine AllReadyH.cons (o := ⟨some 47, .call { callee := Callee.value (.func 72), args := #[.tmp 36, .const (Value.int IntKind.i64 61), .const (Value.int IntKind.i64 (-1)), .tmp 41, .tmp 46], argTypes := #[107, 35, 3, 3, 3] }, 0, "safety.go:195", #[⟨0, .data⟩, ⟨5, .data⟩, ⟨10, .data⟩], none⟩) rfl (fun K hK => ?_) AllReadyH.nil
     go_simp
     go_at_call 72
     (with_reducible refine Calls.mono (zAs w V _ rb _ _ F0 61 (-1) (a : Int) (b : Int) hr2.drew) ?_)
     rintro e w3 ⟨rfl, fa3, fc3, hr3, ts3⟩; have N3 := ts3.has N2.drew hnr (fun e => hn1 _ e rfl); have hn3 := ts3.far hn1 (fun q hq2 => by have e1 := N2.drew.1; omega)
     go_wp2_with fail
     refine hK.out _ _ ?_ (fun hHeld => ?_)
     ·(try dsimp only)
      exact sS _ hr3.hb
     clear hK K
     (try simp only [Act.put, List.setIfInBounds_toArray, List.set_cons_zero, List.set_cons_succ])
     refine wpAnyH_done (by kernel_rfl) ?_ _; refine NoPanic.normal ?_; generalize addF F0 ⟨61, -1, (a : Int), (b : Int)⟩ = F3 at *
     go_wp2_with fail
     refine wp_region_noPanic ?_; refine wp_region_held_drew (S := fun w' => w'.cell? ⟨gc1, oc1 + k * 4, none⟩ = some (.int .i64 (a : Int)) ∧ w'.cell? ⟨gc1, oc1 + k * 4 + 1, none⟩ = some (.int .i64 (b : Int)) ∧ w'.cell? ⟨gc1, oc1 + k * 4 + 2, none⟩ = some (.int .i64 x2) ∧ w'.cell? ⟨gc1, oc1 + k * 4 + 3, none⟩ = some (.int .i64 x3) ∧ w'.cell? ⟨gg1, og1 + a * 5 + 3, none⟩ = some (.int .i64 am1) ∧ w'.cell? ⟨gg1, og1 + b * 5 + 3, none⟩ = some (.int .i64 am2)) (by kernel_rfl) ?_ (fun hHeld => ?_)
     ·(try dsimp only)
      exact sS _ hr3.drew.hb
     refine tkY 0 ?_; refine tkY 1 ?_; refine tkY 2 ?_; refine tkY 3 ?_; refine tkY 4 ?_; refine tkY 5 ?_; refine tkY 6 ?_; refine tkY 7 ?_; refine tkY 8 ?_; refine tkY 9 ?_; refine tkY 10 ?_; refine tkY 11 ?_; refine tkY 12 ?_; refine tkY 13 ?_; refine tkY 14 ?_; refine wpAnyH_done (by kernel_rfl) ?_ _; refine NoPanic.normal ?_; have hr4 := hr3.drew; have N4 := N3.drew
     go_wp2_with fail
     go_roundw
     case rel => exact ⟨k + 1, _, _, _, by omega, by go_num, hq, hr4, N4, hn3⟩
     case measure => simp [intOf]; omega
   case neg =>
    by_cases c1 : x3 < am2
    case pos =>
     rw [if_neg c0] at hq; rw [if_pos c1] at hq; simp only [List.nil_append, List.append_nil, List.cons_append, igF, zDm, zAf] at hq; refine wp_region_noPanic ?_; refine wp_region_held_drew (S := fun w' => w'.cell? ⟨gc1, oc1 + k * 4, none⟩ = some (.int .i64 (a : Int)) ∧ w'.cell? ⟨gc1, oc1 + k * 4 + 1, none⟩ = some (.int .i64 (b : Int)) ∧ w'.cell? ⟨gc1, oc1 + k * 4 + 2, none⟩ = some (.int .i64 x2) ∧ w'.cell? ⟨gc1, oc1 + k * 4 + 3, none⟩ = some (.int .i64 x3) ∧ w'.cell? ⟨gg1, og1 + a * 5 + 3, none⟩ = some (.int .i64 am1) ∧ w'.cell? ⟨gg1, og1 + b * 5 + 3, none⟩ = some (.int .i64 am2)) (by kernel_rfl) ?_ (fun hHeld => ?_)
     ·(try dsimp only)
      exact sS _ hr0.drew.hb
     refine tkY 0 ?_; refine tkY 1 ?_; refine tkY 2 ?_; refine tkY 3 ?_; refine tkY 4 ?_; refine tkY 5 ?_; refine tkY 6 ?_; refine tkY 7 ?_; refine tkY 8 ?_; refine tkY 9 ?_; refine tkY 10 ?_; refine tkY 11 ?_; refine tkY 12 ?_; refine tkY 13 ?_; refine tkY 14 ?_; refine wpAnyH_done (by kernel_rfl) ?_ _; refine NoPanic.normal ?_; have hr2 := hr0.drew; have N2 := N1.drew
     go_wp2_with fail
     refine wp_region_noPanic ?_; refine wp_region_held_drew (S := fun w' => w'.cell? ⟨gc1, oc1 + k * 4, none⟩ = some (.int .i64 (a : Int)) ∧ w'.cell? ⟨gc1, oc1 + k * 4 + 1, none⟩ = some (.int .i64 (b : Int)) ∧ w'.cell? ⟨gc1, oc1 + k * 4 + 2, none⟩ = some (.int .i64 x2) ∧ w'.cell? ⟨gc1, oc1 + k * 4 + 3, none⟩ = some (.int .i64 x3) ∧ w'.cell? ⟨gg1, og1 + a * 5 + 3, none⟩ = some (.int .i64 am1) ∧ w'.cell? ⟨gg1, og1 + b * 5 + 3, none⟩ = some (.int .i64 am2)) (by kernel_rfl) ?_ (fun hHeld => ?_)
     ·(try dsimp only)
      exact sS _ hr2.drew.hb
     refine tkY 0 ?_; refine tkY 1 ?_; refine tkY 2 ?_; refine tkY 3 ?_; refine tkY 4 ?_; refine tkY 5 ?_; refine tkY 6 ?_; refine tkY 7 ?_; refine tkY 8 ?_; refine tkY 9 ?_; refine tkY 10 ?_; refine tkY 11 ?_; refine tkY 12 ?_; refine tkY 13 ?_; refine tkY 14 ?_; refine wpAnyH_done (by kernel_rfl) ?_ _; refine NoPanic.normal ?_; have hr3 := hr2.drew; have N3 := N2.drew
     go_wp2_with fail
     refine wp_region_noPanic ?_; refine wp_region_held_drew (S := fun w' => w'.cell? ⟨gc1, oc1 + k * 4, none⟩ = some (.int .i64 (a : Int)) ∧ w'.cell? ⟨gc1, oc1 + k * 4 + 1, none⟩ = some (.int .i64 (b : Int)) ∧ w'.cell? ⟨gc1, oc1 + k * 4 + 2, none⟩ = some (.int .i64 x2) ∧ w'.cell? ⟨gc1, oc1 + k * 4 + 3, none⟩ = some (.int .i64 x3) ∧ w'.cell? ⟨gg1, og1 + a * 5 + 3, none⟩ = some (.int .i64 am1) ∧ w'.cell? ⟨gg1, og1 + b * 5 + 3, none⟩ = some (.int .i64 am2)) (by kernel_rfl) ?_ (fun hHeld => ?_)
     ·(try dsimp only)
      exact sS _ hr3.drew.hb
     refine tkY 0 ?_; refine tkY 1 ?_; refine tkY 2 ?_; refine tkY 3 ?_; refine tkY 4 ?_; refine tkY 5 ?_; refine tkY 6 ?_; refine tkY 7 ?_; refine tkY 8 ?_; refine tkY 9 ?_; refine tkY 10 ?_; refine wpAnyH_ready (rs := [11]) (by kernel_rfl) (by simp) ?_; refine AllReadyH.cons (o := ⟨some 74, .call { callee := Callee.value (.func 72), args := #[.tmp 63, .const (Value.int IntKind.i64 61), .const (Value.int IntKind.i64 (-1)), .tmp 68, .tmp 73], argTypes := #[107, 35, 3, 3, 3] }, 0, "safety.go:198", #[⟨0, .data⟩, ⟨5, .data⟩, ⟨10, .data⟩], none⟩) rfl (fun K hK => ?_) AllReadyH.nil
     go_simp
     go_at_call 72
     (with_reducible refine Calls.mono (zAs w V _ rb _ _ F0 61 (-1) (b : Int) (a : Int) hr3.drew) ?_)
     rintro e w4 ⟨rfl, fa4, fc4, hr4, ts4⟩; have N4 := ts4.has N3.drew hnr (fun e => hn1 _ e rfl); have hn4 := ts4.far hn1 (fun q hq2 => by have e1 := N3.drew.1; omega)
     go_wp2_with fail
     refine hK.out _ _ ?_ (fun hHeld => ?_)
     ·(try dsimp only)
      exact sS _ hr4.hb
     clear hK K
     (try simp only [Act.put, List.setIfInBounds_toArray, List.set_cons_zero, List.set_cons_succ])
     refine wpAnyH_done (by kernel_rfl) ?_ _; refine NoPanic.normal ?_; generalize addF F0 ⟨61, -1, (b : Int), (a : Int)⟩ = F4 at *
     go_wp2_with fail
     go_roundw
     case rel => exact ⟨k + 1, _, _, _, by omega, by go_num, hq, hr4, N4, hn4⟩
     case measure => simp [intOf]; omega
    case neg =>
     rw [if_neg c0] at hq; rw [if_neg c1] at hq; simp only [List.nil_append, List.append_nil, List.cons_append, igF, zDm, zAf] at hq; refine wp_region_noPanic ?_; refine wp_region_held_drew (S := fun w' => w'.cell? ⟨gc1, oc1 + k * 4, none⟩ = some (.int .i64 (a : Int)) ∧ w'.cell? ⟨gc1, oc1 + k * 4 + 1, none⟩ = some (.int .i64 (b : Int)) ∧ w'.cell? ⟨gc1, oc1 + k * 4 + 2, none⟩ = some (.int .i64 x2) ∧ w'.cell? ⟨gc1, oc1 + k * 4 + 3, none⟩ = some (.int .i64 x3) ∧ w'.cell? ⟨gg1, og1 + a * 5 + 3, none⟩ = some (.int .i64 am1) ∧ w'.cell? ⟨gg1, og1 + b * 5 + 3, none⟩ = some (.int .i64 am2)) (by kernel_rfl) ?_ (fun hHeld => ?_)
     ·(try dsimp only)
      exact sS _ hr0.drew.hb
     refine tkY 0 ?_; refine tkY 1 ?_; refine tkY 2 ?_; refine tkY 3 ?_; refine tkY 4 ?_; refine tkY 5 ?_; refine tkY 6 ?_; refine tkY 7 ?_; refine tkY 8 ?_; refine tkY 9 ?_; refine tkY 10 ?_; refine tkY 11 ?_; refine tkY 12 ?_; refine tkY 13 ?_; refine tkY 14 ?_; refine wpAnyH_done (by kernel_rfl) ?_ _; refine NoPanic.normal ?_; have hr2 := hr0.drew; have N2 := N1.drew
     go_wp2_with fail
     refine wp_region_noPanic ?_; refine wp_region_held_drew (S := fun w' => w'.cell? ⟨gc1, oc1 + k * 4, none⟩ = some (.int .i64 (a : Int)) ∧ w'.cell? ⟨gc1, oc1 + k * 4 + 1, none⟩ = some (.int .i64 (b : Int)) ∧ w'.cell? ⟨gc1, oc1 + k * 4 + 2, none⟩ = some (.int .i64 x2) ∧ w'.cell? ⟨gc1, oc1 + k * 4 + 3, none⟩ = some (.int .i64 x3) ∧ w'.cell? ⟨gg1, og1 + a * 5 + 3, none⟩ = some (.int .i64 am1) ∧ w'.cell? ⟨gg1, og1 + b * 5 + 3, none⟩ = some (.int .i64 am2)) (by kernel_rfl) ?_ (fun hHeld => ?_)
     ·(try dsimp only)
      exact sS _ hr2.drew.hb
     refine tkY 0 ?_; refine tkY 1 ?_; refine tkY 2 ?_; refine tkY 3 ?_; refine tkY 4 ?_; refine tkY 5 ?_; refine tkY 6 ?_; refine tkY 7 ?_; refine tkY 8 ?_; refine tkY 9 ?_; refine tkY 10 ?_; refine tkY 11 ?_; refine tkY 12 ?_; refine tkY 13 ?_; refine tkY 14 ?_; refine wpAnyH_done (by kernel_rfl) ?_ _; refine NoPanic.normal ?_; have hr3 := hr2.drew; have N3 := N2.drew
     go_wp2_with fail
     go_roundw
     case rel => exact ⟨k + 1, _, _, _, by omega, by go_num, hq, hr3, N3, hn1⟩
     case measure => simp [intOf]; omega
  case neg =>
   have t1 : ¬ (k : Int) < (C.length : Int) := by omega
   rw [shL_end _ _ _ (by omega), igF, zAf] at hq; subst hq; clear kG hcf gr lG; obtain ⟨F9, hF9⟩ : ∃ x, x = F0 := ⟨_, rfl⟩; generalize hA : addL F0 (scF C 0 SG) = A; have hAA : Hid (addL F0 (scF C 0 SG) = A) := hA
   go_wp2_with fail
   obtain ⟨w9, hw9⟩ : ∃ x, x = wr := ⟨_, rfl⟩
   go_loopw [7] (fun u wr => ∃ (k : Nat) (fa0 : Option Addr) (fc0 : Nat) (F0 : List Fd), k ≤ SG.length ∧ u = .int .i64 (k : Int) ∧ Hid (addL F0 (scF C k (SG.drop k)) = A) ∧ Hid (FP w V rb fa0 fc0 F0 wr) ∧ Hid (Has wr nb #[.string pn, .slice ga G.length gc, .slice ca C.length cc, .slice da D.length dc, .slice ta TM.length tc, .slice ka CT.length kc, .slice va VR.length vc, .slice sa SG.length sc, .int .i64 stt]) ∧ Hid (∀ q, (Value.slice fa0 F0.length fc0).ownBlock = some q → q ≠ nb)) (fun u _ => SG.length - (intOf u).toNat)
   case atStart => exact ⟨0, fa0, fc0, F0, by omega, rfl, hA, hr0, N1, hn1⟩
   case round =>
    clear hA hr0 N1 hn1 hF9 hw9 hlt t1 hk; obtain ⟨k, fa0, fc0, F0, hk, rfl, hq', hr', N', hn'⟩ := hrel; have hq := hq'.out; have hr0 := hr'.out; have N1 := N'.out; have hn1 : ∀ q, (Value.slice fa0 F0.length fc0).ownBlock = some q → q ≠ nb := hn'.out; clear hq' hr' N' hn'; have cf := hr0.box.2.1 0; have cn := N1.2.1 7
    by_cases hlt : k < SG.length
    case neg =>
     have t1 : ¬ (k : Int) < (SG.length : Int) := by omega
     rw [scF_end _ _ _ (by omega), zAf] at hq
     go_wp2_with fail
     go_end0
     exact ⟨rfl, fa0, fc0, by rw [hAA.out, ← hq]; exact hr0⟩
    case pos =>
     have t1 : (k : Int) < (SG.length : Int) := by omega
     have t0 : (0 : Int) ≤ (k : Int) := by omega
     have t2 : k + 1 ≤ SG.length := hlt
     by_cases hfl : F0.length < 64
     case neg =>
      have t3 : ¬ (F0.length : Int) < 64 := by omega
      rw [addL_full (by omega)] at hq; have hqq : Hid (F0 = A) := hq; clear hq
      go_wp2_with fail
      go_end0
      exact ⟨rfl, fa0, fc0, by rw [hAA.out, ← hqq.out]; exact hr0⟩
     case pos =>
      have t3 : (F0.length : Int) < 64 := by omega
      obtain ⟨g, o, rfl, _, hg, hx⟩ := kS.resolve_left (by intro e; rw [e] at hlt; simp at hlt); obtain ⟨cs, _, ⟨ve, vd, vl, vn, rfl, q1, q2, q3, q4⟩, P2⟩ := hx k hlt; have p2 := P2 2 _ rfl; obtain ⟨gr1, gr2⟩ := hgr _ (List.getElem_mem hlt); rw [scF_drop C SG k hlt, zBh] at hq; obtain ⟨N, hN⟩ : ∃ N : Nat, SG[k].green = (N : Int) := ⟨SG[k].green.toNat, by omega⟩; rw [hN] at p2 gr2 hq; rw [Int.toNat_natCast] at hq; have hN2 : N < 18446744073709551616 := by omega
      clear hN gr1 gr2 hgr q1 q2 q3 q4 P2 hx kS
      go_wp2_with fail
      clear cf cn; obtain ⟨w8, hw8⟩ : ∃ x, x = wr := ⟨_, rfl⟩
      go_loopw [8] (fun u wr => ∃ (m : Nat) (fa0 : Option Addr) (fc0 : Nat) (F0 : List Fd), m ≤ C.length ∧ u = .int .i64 (m : Int) ∧ Hid (addL (addL F0 (scX k N (C.drop m))) (scF C (k + 1) (SG.drop (k + 1))) = A) ∧ Hid (FP w V rb fa0 fc0 F0 wr) ∧ Hid (Has wr nb #[.string pn, .slice ga G.length gc, .slice ca C.length cc, .slice da D.length dc, .slice ta TM.length tc, .slice ka CT.length kc, .slice va VR.length vc, .slice (some ⟨g, o, none⟩) SG.length sc, .int .i64 stt]) ∧ Hid (∀ q, (Value.slice fa0 F0.length fc0).ownBlock = some q → q ≠ nb)) (fun u _ => C.length - (intOf u).toNat)
      case atStart => exact ⟨0, fa0, fc0, F0, by omega, rfl, hq, hr0, N1, hn1⟩
      case round =>
       clear hq hr0 N1 hn1 hw8 hfl t3; obtain ⟨m, fa0, fc0, F0, hm, rfl, hq', hr', N', hn'⟩ := hrel; have hq := hq'.out; have hr0 := hr'.out; have N1 := N'.out; have hn1 : ∀ q, (Value.slice fa0 F0.length fc0).ownBlock = some q → q ≠ nb := hn'.out; clear hq' hr' N' hn'
       by_cases hlm : m < C.length
       case neg =>
        have t4 : ¬ (m : Int) < (C.length : Int) := by omega
        rw [scX_end _ _ _ _ (by omega), zAf] at hq
        go_wp2_with fail
        go_roundw
        case rel => exact ⟨k + 1, fa0, fc0, F0, by omega, by go_num, hq, hr0, N1, hn1⟩
        case measure => simp [intOf]; omega
       case pos =>
        obtain ⟨gc1, oc1, rfl, hgc1, P1⟩ := kF.resolve_left (by intro e; rw [e] at hlm; simp at hlm); have q0 := P1 m hlm 0 _ rfl; have q1 := P1 m hlm 1 _ rfl; simp only [Nat.add_zero] at q0; have oo := ok m hlm; have o1' := wf64 oo.1; have o2' := wf64 oo.2.1; rw [scX_drop k N C m hlm, zBh] at hq; have t4 : (m : Int) < (C.length : Int) := by omega
        have t5 : (0 : Int) ≤ (m : Int) := by omega
        have t6 : m + 1 ≤ C.length := hlm; clear P1 kF ok oo; generalize C[m].a = x0 at *; generalize C[m].b = x1 at *; have hHa := fun (W : World) => zDc N x0 W hN2 o1'
        have hHb := fun (W : World) => zDc N x1 W hN2 o2'
        have sS : ∀ X : World, Below w.heap.size w X → Has X nb #[.string pn, .slice ga G.length gc, .slice (some ⟨gc1, oc1, none⟩) C.length cc, .slice da D.length dc, .slice ta TM.length tc, .slice ka CT.length kc, .slice va VR.length vc, .slice (some ⟨g, o, none⟩) SG.length sc, .int .i64 stt] → X.cell? ⟨gc1, oc1 + m * 4, none⟩ = some (.int .i64 x0) ∧ X.cell? ⟨gc1, oc1 + m * 4 + 1, none⟩ = some (.int .i64 x1) ∧ X.cell? ⟨g, o + k * 7 + 2, none⟩ = some (.int .u64 (N : Int)) ∧ X.cell? ⟨nb, 7, none⟩ = some (.slice (some ⟨g, o, none⟩) SG.length sc) := fun X hX hN => ⟨(hX.cell (p := ⟨gc1, _, none⟩) hgc1).trans q0, (hX.cell (p := ⟨gc1, _, none⟩) hgc1).trans q1, (hX.cell (p := ⟨g, _, none⟩) hg).trans p2, hN.2.1 7⟩
        clear q0 q1; generalize hasN N x0 = b0 at *; generalize hasN N x1 = b9 at *
        go_wp2_with fail
        cases b0 with
        | false =>
          rw [if_neg (by simp), zAf] at hq; refine wp_region_noPanic ?_; refine wp_region_held_drew (S := fun w' => w'.cell? ⟨gc1, oc1 + m * 4, none⟩ = some (.int .i64 x0) ∧ w'.cell? ⟨gc1, oc1 + m * 4 + 1, none⟩ = some (.int .i64 x1) ∧ w'.cell? ⟨g, o + k * 7 + 2, none⟩ = some (.int .u64 (N : Int)) ∧ w'.cell? ⟨nb, 7, none⟩ = some (.slice (some ⟨g, o, none⟩) SG.length sc)) (by kernel_rfl) ?_ (fun hHeld => ?_)
          ·(try dsimp only)
           exact sS _ hr0.drew.hb N1.drew
          refine tkY 0 ?_; refine tkY 1 ?_; refine tkY 2 ?_; refine tkY 3 ?_; refine tkY 4 ?_; refine tkY 5 ?_; refine tkY 6 ?_; refine tkY 7 ?_; refine tkY 8 ?_; refine tkY 9 ?_; refine tkY 10 ?_; refine wpAnyH_ready (rs := [11]) (by kernel_rfl) (by simp) ?_; refine AllReadyH.cons (o := ⟨some 107, .call { callee := Callee.value (.func 73), args := #[.tmp 101, .tmp 106], argTypes := #[47, 3] }, 4, "safety.go:203", #[⟨5, .data⟩, ⟨10, .data⟩], none⟩) rfl (fun K hK => ?_) AllReadyH.nil
          go_simp
          go_at_call 73
          (with_reducible refine Calls.mono (hHa _) ?_)
          rintro e x9 ⟨rfl, rfl⟩
          go_wp2_with fail
          refine hK.out _ _ ?_ (fun hHeld => ?_)
          ·(try dsimp only)
           exact hHeld
          clear hK K
          (try simp only [Act.put, List.setIfInBounds_toArray, List.set_cons_zero, List.set_cons_succ])
          refine tkY 12 ?_; refine tkN 13 ?_; refine tkN 14 ?_; refine tkN 15 ?_; refine tkN 16 ?_; refine tkN 17 ?_; refine tkN 18 ?_; refine tkN 19 ?_; refine tkN 20 ?_; refine tkN 21 ?_; refine tkN 22 ?_; refine tkN 23 ?_; refine tkN 24 ?_; refine tkY 25 ?_; refine wpAnyH_done (by kernel_rfl) ?_ _; refine NoPanic.normal ?_
          go_wp2_with fail
          go_roundw
          case rel => exact ⟨m + 1, _, _, _, by omega, by go_num, hq, hr0.drew, N1.drew, hn1⟩
          case measure => simp [intOf]; omega
        | true =>
          cases b9 with
          | false =>
            rw [if_neg (by simp), zAf] at hq; refine wp_region_noPanic ?_; refine wp_region_held_drew (S := fun w' => w'.cell? ⟨gc1, oc1 + m * 4, none⟩ = some (.int .i64 x0) ∧ w'.cell? ⟨gc1, oc1 + m * 4 + 1, none⟩ = some (.int .i64 x1) ∧ w'.cell? ⟨g, o + k * 7 + 2, none⟩ = some (.int .u64 (N : Int)) ∧ w'.cell? ⟨nb, 7, none⟩ = some (.slice (some ⟨g, o, none⟩) SG.length sc)) (by kernel_rfl) ?_ (fun hHeld => ?_)
            ·(try dsimp only)
             exact sS _ hr0.drew.hb N1.drew
            refine tkY 0 ?_; refine tkY 1 ?_; refine tkY 2 ?_; refine tkY 3 ?_; refine tkY 4 ?_; refine tkY 5 ?_; refine tkY 6 ?_; refine tkY 7 ?_; refine tkY 8 ?_; refine tkY 9 ?_; refine tkY 10 ?_; refine wpAnyH_ready (rs := [11]) (by kernel_rfl) (by simp) ?_; refine AllReadyH.cons (o := ⟨some 107, .call { callee := Callee.value (.func 73), args := #[.tmp 101, .tmp 106], argTypes := #[47, 3] }, 4, "safety.go:203", #[⟨5, .data⟩, ⟨10, .data⟩], none⟩) rfl (fun K hK => ?_) AllReadyH.nil
            go_simp
            go_at_call 73
            (with_reducible refine Calls.mono (hHa _) ?_)
            rintro e x9 ⟨rfl, rfl⟩
            go_wp2_with fail
            refine hK.out _ _ ?_ (fun hHeld => ?_)
            ·(try dsimp only)
             exact hHeld
            clear hK K
            (try simp only [Act.put, List.setIfInBounds_toArray, List.set_cons_zero, List.set_cons_succ])
            refine tkY 12 ?_; refine tkY 13 ?_; refine tkY 14 ?_; refine tkY 15 ?_; refine tkY 16 ?_; refine tkY 17 ?_; refine tkY 18 ?_; refine tkY 19 ?_; refine tkY 20 ?_; refine tkY 21 ?_; refine tkY 22 ?_; refine tkY 23 ?_; refine wpAnyH_ready (rs := [24]) (by kernel_rfl) (by simp) ?_; refine AllReadyH.cons (o := ⟨some 120, .call { callee := Callee.value (.func 73), args := #[.tmp 114, .tmp 119], argTypes := #[47, 3] }, 4, "safety.go:203", #[⟨18, .data⟩, ⟨23, .data⟩, ⟨12, .chain⟩, ⟨12, .guard⟩], some (12, true)⟩) rfl (fun K hK => ?_) AllReadyH.nil
            go_simp
            go_at_call 73
            (with_reducible refine Calls.mono (hHb _) ?_)
            rintro e x9 ⟨rfl, rfl⟩
            go_wp2_with fail
            refine hK.out _ _ ?_ (fun hHeld => ?_)
            ·(try dsimp only)
             exact hHeld
            clear hK K
            (try simp only [Act.put, List.setIfInBounds_toArray, List.set_cons_zero, List.set_cons_succ])
            refine tkY 25 ?_; refine wpAnyH_done (by kernel_rfl) ?_ _; refine NoPanic.normal ?_
            go_wp2_with fail
            go_roundw
            case rel => exact ⟨m + 1, _, _, _, by omega, by go_num, hq, hr0.drew, N1.drew, hn1⟩
            case measure => simp [intOf]; omega
          | true =>
            rw [if_pos (show (true && true) = true from rfl), zAj] at hq; refine wp_region_noPanic ?_; refine wp_region_held_drew (S := fun w' => w'.cell? ⟨gc1, oc1 + m * 4, none⟩ = some (.int .i64 x0) ∧ w'.cell? ⟨gc1, oc1 + m * 4 + 1, none⟩ = some (.int .i64 x1) ∧ w'.cell? ⟨g, o + k * 7 + 2, none⟩ = some (.int .u64 (N : Int)) ∧ w'.cell? ⟨nb, 7, none⟩ = some (.slice (some ⟨g, o, none⟩) SG.length sc)) (by kernel_rfl) ?_ (fun hHeld => ?_)
            ·(try dsimp only)
             exact sS _ hr0.drew.hb N1.drew
            refine tkY 0 ?_; refine tkY 1 ?_; refine tkY 2 ?_; refine tkY 3 ?_; refine tkY 4 ?_; refine tkY 5 ?_; refine tkY 6 ?_; refine tkY 7 ?_; refine tkY 8 ?_; refine tkY 9 ?_; refine tkY 10 ?_; refine wpAnyH_ready (rs := [11]) (by kernel_rfl) (by simp) ?_; refine AllReadyH.cons (o := ⟨some 107, .call { callee := Callee.value (.func 73), args := #[.tmp 101, .tmp 106], argTypes := #[47, 3] }, 4, "safety.go:203", #[⟨5, .data⟩, ⟨10, .data⟩], none⟩) rfl (fun K hK => ?_) AllReadyH.nil
            go_simp
            go_at_call 73
            (with_reducible refine Calls.mono (hHa _) ?_)
            rintro e x9 ⟨rfl, rfl⟩
            go_wp2_with fail
            refine hK.out _ _ ?_ (fun hHeld => ?_)
            ·(try dsimp only)
             exact hHeld
            clear hK K
            (try simp only [Act.put, List.setIfInBounds_toArray, List.set_cons_zero, List.set_cons_succ])
            refine tkY 12 ?_; refine tkY 13 ?_; refine tkY 14 ?_; refine tkY 15 ?_; refine tkY 16 ?_; refine tkY 17 ?_; refine tkY 18 ?_; refine tkY 19 ?_; refine tkY 20 ?_; refine tkY 21 ?_; refine tkY 22 ?_; refine tkY 23 ?_; refine wpAnyH_ready (rs := [24]) (by kernel_rfl) (by simp) ?_; refine AllReadyH.cons (o := ⟨some 120, .call { callee := Callee.value (.func 73), args := #[.tmp 114, .tmp 119], argTypes := #[47, 3] }, 4, "safety.go:203", #[⟨18, .data⟩, ⟨23, .data⟩, ⟨12, .chain⟩, ⟨12, .guard⟩], some (12, true)⟩) rfl (fun K hK => ?_) AllReadyH.nil
            go_simp
            go_at_call 73
            (with_reducible refine Calls.mono (hHb _) ?_)
            rintro e x9 ⟨rfl, rfl⟩
            go_wp2_with fail
            refine hK.out _ _ ?_ (fun hHeld => ?_)
            ·(try dsimp only)
             exact hHeld
            clear hK K
            (try simp only [Act.put, List.setIfInBounds_toArray, List.set_cons_zero, List.set_cons_succ])
            refine tkY 25 ?_; refine wpAnyH_done (by kernel_rfl) ?_ _; refine NoPanic.normal ?_
            go_wp2_with fail
            refine wp_region_noPanic ?_; refine wp_region_held_drew (S := fun w' => w'.cell? ⟨gc1, oc1 + m * 4, none⟩ = some (.int .i64 x0) ∧ w'.cell? ⟨gc1, oc1 + m * 4 + 1, none⟩ = some (.int .i64 x1) ∧ w'.cell? ⟨g, o + k * 7 + 2, none⟩ = some (.int .u64 (N : Int)) ∧ w'.cell? ⟨nb, 7, none⟩ = some (.slice (some ⟨g, o, none⟩) SG.length sc)) (by kernel_rfl) ?_ (fun hHeld => ?_)
            ·(try dsimp only)
             exact sS _ hr0.drew.drew.hb N1.drew.drew
            refine tkY 0 ?_; refine tkY 1 ?_; refine tkY 2 ?_; refine tkY 3 ?_; refine tkY 4 ?_; refine tkY 5 ?_; refine tkY 6 ?_; refine tkY 7 ?_; refine tkY 8 ?_; refine tkY 9 ?_; refine tkY 10 ?_; refine tkY 11 ?_; refine wpAnyH_ready (rs := [12]) (by kernel_rfl) (by simp) ?_; refine AllReadyH.cons (o := ⟨some 134, .call { callee := Callee.value (.func 72), args := #[.tmp 122, .const (Value.int IntKind.i64 60), .tmp 123, .tmp 128, .tmp 133], argTypes := #[107, 35, 3, 3, 3] }, 0, "safety.go:204", #[⟨0, .data⟩, ⟨1, .data⟩, ⟨6, .data⟩, ⟨11, .data⟩], none⟩) rfl (fun K hK => ?_) AllReadyH.nil
            go_simp
            go_at_call 72
            (with_reducible refine Calls.mono (zAs w V _ rb _ _ F0 60 (k : Int) x0 x1 hr0.drew.drew) ?_)
            rintro e w2 ⟨rfl, fa2, fc2, hr2, ts2⟩; have N2 := ts2.has N1.drew.drew hnr (fun e => hn1 _ e rfl); have hn2 := ts2.far hn1 (fun q hq2 => by have e1 := N1.drew.drew.1; omega)
            go_wp2_with fail
            refine hK.out _ _ ?_ (fun hHeld => ?_)
            ·(try dsimp only)
             exact sS _ hr2.hb N2
            clear hK K
            (try simp only [Act.put, List.setIfInBounds_toArray, List.set_cons_zero, List.set_cons_succ])
            refine wpAnyH_done (by kernel_rfl) ?_ _; refine NoPanic.normal ?_
            go_wp2_with fail
            go_roundw
            case rel => exact ⟨m + 1, _, _, _, by omega, by go_num, hq, hr2, N2, hn2⟩
            case measure => simp [intOf]; omega
end Go.Proofs.YtjfieclmagbfbaaGreatDoor
