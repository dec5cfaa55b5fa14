import Derived.Test.YtjfieclmagbfbaaGreatDoorTlP7
set_option linter.unusedVariables false
set_option linter.unusedSimpArgs false
namespace Go.Proofs.YtjfieclmagbfbaaGreatDoor
open Go.RowKit
/-- fine, spoilt with whole numbers. -/
theorem fineI {n am V : Int} (N : Nat) (hN : n = (N : Int)) (w : World) (h2 : 2 ≤ N) (h26 : N ≤ 26) (a3 : 3 ≤ am) (a60 : am ≤ 60) (v1 : am ≤ V) (v2 : V ≤ 3060) :
    Calls Tryz.prog 6 #[.int .i64 n, .int .i64 am, .int .i64 V] w fun e w' => FinP N am V w e w' := by subst hN; exact fine_any N am V w h2 h26 a3 a60 v1 v2
/-- What spoilt answers is a plan with just the findings that it tells. -/
def SpQ (o : Nat → Nat) (B : Nat) (vG vC vS : Value) (N M : Nat) (w : World) (e : Ending) (w' : World) : Prop :=
  ∃ (G : List Gp) (C : List Cf) (SG : List Ts) (F : List Fd), Gd G C SG F ∧ G.length = N ∧ C.length = M ∧ SG.length = N ∧ SpP o B G C SG F vG vC vS w e w'
theorem spoil_all {kd i kk : Int} {n : Nat} {am V : Int} (I : Nat) (hI : i = (I : Int)) (hk : 0 ≤ kk) (o : Nat → Nat) (B : Nat) (C : List Cf) (Y : List Sv) (ga ca sa : Option Addr) (gc cc sc : Nat) (w : World) (h : Rg n am I) (hC : Cs n am V C) (hR : Hid (Rn o B w (gL n am) C Y (.slice ga n gc) (.slice ca C.length cc) (.slice sa n sc))) (hY : Y.map (·.x) = sL n) :
    Calls Tryz.prog 7 #[(.agg #[.string ⟨#[114, 105, 110, 103]⟩, .slice ga n gc, .slice ca C.length cc, .slice none 0 0, .slice none 0 0, .slice none 0 0, .slice none 0 0, .slice sa n sc, .int .i64 0]), .int .i64 kd, .int .i64 i, .int .i64 kk] w fun e w' => SpQ o B (.slice ga n gc) (.slice ca C.length cc) (.slice sa n sc) n C.length w e w' := by
  subst hI
  have lg := gL_len n am
  have ls := sL_len n
  by_cases k0 : kd = 0
  · subst k0; exact (spoil0 n am V I kk o B C Y ga ca sa gc cc sc w h hC hR hY).mono fun e w' q => ⟨_, _, _, _, gd0 h hC, gS_len _ _ _ _, rfl, ls, q⟩
  by_cases k1 : kd = 1
  · subst k1; exact (spoil1 n am V I kk o B C Y ga ca sa gc cc sc w h hC hR hY).mono fun e w' q => ⟨_, _, _, _, gd1 h hC, gS_len _ _ _ _, rfl, ls, q⟩
  by_cases k2 : kd = 2
  · subst k2; exact (spoil2 n am V I kk o B C Y ga ca sa gc cc sc w h hC hR hY).mono fun e w' q => ⟨_, _, _, _, gd2 h hC, gS_len _ _ _ _, rfl, ls, q⟩
  by_cases k3 : kd = 3
  · subst k3
    have n2 := h.n2
    have hCl : 0 < C.length := by
      obtain ⟨c, hc, _⟩ := pr_has hC.pr 0 1 (by omega) (by omega)
      exact List.length_pos_of_mem hc
    have hm : kk.toNat % C.length < C.length := Nat.mod_lt _ hCl
    have hkm : kk % (C.length : Int) = ((kk.toNat % C.length : Nat) : Int) := by rw [Int.natCast_emod, Int.toNat_of_nonneg hk]
    exact (spoil3 n am V I kk o B C Y ga ca sa gc cc sc w h hC hR hY _ hm hk hkm).mono fun e w' q => ⟨_, _, _, _, gd3 h hC hm, lg, List.length_set .., ls, q⟩
  by_cases k4 : kd = 4
  · subst k4; exact (spoil4 n am V I kk o B C Y ga ca sa gc cc sc w h hC hR hY).mono fun e w' q => ⟨_, _, _, _, gd4 h hC, lg, rfl, sS_len _ _ _, q⟩
  by_cases k5 : kd = 5
  · subst k5; exact (spoil5 n am V I kk o B C Y ga ca sa gc cc sc w h hC hR hY).mono fun e w' q => ⟨_, _, _, _, gd5 h hC, lg, rfl, sS_len _ _ _, q⟩
  by_cases k6 : kd = 6
  · subst k6; exact (spoil6 n am V I kk o B C Y ga ca sa gc cc sc w h hC hR hY).mono fun e w' q => ⟨_, _, _, _, gd6 h hC, lg, rfl, sS_len _ _ _, q⟩
  by_cases k7 : kd = 7
  · subst k7; exact (spoil7 n am V I kk o B C Y ga ca sa gc cc sc w h hC hR hY).mono fun e w' q => ⟨_, _, _, _, gd7 h hC, gS_len _ _ _ _, List.length_map .., ls, q⟩
  exact (spoilN n am V I kk o B C Y ga ca sa gc cc sc w h hC hR hY kd k0 k1 k2 k3 k4 k5 k6 k7).mono fun e w' q => ⟨_, _, _, _, gdN h hC, lg, rfl, ls, q⟩
/-- Check and Sound of such a plan. -/
theorem plan_calls {o : Nat → Nat} {B : Nat} {W : World} {G : List Gp} {C : List Cf} {SG : List Ts} {F : List Fd} {Y : List Sv} {ga ca sa : Option Addr} {gc cc sc n m : Nat} (q : Gd G C SG F) (hn : G.length = n) (hm : C.length = m) (hs : SG.length = n) (h : Rn o B W G C Y (.slice ga n gc) (.slice ca m cc) (.slice sa n sc)) (hY : Y.map (·.x) = SG) (tb : Tb W) (nt : Ndt W) :
    ∀ X : World, Below W.heap.size W X → (Calls Tryz.prog 8 #[.agg #[.string ⟨#[114, 105, 110, 103]⟩, .slice ga n gc, .slice ca m cc, .slice none 0 0, .slice none 0 0, .slice none 0 0, .slice none 0 0, .slice sa n sc, .int .i64 0]] X fun e w' => ∃ (fa : Option Addr) (fc : Nat), e = .returned (.tuple #[.slice fa F.length fc, .int .i64 0]) ∧ Hid (Fl 4 Fd.cs w' (.slice fa F.length fc) F) ∧ Below X.heap.size X w') ∧ (Calls Tryz.prog 9 #[.agg #[.string ⟨#[114, 105, 110, 103]⟩, .slice ga n gc, .slice ca m cc, .slice none 0 0, .slice none 0 0, .slice none 0 0, .slice none 0 0, .slice sa n sc, .int .i64 0]] X fun e w' => e = .returned (.bool true) ∧ Below X.heap.size X w') := by
  subst hn hm
  intro X hX
  have h' := h
  rw [← hs] at h'
  rw [show (Value.slice ga SG.length gc) = .slice ga G.length gc by rw [hs]] at h'
  have tp := (h'.tpl hY q).below hX
  have c := check_any G C [] [] [] [] SG ⟨#[114, 105, 110, 103]⟩ ga ca none none none none sa gc cc 0 0 0 0 sc 0 X tp (tb.wt.be hX) (nt.be hX) q.ok q.gr
  have d := sound9 G C [] [] [] [] SG ⟨#[114, 105, 110, 103]⟩ ga ca none none none none sa gc cc 0 0 0 0 sc 0 X tp (tb.below hX) q.gr
  rw [q.sd, hs] at c d
  refine ⟨c.mono fun e w' k => ?_, d⟩
  obtain ⟨R, fa, fc, r1, r2, r3, r4⟩ := k
  rw [q.ch R r1] at r2 r3
  exact ⟨fa, fc, r2, fl_ofK fd_len r3, r4⟩
set_option maxRecDepth 100000 in
set_option maxHeartbeats 4000000 in
theorem tellsA (n am mo kd i k : Int) (w : World) (tb : Tb w) (nt : Ndt w) (c0 : n < 2) :
    Calls Tryz.prog 3 #[.int .i64 n, .int .i64 am, .int .i64 mo, .int .i64 kd, .int .i64 i, .int .i64 k] w fun e w' => e = .returned (.bool true) ∧ Below w.heap.size w w' := by
  have hN : (3 : Int) = ((3 : Nat) : Int) := rfl
  have hI : (1 : Int) = ((1 : Nat) : Int) := rfl
  have rg : Rg 3 3 1 := ⟨by omega, by omega, by omega, by omega, by omega⟩
  have k6 := fineI (n := 3) (am := 3) (V := 3) 3 hN w (by omega) (by omega) (by omega) (by omega) (by omega) (by omega)
  have k7 := fun (o : Nat → Nat) (B : Nat) (C : List Cf) (Y : List Sv) (ga ca sa : Option Addr) (gc cc sc : Nat) (W : World) (hC : Cs 3 3 3 C) (hR : Hid (Rn o B W (gL 3 3) C Y (.slice ga 3 gc) (.slice ca C.length cc) (.slice sa 3 sc))) (hY : Y.map (·.x) = sL 3) => spoil_all (kd := kd) (i := 1) (kk := 0) 1 hI (by omega) o B C Y ga ca sa gc cc sc W rg hC hR hY
  have k7 := hideG k7
  have tb' := hideG tb
  have nt' := hideG nt
  clear tb nt rg hN hI
  go_enter Tryz.func3, Tryz.ntmps3
  go_wp2_with fail
  go_at_call 6
  refine Calls.mono k6 ?_
  rintro e w1 ⟨o, C, Y, ga, ca, sa, gc, cc, sc, rfl, hb1, hR, hY, hC⟩
  have hRb := hideG (hR.out.below (bel1 (.cells #[.string ⟨#[114, 105, 110, 103]⟩, .slice ga 3 gc, .slice ca C.length cc, .slice none 0 0, .slice none 0 0, .slice none 0 0, .slice none 0 0, .slice sa 3 sc, .int .i64 0] 31)))
  have K1 := Has.new w1 #[.string ⟨#[114, 105, 110, 103]⟩, .slice ga 3 gc, .slice ca C.length cc, .slice none 0 0, .slice none 0 0, .slice none 0 0, .slice none 0 0, .slice sa 3 sc, .int .i64 0] 31 rfl
  have k7' := k7.out o w.heap.size C Y ga ca sa gc cc sc _ hC hRb hY
  have hb2 : Below w.heap.size w (w1.alloc (.cells #[.string ⟨#[114, 105, 110, 103]⟩, .slice ga 3 gc, .slice ca C.length cc, .slice none 0 0, .slice none 0 0, .slice none 0 0, .slice none 0 0, .slice sa 3 sc, .int .i64 0] 31)) := hb1.alloc hb1.size _
  clear k6 k7 hRb
  obtain ⟨_, v1, v2⟩ := id K1
  go_wp2_with fail
  go_at_call 7
  refine Calls.mono k7' ?_
  rintro e w2 ⟨G2, C2, SG2, F, gd, hG2, hC2, hS2, Y2, fa, fc, rfl, hF, hR2, hY2, hO⟩
  have far : ∀ q, (Value.slice ga 3 gc).ownBlock = some q ∨ (Value.slice ca C.length cc).ownBlock = some q ∨ (Value.slice sa 3 sc).ownBlock = some q → w.heap.size ≤ q ∧ q < w1.heap.size := by
    rintro q (e | e | e)
    · exact own_lt hR.out.oG.own q e
    · exact own_lt hR.out.oC.own q e
    · exact own_lt hR.out.oS.own q e
  have hb3 : Below w.heap.size w w2 := bel_only hb2 hO (Nat.le_refl _) (fun q hq e => by have := (far q e).1; omega)
  have K2 := hideG (K1.only hO (fun e => by have := (far _ e).2; omega))
  have pc := hideG (plan_calls gd hG2 hC2 hS2 hR2.out hY2 (tb'.out.below hb3) (nt'.out.be hb3))
  have fl := hideG gd.fl
  clear k7' K1 v1 v2 hR hY hC hR2 hY2 gd far hO hG2 hC2 hS2 hb2 hb1 tb' nt'
  obtain ⟨_, v1, v2⟩ := id K2.out
  go_wp2_with fail
  go_at_call 8
  refine Calls.mono (pc.out _ (Below.refl _ _)).1 ?_
  rintro e w3 ⟨fa3, fc3, rfl, hF3, h3⟩
  have K3 := hideG (K2.out.below h3)
  have hF2 := hideG (hF.out.below h3)
  have hb4 := bel_after hb3 hb3.size h3
  clear v1 v2
  obtain ⟨_, v1, v2⟩ := id K3.out
  go_wp2_with fail
  go_at_call 9
  refine Calls.mono (pc.out _ h3).2 ?_
  rintro e w4 ⟨rfl, h4⟩
  have k10 := findings_any F _ _ w4 (hF3.out.below h4) (hF2.out.below h4) fl.out
  have hb5 := bel_after hb4 hb4.size h4
  clear v1 v2 K2 K3 hF hF2 hF3 pc
  go_wp2_with fail
  go_at_call 10
  refine Calls.mono k10 ?_
  rintro e w5 ⟨rfl, h5⟩
  have hb6 := bel_after hb5 hb5.size h5
  go_wp2_with fail
  go_ret
  exact ⟨rfl, hb6⟩
set_option maxRecDepth 100000 in
set_option maxHeartbeats 4000000 in
theorem tellsB (n am mo kd i k : Int) (w : World) (tb : Tb w) (nt : Ndt w) (c0 : ¬ n < 2) (c1 : 26 < n) :
    Calls Tryz.prog 3 #[.int .i64 n, .int .i64 am, .int .i64 mo, .int .i64 kd, .int .i64 i, .int .i64 k] w fun e w' => e = .returned (.bool true) ∧ Below w.heap.size w w' := by
  have hN : (3 : Int) = ((3 : Nat) : Int) := rfl
  have hI : (1 : Int) = ((1 : Nat) : Int) := rfl
  have rg : Rg 3 3 1 := ⟨by omega, by omega, by omega, by omega, by omega⟩
  have k6 := fineI (n := 3) (am := 3) (V := 3) 3 hN w (by omega) (by omega) (by omega) (by omega) (by omega) (by omega)
  have k7 := fun (o : Nat → Nat) (B : Nat) (C : List Cf) (Y : List Sv) (ga ca sa : Option Addr) (gc cc sc : Nat) (W : World) (hC : Cs 3 3 3 C) (hR : Hid (Rn o B W (gL 3 3) C Y (.slice ga 3 gc) (.slice ca C.length cc) (.slice sa 3 sc))) (hY : Y.map (·.x) = sL 3) => spoil_all (kd := kd) (i := 1) (kk := 0) 1 hI (by omega) o B C Y ga ca sa gc cc sc W rg hC hR hY
  have k7 := hideG k7
  have tb' := hideG tb
  have nt' := hideG nt
  clear tb nt rg hN hI
  go_enter Tryz.func3, Tryz.ntmps3
  go_wp2_with fail
  go_at_call 6
  refine Calls.mono k6 ?_
  rintro e w1 ⟨o, C, Y, ga, ca, sa, gc, cc, sc, rfl, hb1, hR, hY, hC⟩
  have hRb := hideG (hR.out.below (bel1 (.cells #[.string ⟨#[114, 105, 110, 103]⟩, .slice ga 3 gc, .slice ca C.length cc, .slice none 0 0, .slice none 0 0, .slice none 0 0, .slice none 0 0, .slice sa 3 sc, .int .i64 0] 31)))
  have K1 := Has.new w1 #[.string ⟨#[114, 105, 110, 103]⟩, .slice ga 3 gc, .slice ca C.length cc, .slice none 0 0, .slice none 0 0, .slice none 0 0, .slice none 0 0, .slice sa 3 sc, .int .i64 0] 31 rfl
  have k7' := k7.out o w.heap.size C Y ga ca sa gc cc sc _ hC hRb hY
  have hb2 : Below w.heap.size w (w1.alloc (.cells #[.string ⟨#[114, 105, 110, 103]⟩, .slice ga 3 gc, .slice ca C.length cc, .slice none 0 0, .slice none 0 0, .slice none 0 0, .slice none 0 0, .slice sa 3 sc, .int .i64 0] 31)) := hb1.alloc hb1.size _
  clear k6 k7 hRb
  obtain ⟨_, v1, v2⟩ := id K1
  go_wp2_with fail
  go_at_call 7
  refine Calls.mono k7' ?_
  rintro e w2 ⟨G2, C2, SG2, F, gd, hG2, hC2, hS2, Y2, fa, fc, rfl, hF, hR2, hY2, hO⟩
  have far : ∀ q, (Value.slice ga 3 gc).ownBlock = some q ∨ (Value.slice ca C.length cc).ownBlock = some q ∨ (Value.slice sa 3 sc).ownBlock = some q → w.heap.size ≤ q ∧ q < w1.heap.size := by
    rintro q (e | e | e)
    · exact own_lt hR.out.oG.own q e
    · exact own_lt hR.out.oC.own q e
    · exact own_lt hR.out.oS.own q e
  have hb3 : Below w.heap.size w w2 := bel_only hb2 hO (Nat.le_refl _) (fun q hq e => by have := (far q e).1; omega)
  have K2 := hideG (K1.only hO (fun e => by have := (far _ e).2; omega))
  have pc := hideG (plan_calls gd hG2 hC2 hS2 hR2.out hY2 (tb'.out.below hb3) (nt'.out.be hb3))
  have fl := hideG gd.fl
  clear k7' K1 v1 v2 hR hY hC hR2 hY2 gd far hO hG2 hC2 hS2 hb2 hb1 tb' nt'
  obtain ⟨_, v1, v2⟩ := id K2.out
  go_wp2_with fail
  go_at_call 8
  refine Calls.mono (pc.out _ (Below.refl _ _)).1 ?_
  rintro e w3 ⟨fa3, fc3, rfl, hF3, h3⟩
  have K3 := hideG (K2.out.below h3)
  have hF2 := hideG (hF.out.below h3)
  have hb4 := bel_after hb3 hb3.size h3
  clear v1 v2
  obtain ⟨_, v1, v2⟩ := id K3.out
  go_wp2_with fail
  go_at_call 9
  refine Calls.mono (pc.out _ h3).2 ?_
  rintro e w4 ⟨rfl, h4⟩
  have k10 := findings_any F _ _ w4 (hF3.out.below h4) (hF2.out.below h4) fl.out
  have hb5 := bel_after hb4 hb4.size h4
  clear v1 v2 K2 K3 hF hF2 hF3 pc
  go_wp2_with fail
  go_at_call 10
  refine Calls.mono k10 ?_
  rintro e w5 ⟨rfl, h5⟩
  have hb6 := bel_after hb5 hb5.size h5
  go_wp2_with fail
  go_ret
  exact ⟨rfl, hb6⟩
set_option maxRecDepth 100000 in
set_option maxHeartbeats 4000000 in
theorem tellsC (n am mo kd i k : Int) (w : World) (tb : Tb w) (nt : Ndt w) (c0 : ¬ n < 2) (c1 : ¬ 26 < n) (c2 : am < 3) :
    Calls Tryz.prog 3 #[.int .i64 n, .int .i64 am, .int .i64 mo, .int .i64 kd, .int .i64 i, .int .i64 k] w fun e w' => e = .returned (.bool true) ∧ Below w.heap.size w w' := by
  have hN : (3 : Int) = ((3 : Nat) : Int) := rfl
  have hI : (1 : Int) = ((1 : Nat) : Int) := rfl
  have rg : Rg 3 3 1 := ⟨by omega, by omega, by omega, by omega, by omega⟩
  have k6 := fineI (n := 3) (am := 3) (V := 3) 3 hN w (by omega) (by omega) (by omega) (by omega) (by omega) (by omega)
  have k7 := fun (o : Nat → Nat) (B : Nat) (C : List Cf) (Y : List Sv) (ga ca sa : Option Addr) (gc cc sc : Nat) (W : World) (hC : Cs 3 3 3 C) (hR : Hid (Rn o B W (gL 3 3) C Y (.slice ga 3 gc) (.slice ca C.length cc) (.slice sa 3 sc))) (hY : Y.map (·.x) = sL 3) => spoil_all (kd := kd) (i := 1) (kk := 0) 1 hI (by omega) o B C Y ga ca sa gc cc sc W rg hC hR hY
  have k7 := hideG k7
  have tb' := hideG tb
  have nt' := hideG nt
  clear tb nt rg hN hI
  go_enter Tryz.func3, Tryz.ntmps3
  go_wp2_with fail
  go_at_call 6
  refine Calls.mono k6 ?_
  rintro e w1 ⟨o, C, Y, ga, ca, sa, gc, cc, sc, rfl, hb1, hR, hY, hC⟩
  have hRb := hideG (hR.out.below (bel1 (.cells #[.string ⟨#[114, 105, 110, 103]⟩, .slice ga 3 gc, .slice ca C.length cc, .slice none 0 0, .slice none 0 0, .slice none 0 0, .slice none 0 0, .slice sa 3 sc, .int .i64 0] 31)))
  have K1 := Has.new w1 #[.string ⟨#[114, 105, 110, 103]⟩, .slice ga 3 gc, .slice ca C.length cc, .slice none 0 0, .slice none 0 0, .slice none 0 0, .slice none 0 0, .slice sa 3 sc, .int .i64 0] 31 rfl
  have k7' := k7.out o w.heap.size C Y ga ca sa gc cc sc _ hC hRb hY
  have hb2 : Below w.heap.size w (w1.alloc (.cells #[.string ⟨#[114, 105, 110, 103]⟩, .slice ga 3 gc, .slice ca C.length cc, .slice none 0 0, .slice none 0 0, .slice none 0 0, .slice none 0 0, .slice sa 3 sc, .int .i64 0] 31)) := hb1.alloc hb1.size _
  clear k6 k7 hRb
  obtain ⟨_, v1, v2⟩ := id K1
  go_wp2_with fail
  go_at_call 7
  refine Calls.mono k7' ?_
  rintro e w2 ⟨G2, C2, SG2, F, gd, hG2, hC2, hS2, Y2, fa, fc, rfl, hF, hR2, hY2, hO⟩
  have far : ∀ q, (Value.slice ga 3 gc).ownBlock = some q ∨ (Value.slice ca C.length cc).ownBlock = some q ∨ (Value.slice sa 3 sc).ownBlock = some q → w.heap.size ≤ q ∧ q < w1.heap.size := by
    rintro q (e | e | e)
    · exact own_lt hR.out.oG.own q e
    · exact own_lt hR.out.oC.own q e
    · exact own_lt hR.out.oS.own q e
  have hb3 : Below w.heap.size w w2 := bel_only hb2 hO (Nat.le_refl _) (fun q hq e => by have := (far q e).1; omega)
  have K2 := hideG (K1.only hO (fun e => by have := (far _ e).2; omega))
  have pc := hideG (plan_calls gd hG2 hC2 hS2 hR2.out hY2 (tb'.out.below hb3) (nt'.out.be hb3))
  have fl := hideG gd.fl
  clear k7' K1 v1 v2 hR hY hC hR2 hY2 gd far hO hG2 hC2 hS2 hb2 hb1 tb' nt'
  obtain ⟨_, v1, v2⟩ := id K2.out
  go_wp2_with fail
  go_at_call 8
  refine Calls.mono (pc.out _ (Below.refl _ _)).1 ?_
  rintro e w3 ⟨fa3, fc3, rfl, hF3, h3⟩
  have K3 := hideG (K2.out.below h3)
  have hF2 := hideG (hF.out.below h3)
  have hb4 := bel_after hb3 hb3.size h3
  clear v1 v2
  obtain ⟨_, v1, v2⟩ := id K3.out
  go_wp2_with fail
  go_at_call 9
  refine Calls.mono (pc.out _ h3).2 ?_
  rintro e w4 ⟨rfl, h4⟩
  have k10 := findings_any F _ _ w4 (hF3.out.below h4) (hF2.out.below h4) fl.out
  have hb5 := bel_after hb4 hb4.size h4
  clear v1 v2 K2 K3 hF hF2 hF3 pc
  go_wp2_with fail
  go_at_call 10
  refine Calls.mono k10 ?_
  rintro e w5 ⟨rfl, h5⟩
  have hb6 := bel_after hb5 hb5.size h5
  go_wp2_with fail
  go_ret
  exact ⟨rfl, hb6⟩
set_option maxRecDepth 100000 in
set_option maxHeartbeats 4000000 in
theorem tellsD (n am mo kd i k : Int) (w : World) (tb : Tb w) (nt : Ndt w) (c0 : ¬ n < 2) (c1 : ¬ 26 < n) (c2 : ¬ am < 3) (c3 : 60 < am) :
    Calls Tryz.prog 3 #[.int .i64 n, .int .i64 am, .int .i64 mo, .int .i64 kd, .int .i64 i, .int .i64 k] w fun e w' => e = .returned (.bool true) ∧ Below w.heap.size w w' := by
  have hN : (3 : Int) = ((3 : Nat) : Int) := rfl
  have hI : (1 : Int) = ((1 : Nat) : Int) := rfl
  have rg : Rg 3 3 1 := ⟨by omega, by omega, by omega, by omega, by omega⟩
  have k6 := fineI (n := 3) (am := 3) (V := 3) 3 hN w (by omega) (by omega) (by omega) (by omega) (by omega) (by omega)
  have k7 := fun (o : Nat → Nat) (B : Nat) (C : List Cf) (Y : List Sv) (ga ca sa : Option Addr) (gc cc sc : Nat) (W : World) (hC : Cs 3 3 3 C) (hR : Hid (Rn o B W (gL 3 3) C Y (.slice ga 3 gc) (.slice ca C.length cc) (.slice sa 3 sc))) (hY : Y.map (·.x) = sL 3) => spoil_all (kd := kd) (i := 1) (kk := 0) 1 hI (by omega) o B C Y ga ca sa gc cc sc W rg hC hR hY
  have k7 := hideG k7
  have tb' := hideG tb
  have nt' := hideG nt
  clear tb nt rg hN hI
  go_enter Tryz.func3, Tryz.ntmps3
  go_wp2_with fail
  go_at_call 6
  refine Calls.mono k6 ?_
  rintro e w1 ⟨o, C, Y, ga, ca, sa, gc, cc, sc, rfl, hb1, hR, hY, hC⟩
  have hRb := hideG (hR.out.below (bel1 (.cells #[.string ⟨#[114, 105, 110, 103]⟩, .slice ga 3 gc, .slice ca C.length cc, .slice none 0 0, .slice none 0 0, .slice none 0 0, .slice none 0 0, .slice sa 3 sc, .int .i64 0] 31)))
  have K1 := Has.new w1 #[.string ⟨#[114, 105, 110, 103]⟩, .slice ga 3 gc, .slice ca C.length cc, .slice none 0 0, .slice none 0 0, .slice none 0 0, .slice none 0 0, .slice sa 3 sc, .int .i64 0] 31 rfl
  have k7' := k7.out o w.heap.size C Y ga ca sa gc cc sc _ hC hRb hY
  have hb2 : Below w.heap.size w (w1.alloc (.cells #[.string ⟨#[114, 105, 110, 103]⟩, .slice ga 3 gc, .slice ca C.length cc, .slice none 0 0, .slice none 0 0, .slice none 0 0, .slice none 0 0, .slice sa 3 sc, .int .i64 0] 31)) := hb1.alloc hb1.size _
  clear k6 k7 hRb
  obtain ⟨_, v1, v2⟩ := id K1
  go_wp2_with fail
  go_at_call 7
  refine Calls.mono k7' ?_
  rintro e w2 ⟨G2, C2, SG2, F, gd, hG2, hC2, hS2, Y2, fa, fc, rfl, hF, hR2, hY2, hO⟩
  have far : ∀ q, (Value.slice ga 3 gc).ownBlock = some q ∨ (Value.slice ca C.length cc).ownBlock = some q ∨ (Value.slice sa 3 sc).ownBlock = some q → w.heap.size ≤ q ∧ q < w1.heap.size := by
    rintro q (e | e | e)
    · exact own_lt hR.out.oG.own q e
    · exact own_lt hR.out.oC.own q e
    · exact own_lt hR.out.oS.own q e
  have hb3 : Below w.heap.size w w2 := bel_only hb2 hO (Nat.le_refl _) (fun q hq e => by have := (far q e).1; omega)
  have K2 := hideG (K1.only hO (fun e => by have := (far _ e).2; omega))
  have pc := hideG (plan_calls gd hG2 hC2 hS2 hR2.out hY2 (tb'.out.below hb3) (nt'.out.be hb3))
  have fl := hideG gd.fl
  clear k7' K1 v1 v2 hR hY hC hR2 hY2 gd far hO hG2 hC2 hS2 hb2 hb1 tb' nt'
  obtain ⟨_, v1, v2⟩ := id K2.out
  go_wp2_with fail
  go_at_call 8
  refine Calls.mono (pc.out _ (Below.refl _ _)).1 ?_
  rintro e w3 ⟨fa3, fc3, rfl, hF3, h3⟩
  have K3 := hideG (K2.out.below h3)
  have hF2 := hideG (hF.out.below h3)
  have hb4 := bel_after hb3 hb3.size h3
  clear v1 v2
  obtain ⟨_, v1, v2⟩ := id K3.out
  go_wp2_with fail
  go_at_call 9
  refine Calls.mono (pc.out _ h3).2 ?_
  rintro e w4 ⟨rfl, h4⟩
  have k10 := findings_any F _ _ w4 (hF3.out.below h4) (hF2.out.below h4) fl.out
  have hb5 := bel_after hb4 hb4.size h4
  clear v1 v2 K2 K3 hF hF2 hF3 pc
  go_wp2_with fail
  go_at_call 10
  refine Calls.mono k10 ?_
  rintro e w5 ⟨rfl, h5⟩
  have hb6 := bel_after hb5 hb5.size h5
  go_wp2_with fail
  go_ret
  exact ⟨rfl, hb6⟩
set_option maxRecDepth 100000 in
set_option maxHeartbeats 4000000 in
theorem tellsE (n am mo kd i k : Int) (w : World) (tb : Tb w) (nt : Ndt w) (c0 : ¬ n < 2) (c1 : ¬ 26 < n) (c2 : ¬ am < 3) (c3 : ¬ 60 < am) (c4 : mo < 0) :
    Calls Tryz.prog 3 #[.int .i64 n, .int .i64 am, .int .i64 mo, .int .i64 kd, .int .i64 i, .int .i64 k] w fun e w' => e = .returned (.bool true) ∧ Below w.heap.size w w' := by
  have hN : (3 : Int) = ((3 : Nat) : Int) := rfl
  have hI : (1 : Int) = ((1 : Nat) : Int) := rfl
  have rg : Rg 3 3 1 := ⟨by omega, by omega, by omega, by omega, by omega⟩
  have k6 := fineI (n := 3) (am := 3) (V := 3) 3 hN w (by omega) (by omega) (by omega) (by omega) (by omega) (by omega)
  have k7 := fun (o : Nat → Nat) (B : Nat) (C : List Cf) (Y : List Sv) (ga ca sa : Option Addr) (gc cc sc : Nat) (W : World) (hC : Cs 3 3 3 C) (hR : Hid (Rn o B W (gL 3 3) C Y (.slice ga 3 gc) (.slice ca C.length cc) (.slice sa 3 sc))) (hY : Y.map (·.x) = sL 3) => spoil_all (kd := kd) (i := 1) (kk := 0) 1 hI (by omega) o B C Y ga ca sa gc cc sc W rg hC hR hY
  have k7 := hideG k7
  have tb' := hideG tb
  have nt' := hideG nt
  clear tb nt rg hN hI
  go_enter Tryz.func3, Tryz.ntmps3
  go_wp2_with fail
  go_at_call 6
  refine Calls.mono k6 ?_
  rintro e w1 ⟨o, C, Y, ga, ca, sa, gc, cc, sc, rfl, hb1, hR, hY, hC⟩
  have hRb := hideG (hR.out.below (bel1 (.cells #[.string ⟨#[114, 105, 110, 103]⟩, .slice ga 3 gc, .slice ca C.length cc, .slice none 0 0, .slice none 0 0, .slice none 0 0, .slice none 0 0, .slice sa 3 sc, .int .i64 0] 31)))
  have K1 := Has.new w1 #[.string ⟨#[114, 105, 110, 103]⟩, .slice ga 3 gc, .slice ca C.length cc, .slice none 0 0, .slice none 0 0, .slice none 0 0, .slice none 0 0, .slice sa 3 sc, .int .i64 0] 31 rfl
  have k7' := k7.out o w.heap.size C Y ga ca sa gc cc sc _ hC hRb hY
  have hb2 : Below w.heap.size w (w1.alloc (.cells #[.string ⟨#[114, 105, 110, 103]⟩, .slice ga 3 gc, .slice ca C.length cc, .slice none 0 0, .slice none 0 0, .slice none 0 0, .slice none 0 0, .slice sa 3 sc, .int .i64 0] 31)) := hb1.alloc hb1.size _
  clear k6 k7 hRb
  obtain ⟨_, v1, v2⟩ := id K1
  go_wp2_with fail
  go_at_call 7
  refine Calls.mono k7' ?_
  rintro e w2 ⟨G2, C2, SG2, F, gd, hG2, hC2, hS2, Y2, fa, fc, rfl, hF, hR2, hY2, hO⟩
  have far : ∀ q, (Value.slice ga 3 gc).ownBlock = some q ∨ (Value.slice ca C.length cc).ownBlock = some q ∨ (Value.slice sa 3 sc).ownBlock = some q → w.heap.size ≤ q ∧ q < w1.heap.size := by
    rintro q (e | e | e)
    · exact own_lt hR.out.oG.own q e
    · exact own_lt hR.out.oC.own q e
    · exact own_lt hR.out.oS.own q e
  have hb3 : Below w.heap.size w w2 := bel_only hb2 hO (Nat.le_refl _) (fun q hq e => by have := (far q e).1; omega)
  have K2 := hideG (K1.only hO (fun e => by have := (far _ e).2; omega))
  have pc := hideG (plan_calls gd hG2 hC2 hS2 hR2.out hY2 (tb'.out.below hb3) (nt'.out.be hb3))
  have fl := hideG gd.fl
  clear k7' K1 v1 v2 hR hY hC hR2 hY2 gd far hO hG2 hC2 hS2 hb2 hb1 tb' nt'
  obtain ⟨_, v1, v2⟩ := id K2.out
  go_wp2_with fail
  go_at_call 8
  refine Calls.mono (pc.out _ (Below.refl _ _)).1 ?_
  rintro e w3 ⟨fa3, fc3, rfl, hF3, h3⟩
  have K3 := hideG (K2.out.below h3)
  have hF2 := hideG (hF.out.below h3)
  have hb4 := bel_after hb3 hb3.size h3
  clear v1 v2
  obtain ⟨_, v1, v2⟩ := id K3.out
  go_wp2_with fail
  go_at_call 9
  refine Calls.mono (pc.out _ h3).2 ?_
  rintro e w4 ⟨rfl, h4⟩
  have k10 := findings_any F _ _ w4 (hF3.out.below h4) (hF2.out.below h4) fl.out
  have hb5 := bel_after hb4 hb4.size h4
  clear v1 v2 K2 K3 hF hF2 hF3 pc
  go_wp2_with fail
  go_at_call 10
  refine Calls.mono k10 ?_
  rintro e w5 ⟨rfl, h5⟩
  have hb6 := bel_after hb5 hb5.size h5
  go_wp2_with fail
  go_ret
  exact ⟨rfl, hb6⟩
set_option maxRecDepth 100000 in
set_option maxHeartbeats 4000000 in
theorem tellsF (n am mo kd i k : Int) (w : World) (tb : Tb w) (nt : Ndt w) (c0 : ¬ n < 2) (c1 : ¬ 26 < n) (c2 : ¬ am < 3) (c3 : ¬ 60 < am) (c4 : ¬ mo < 0) (c5 : 3000 < mo) :
    Calls Tryz.prog 3 #[.int .i64 n, .int .i64 am, .int .i64 mo, .int .i64 kd, .int .i64 i, .int .i64 k] w fun e w' => e = .returned (.bool true) ∧ Below w.heap.size w w' := by
  have hN : (3 : Int) = ((3 : Nat) : Int) := rfl
  have hI : (1 : Int) = ((1 : Nat) : Int) := rfl
  have rg : Rg 3 3 1 := ⟨by omega, by omega, by omega, by omega, by omega⟩
  have k6 := fineI (n := 3) (am := 3) (V := 3) 3 hN w (by omega) (by omega) (by omega) (by omega) (by omega) (by omega)
  have k7 := fun (o : Nat → Nat) (B : Nat) (C : List Cf) (Y : List Sv) (ga ca sa : Option Addr) (gc cc sc : Nat) (W : World) (hC : Cs 3 3 3 C) (hR : Hid (Rn o B W (gL 3 3) C Y (.slice ga 3 gc) (.slice ca C.length cc) (.slice sa 3 sc))) (hY : Y.map (·.x) = sL 3) => spoil_all (kd := kd) (i := 1) (kk := 0) 1 hI (by omega) o B C Y ga ca sa gc cc sc W rg hC hR hY
  have k7 := hideG k7
  have tb' := hideG tb
  have nt' := hideG nt
  clear tb nt rg hN hI
  go_enter Tryz.func3, Tryz.ntmps3
  go_wp2_with fail
  go_at_call 6
  refine Calls.mono k6 ?_
  rintro e w1 ⟨o, C, Y, ga, ca, sa, gc, cc, sc, rfl, hb1, hR, hY, hC⟩
  have hRb := hideG (hR.out.below (bel1 (.cells #[.string ⟨#[114, 105, 110, 103]⟩, .slice ga 3 gc, .slice ca C.length cc, .slice none 0 0, .slice none 0 0, .slice none 0 0, .slice none 0 0, .slice sa 3 sc, .int .i64 0] 31)))
  have K1 := Has.new w1 #[.string ⟨#[114, 105, 110, 103]⟩, .slice ga 3 gc, .slice ca C.length cc, .slice none 0 0, .slice none 0 0, .slice none 0 0, .slice none 0 0, .slice sa 3 sc, .int .i64 0] 31 rfl
  have k7' := k7.out o w.heap.size C Y ga ca sa gc cc sc _ hC hRb hY
  have hb2 : Below w.heap.size w (w1.alloc (.cells #[.string ⟨#[114, 105, 110, 103]⟩, .slice ga 3 gc, .slice ca C.length cc, .slice none 0 0, .slice none 0 0, .slice none 0 0, .slice none 0 0, .slice sa 3 sc, .int .i64 0] 31)) := hb1.alloc hb1.size _
  clear k6 k7 hRb
  obtain ⟨_, v1, v2⟩ := id K1
  go_wp2_with fail
  go_at_call 7
  refine Calls.mono k7' ?_
  rintro e w2 ⟨G2, C2, SG2, F, gd, hG2, hC2, hS2, Y2, fa, fc, rfl, hF, hR2, hY2, hO⟩
  have far : ∀ q, (Value.slice ga 3 gc).ownBlock = some q ∨ (Value.slice ca C.length cc).ownBlock = some q ∨ (Value.slice sa 3 sc).ownBlock = some q → w.heap.size ≤ q ∧ q < w1.heap.size := by
    rintro q (e | e | e)
    · exact own_lt hR.out.oG.own q e
    · exact own_lt hR.out.oC.own q e
    · exact own_lt hR.out.oS.own q e
  have hb3 : Below w.heap.size w w2 := bel_only hb2 hO (Nat.le_refl _) (fun q hq e => by have := (far q e).1; omega)
  have K2 := hideG (K1.only hO (fun e => by have := (far _ e).2; omega))
  have pc := hideG (plan_calls gd hG2 hC2 hS2 hR2.out hY2 (tb'.out.below hb3) (nt'.out.be hb3))
  have fl := hideG gd.fl
  clear k7' K1 v1 v2 hR hY hC hR2 hY2 gd far hO hG2 hC2 hS2 hb2 hb1 tb' nt'
  obtain ⟨_, v1, v2⟩ := id K2.out
  go_wp2_with fail
  go_at_call 8
  refine Calls.mono (pc.out _ (Below.refl _ _)).1 ?_
  rintro e w3 ⟨fa3, fc3, rfl, hF3, h3⟩
  have K3 := hideG (K2.out.below h3)
  have hF2 := hideG (hF.out.below h3)
  have hb4 := bel_after hb3 hb3.size h3
  clear v1 v2
  obtain ⟨_, v1, v2⟩ := id K3.out
  go_wp2_with fail
  go_at_call 9
  refine Calls.mono (pc.out _ h3).2 ?_
  rintro e w4 ⟨rfl, h4⟩
  have k10 := findings_any F _ _ w4 (hF3.out.below h4) (hF2.out.below h4) fl.out
  have hb5 := bel_after hb4 hb4.size h4
  clear v1 v2 K2 K3 hF hF2 hF3 pc
  go_wp2_with fail
  go_at_call 10
  refine Calls.mono k10 ?_
  rintro e w5 ⟨rfl, h5⟩
  have hb6 := bel_after hb5 hb5.size h5
  go_wp2_with fail
  go_ret
  exact ⟨rfl, hb6⟩
set_option maxRecDepth 100000 in
set_option maxHeartbeats 4000000 in
theorem tellsG (n am mo kd i k : Int) (w : World) (tb : Tb w) (nt : Ndt w) (c0 : ¬ n < 2) (c1 : ¬ 26 < n) (c2 : ¬ am < 3) (c3 : ¬ 60 < am) (c4 : ¬ mo < 0) (c5 : ¬ 3000 < mo) (c6 : i < 0) :
    Calls Tryz.prog 3 #[.int .i64 n, .int .i64 am, .int .i64 mo, .int .i64 kd, .int .i64 i, .int .i64 k] w fun e w' => e = .returned (.bool true) ∧ Below w.heap.size w w' := by
  have hN : (3 : Int) = ((3 : Nat) : Int) := rfl
  have hI : (1 : Int) = ((1 : Nat) : Int) := rfl
  have rg : Rg 3 3 1 := ⟨by omega, by omega, by omega, by omega, by omega⟩
  have k6 := fineI (n := 3) (am := 3) (V := 3) 3 hN w (by omega) (by omega) (by omega) (by omega) (by omega) (by omega)
  have k7 := fun (o : Nat → Nat) (B : Nat) (C : List Cf) (Y : List Sv) (ga ca sa : Option Addr) (gc cc sc : Nat) (W : World) (hC : Cs 3 3 3 C) (hR : Hid (Rn o B W (gL 3 3) C Y (.slice ga 3 gc) (.slice ca C.length cc) (.slice sa 3 sc))) (hY : Y.map (·.x) = sL 3) => spoil_all (kd := kd) (i := 1) (kk := 0) 1 hI (by omega) o B C Y ga ca sa gc cc sc W rg hC hR hY
  have k7 := hideG k7
  have tb' := hideG tb
  have nt' := hideG nt
  clear tb nt rg hN hI
  go_enter Tryz.func3, Tryz.ntmps3
  go_wp2_with fail
  go_at_call 6
  refine Calls.mono k6 ?_
  rintro e w1 ⟨o, C, Y, ga, ca, sa, gc, cc, sc, rfl, hb1, hR, hY, hC⟩
  have hRb := hideG (hR.out.below (bel1 (.cells #[.string ⟨#[114, 105, 110, 103]⟩, .slice ga 3 gc, .slice ca C.length cc, .slice none 0 0, .slice none 0 0, .slice none 0 0, .slice none 0 0, .slice sa 3 sc, .int .i64 0] 31)))
  have K1 := Has.new w1 #[.string ⟨#[114, 105, 110, 103]⟩, .slice ga 3 gc, .slice ca C.length cc, .slice none 0 0, .slice none 0 0, .slice none 0 0, .slice none 0 0, .slice sa 3 sc, .int .i64 0] 31 rfl
  have k7' := k7.out o w.heap.size C Y ga ca sa gc cc sc _ hC hRb hY
  have hb2 : Below w.heap.size w (w1.alloc (.cells #[.string ⟨#[114, 105, 110, 103]⟩, .slice ga 3 gc, .slice ca C.length cc, .slice none 0 0, .slice none 0 0, .slice none 0 0, .slice none 0 0, .slice sa 3 sc, .int .i64 0] 31)) := hb1.alloc hb1.size _
  clear k6 k7 hRb
  obtain ⟨_, v1, v2⟩ := id K1
  go_wp2_with fail
  go_at_call 7
  refine Calls.mono k7' ?_
  rintro e w2 ⟨G2, C2, SG2, F, gd, hG2, hC2, hS2, Y2, fa, fc, rfl, hF, hR2, hY2, hO⟩
  have far : ∀ q, (Value.slice ga 3 gc).ownBlock = some q ∨ (Value.slice ca C.length cc).ownBlock = some q ∨ (Value.slice sa 3 sc).ownBlock = some q → w.heap.size ≤ q ∧ q < w1.heap.size := by
    rintro q (e | e | e)
    · exact own_lt hR.out.oG.own q e
    · exact own_lt hR.out.oC.own q e
    · exact own_lt hR.out.oS.own q e
  have hb3 : Below w.heap.size w w2 := bel_only hb2 hO (Nat.le_refl _) (fun q hq e => by have := (far q e).1; omega)
  have K2 := hideG (K1.only hO (fun e => by have := (far _ e).2; omega))
  have pc := hideG (plan_calls gd hG2 hC2 hS2 hR2.out hY2 (tb'.out.below hb3) (nt'.out.be hb3))
  have fl := hideG gd.fl
  clear k7' K1 v1 v2 hR hY hC hR2 hY2 gd far hO hG2 hC2 hS2 hb2 hb1 tb' nt'
  obtain ⟨_, v1, v2⟩ := id K2.out
  go_wp2_with fail
  go_at_call 8
  refine Calls.mono (pc.out _ (Below.refl _ _)).1 ?_
  rintro e w3 ⟨fa3, fc3, rfl, hF3, h3⟩
  have K3 := hideG (K2.out.below h3)
  have hF2 := hideG (hF.out.below h3)
  have hb4 := bel_after hb3 hb3.size h3
  clear v1 v2
  obtain ⟨_, v1, v2⟩ := id K3.out
  go_wp2_with fail
  go_at_call 9
  refine Calls.mono (pc.out _ h3).2 ?_
  rintro e w4 ⟨rfl, h4⟩
  have k10 := findings_any F _ _ w4 (hF3.out.below h4) (hF2.out.below h4) fl.out
  have hb5 := bel_after hb4 hb4.size h4
  clear v1 v2 K2 K3 hF hF2 hF3 pc
  go_wp2_with fail
  go_at_call 10
  refine Calls.mono k10 ?_
  rintro e w5 ⟨rfl, h5⟩
  have hb6 := bel_after hb5 hb5.size h5
  go_wp2_with fail
  go_ret
  exact ⟨rfl, hb6⟩
set_option maxRecDepth 100000 in
set_option maxHeartbeats 4000000 in
theorem tellsH (n am mo kd i k : Int) (w : World) (tb : Tb w) (nt : Ndt w) (c0 : ¬ n < 2) (c1 : ¬ 26 < n) (c2 : ¬ am < 3) (c3 : ¬ 60 < am) (c4 : ¬ mo < 0) (c5 : ¬ 3000 < mo) (c6 : ¬ i < 0) (c7 : n ≤ i) :
    Calls Tryz.prog 3 #[.int .i64 n, .int .i64 am, .int .i64 mo, .int .i64 kd, .int .i64 i, .int .i64 k] w fun e w' => e = .returned (.bool true) ∧ Below w.heap.size w w' := by
  have hN : (3 : Int) = ((3 : Nat) : Int) := rfl
  have hI : (1 : Int) = ((1 : Nat) : Int) := rfl
  have rg : Rg 3 3 1 := ⟨by omega, by omega, by omega, by omega, by omega⟩
  have k6 := fineI (n := 3) (am := 3) (V := 3) 3 hN w (by omega) (by omega) (by omega) (by omega) (by omega) (by omega)
  have k7 := fun (o : Nat → Nat) (B : Nat) (C : List Cf) (Y : List Sv) (ga ca sa : Option Addr) (gc cc sc : Nat) (W : World) (hC : Cs 3 3 3 C) (hR : Hid (Rn o B W (gL 3 3) C Y (.slice ga 3 gc) (.slice ca C.length cc) (.slice sa 3 sc))) (hY : Y.map (·.x) = sL 3) => spoil_all (kd := kd) (i := 1) (kk := 0) 1 hI (by omega) o B C Y ga ca sa gc cc sc W rg hC hR hY
  have k7 := hideG k7
  have tb' := hideG tb
  have nt' := hideG nt
  clear tb nt rg hN hI
  go_enter Tryz.func3, Tryz.ntmps3
  go_wp2_with fail
  go_at_call 6
  refine Calls.mono k6 ?_
  rintro e w1 ⟨o, C, Y, ga, ca, sa, gc, cc, sc, rfl, hb1, hR, hY, hC⟩
  have hRb := hideG (hR.out.below (bel1 (.cells #[.string ⟨#[114, 105, 110, 103]⟩, .slice ga 3 gc, .slice ca C.length cc, .slice none 0 0, .slice none 0 0, .slice none 0 0, .slice none 0 0, .slice sa 3 sc, .int .i64 0] 31)))
  have K1 := Has.new w1 #[.string ⟨#[114, 105, 110, 103]⟩, .slice ga 3 gc, .slice ca C.length cc, .slice none 0 0, .slice none 0 0, .slice none 0 0, .slice none 0 0, .slice sa 3 sc, .int .i64 0] 31 rfl
  have k7' := k7.out o w.heap.size C Y ga ca sa gc cc sc _ hC hRb hY
  have hb2 : Below w.heap.size w (w1.alloc (.cells #[.string ⟨#[114, 105, 110, 103]⟩, .slice ga 3 gc, .slice ca C.length cc, .slice none 0 0, .slice none 0 0, .slice none 0 0, .slice none 0 0, .slice sa 3 sc, .int .i64 0] 31)) := hb1.alloc hb1.size _
  clear k6 k7 hRb
  obtain ⟨_, v1, v2⟩ := id K1
  go_wp2_with fail
  go_at_call 7
  refine Calls.mono k7' ?_
  rintro e w2 ⟨G2, C2, SG2, F, gd, hG2, hC2, hS2, Y2, fa, fc, rfl, hF, hR2, hY2, hO⟩
  have far : ∀ q, (Value.slice ga 3 gc).ownBlock = some q ∨ (Value.slice ca C.length cc).ownBlock = some q ∨ (Value.slice sa 3 sc).ownBlock = some q → w.heap.size ≤ q ∧ q < w1.heap.size := by
    rintro q (e | e | e)
    · exact own_lt hR.out.oG.own q e
    · exact own_lt hR.out.oC.own q e
    · exact own_lt hR.out.oS.own q e
  have hb3 : Below w.heap.size w w2 := bel_only hb2 hO (Nat.le_refl _) (fun q hq e => by have := (far q e).1; omega)
  have K2 := hideG (K1.only hO (fun e => by have := (far _ e).2; omega))
  have pc := hideG (plan_calls gd hG2 hC2 hS2 hR2.out hY2 (tb'.out.below hb3) (nt'.out.be hb3))
  have fl := hideG gd.fl
  clear k7' K1 v1 v2 hR hY hC hR2 hY2 gd far hO hG2 hC2 hS2 hb2 hb1 tb' nt'
  obtain ⟨_, v1, v2⟩ := id K2.out
  go_wp2_with fail
  go_at_call 8
  refine Calls.mono (pc.out _ (Below.refl _ _)).1 ?_
  rintro e w3 ⟨fa3, fc3, rfl, hF3, h3⟩
  have K3 := hideG (K2.out.below h3)
  have hF2 := hideG (hF.out.below h3)
  have hb4 := bel_after hb3 hb3.size h3
  clear v1 v2
  obtain ⟨_, v1, v2⟩ := id K3.out
  go_wp2_with fail
  go_at_call 9
  refine Calls.mono (pc.out _ h3).2 ?_
  rintro e w4 ⟨rfl, h4⟩
  have k10 := findings_any F _ _ w4 (hF3.out.below h4) (hF2.out.below h4) fl.out
  have hb5 := bel_after hb4 hb4.size h4
  clear v1 v2 K2 K3 hF hF2 hF3 pc
  go_wp2_with fail
  go_at_call 10
  refine Calls.mono k10 ?_
  rintro e w5 ⟨rfl, h5⟩
  have hb6 := bel_after hb5 hb5.size h5
  go_wp2_with fail
  go_ret
  exact ⟨rfl, hb6⟩
set_option maxRecDepth 100000 in
set_option maxHeartbeats 4000000 in
theorem tellsI (n am mo kd i k : Int) (w : World) (tb : Tb w) (nt : Ndt w) (c0 : ¬ n < 2) (c1 : ¬ 26 < n) (c2 : ¬ am < 3) (c3 : ¬ 60 < am) (c4 : ¬ mo < 0) (c5 : ¬ 3000 < mo) (c6 : ¬ i < 0) (c7 : ¬ n ≤ i) (c8 : k < 0) :
    Calls Tryz.prog 3 #[.int .i64 n, .int .i64 am, .int .i64 mo, .int .i64 kd, .int .i64 i, .int .i64 k] w fun e w' => e = .returned (.bool true) ∧ Below w.heap.size w w' := by
  have hN : (3 : Int) = ((3 : Nat) : Int) := rfl
  have hI : (1 : Int) = ((1 : Nat) : Int) := rfl
  have rg : Rg 3 3 1 := ⟨by omega, by omega, by omega, by omega, by omega⟩
  have k6 := fineI (n := 3) (am := 3) (V := 3) 3 hN w (by omega) (by omega) (by omega) (by omega) (by omega) (by omega)
  have k7 := fun (o : Nat → Nat) (B : Nat) (C : List Cf) (Y : List Sv) (ga ca sa : Option Addr) (gc cc sc : Nat) (W : World) (hC : Cs 3 3 3 C) (hR : Hid (Rn o B W (gL 3 3) C Y (.slice ga 3 gc) (.slice ca C.length cc) (.slice sa 3 sc))) (hY : Y.map (·.x) = sL 3) => spoil_all (kd := kd) (i := 1) (kk := 0) 1 hI (by omega) o B C Y ga ca sa gc cc sc W rg hC hR hY
  have k7 := hideG k7
  have tb' := hideG tb
  have nt' := hideG nt
  clear tb nt rg hN hI
  go_enter Tryz.func3, Tryz.ntmps3
  go_wp2_with fail
  go_at_call 6
  refine Calls.mono k6 ?_
  rintro e w1 ⟨o, C, Y, ga, ca, sa, gc, cc, sc, rfl, hb1, hR, hY, hC⟩
  have hRb := hideG (hR.out.below (bel1 (.cells #[.string ⟨#[114, 105, 110, 103]⟩, .slice ga 3 gc, .slice ca C.length cc, .slice none 0 0, .slice none 0 0, .slice none 0 0, .slice none 0 0, .slice sa 3 sc, .int .i64 0] 31)))
  have K1 := Has.new w1 #[.string ⟨#[114, 105, 110, 103]⟩, .slice ga 3 gc, .slice ca C.length cc, .slice none 0 0, .slice none 0 0, .slice none 0 0, .slice none 0 0, .slice sa 3 sc, .int .i64 0] 31 rfl
  have k7' := k7.out o w.heap.size C Y ga ca sa gc cc sc _ hC hRb hY
  have hb2 : Below w.heap.size w (w1.alloc (.cells #[.string ⟨#[114, 105, 110, 103]⟩, .slice ga 3 gc, .slice ca C.length cc, .slice none 0 0, .slice none 0 0, .slice none 0 0, .slice none 0 0, .slice sa 3 sc, .int .i64 0] 31)) := hb1.alloc hb1.size _
  clear k6 k7 hRb
  obtain ⟨_, v1, v2⟩ := id K1
  go_wp2_with fail
  go_at_call 7
  refine Calls.mono k7' ?_
  rintro e w2 ⟨G2, C2, SG2, F, gd, hG2, hC2, hS2, Y2, fa, fc, rfl, hF, hR2, hY2, hO⟩
  have far : ∀ q, (Value.slice ga 3 gc).ownBlock = some q ∨ (Value.slice ca C.length cc).ownBlock = some q ∨ (Value.slice sa 3 sc).ownBlock = some q → w.heap.size ≤ q ∧ q < w1.heap.size := by
    rintro q (e | e | e)
    · exact own_lt hR.out.oG.own q e
    · exact own_lt hR.out.oC.own q e
    · exact own_lt hR.out.oS.own q e
  have hb3 : Below w.heap.size w w2 := bel_only hb2 hO (Nat.le_refl _) (fun q hq e => by have := (far q e).1; omega)
  have K2 := hideG (K1.only hO (fun e => by have := (far _ e).2; omega))
  have pc := hideG (plan_calls gd hG2 hC2 hS2 hR2.out hY2 (tb'.out.below hb3) (nt'.out.be hb3))
  have fl := hideG gd.fl
  clear k7' K1 v1 v2 hR hY hC hR2 hY2 gd far hO hG2 hC2 hS2 hb2 hb1 tb' nt'
  obtain ⟨_, v1, v2⟩ := id K2.out
  go_wp2_with fail
  go_at_call 8
  refine Calls.mono (pc.out _ (Below.refl _ _)).1 ?_
  rintro e w3 ⟨fa3, fc3, rfl, hF3, h3⟩
  have K3 := hideG (K2.out.below h3)
  have hF2 := hideG (hF.out.below h3)
  have hb4 := bel_after hb3 hb3.size h3
  clear v1 v2
  obtain ⟨_, v1, v2⟩ := id K3.out
  go_wp2_with fail
  go_at_call 9
  refine Calls.mono (pc.out _ h3).2 ?_
  rintro e w4 ⟨rfl, h4⟩
  have k10 := findings_any F _ _ w4 (hF3.out.below h4) (hF2.out.below h4) fl.out
  have hb5 := bel_after hb4 hb4.size h4
  clear v1 v2 K2 K3 hF hF2 hF3 pc
  go_wp2_with fail
  go_at_call 10
  refine Calls.mono k10 ?_
  rintro e w5 ⟨rfl, h5⟩
  have hb6 := bel_after hb5 hb5.size h5
  go_wp2_with fail
  go_ret
  exact ⟨rfl, hb6⟩
set_option maxRecDepth 100000 in
set_option maxHeartbeats 4000000 in
theorem tellsZ (n am mo kd i k : Int) (w : World) (tb : Tb w) (nt : Ndt w) (c0 : ¬ n < 2) (c1 : ¬ 26 < n) (c2 : ¬ am < 3) (c3 : ¬ 60 < am) (c4 : ¬ mo < 0) (c5 : ¬ 3000 < mo) (c6 : ¬ i < 0) (c7 : ¬ n ≤ i) (c8 : ¬ k < 0) :
    Calls Tryz.prog 3 #[.int .i64 n, .int .i64 am, .int .i64 mo, .int .i64 kd, .int .i64 i, .int .i64 k] w fun e w' => e = .returned (.bool true) ∧ Below w.heap.size w w' := by
  obtain ⟨N, hN⟩ : ∃ N : Nat, n = (N : Int) := ⟨n.toNat, by omega⟩
  obtain ⟨I, hI⟩ : ∃ I : Nat, i = (I : Int) := ⟨i.toNat, by omega⟩
  have rg : Rg N am I := ⟨by omega, by omega, by omega, by omega, by omega⟩
  have k6 := fineI (n := n) (am := am) (V := (am + mo)) N hN w (by omega) (by omega) (by omega) (by omega) (by omega) (by omega)
  have k7 := fun (o : Nat → Nat) (B : Nat) (C : List Cf) (Y : List Sv) (ga ca sa : Option Addr) (gc cc sc : Nat) (W : World) (hC : Cs N am (am + mo) C) (hR : Hid (Rn o B W (gL N am) C Y (.slice ga N gc) (.slice ca C.length cc) (.slice sa N sc))) (hY : Y.map (·.x) = sL N) => spoil_all (kd := kd) (i := i) (kk := k) I hI (by omega) o B C Y ga ca sa gc cc sc W rg hC hR hY
  have k7 := hideG k7
  have tb' := hideG tb
  have nt' := hideG nt
  clear tb nt rg hN hI
  go_enter Tryz.func3, Tryz.ntmps3
  go_wp2_with fail
  go_at_call 6
  refine Calls.mono k6 ?_
  rintro e w1 ⟨o, C, Y, ga, ca, sa, gc, cc, sc, rfl, hb1, hR, hY, hC⟩
  have hRb := hideG (hR.out.below (bel1 (.cells #[.string ⟨#[114, 105, 110, 103]⟩, .slice ga N gc, .slice ca C.length cc, .slice none 0 0, .slice none 0 0, .slice none 0 0, .slice none 0 0, .slice sa N sc, .int .i64 0] 31)))
  have K1 := Has.new w1 #[.string ⟨#[114, 105, 110, 103]⟩, .slice ga N gc, .slice ca C.length cc, .slice none 0 0, .slice none 0 0, .slice none 0 0, .slice none 0 0, .slice sa N sc, .int .i64 0] 31 rfl
  have k7' := k7.out o w.heap.size C Y ga ca sa gc cc sc _ hC hRb hY
  have hb2 : Below w.heap.size w (w1.alloc (.cells #[.string ⟨#[114, 105, 110, 103]⟩, .slice ga N gc, .slice ca C.length cc, .slice none 0 0, .slice none 0 0, .slice none 0 0, .slice none 0 0, .slice sa N sc, .int .i64 0] 31)) := hb1.alloc hb1.size _
  clear k6 k7 hRb
  obtain ⟨_, v1, v2⟩ := id K1
  go_wp2_with fail
  go_at_call 7
  refine Calls.mono k7' ?_
  rintro e w2 ⟨G2, C2, SG2, F, gd, hG2, hC2, hS2, Y2, fa, fc, rfl, hF, hR2, hY2, hO⟩
  have far : ∀ q, (Value.slice ga N gc).ownBlock = some q ∨ (Value.slice ca C.length cc).ownBlock = some q ∨ (Value.slice sa N sc).ownBlock = some q → w.heap.size ≤ q ∧ q < w1.heap.size := by
    rintro q (e | e | e)
    · exact own_lt hR.out.oG.own q e
    · exact own_lt hR.out.oC.own q e
    · exact own_lt hR.out.oS.own q e
  have hb3 : Below w.heap.size w w2 := bel_only hb2 hO (Nat.le_refl _) (fun q hq e => by have := (far q e).1; omega)
  have K2 := hideG (K1.only hO (fun e => by have := (far _ e).2; omega))
  have pc := hideG (plan_calls gd hG2 hC2 hS2 hR2.out hY2 (tb'.out.below hb3) (nt'.out.be hb3))
  have fl := hideG gd.fl
  clear k7' K1 v1 v2 hR hY hC hR2 hY2 gd far hO hG2 hC2 hS2 hb2 hb1 tb' nt'
  obtain ⟨_, v1, v2⟩ := id K2.out
  go_wp2_with fail
  go_at_call 8
  refine Calls.mono (pc.out _ (Below.refl _ _)).1 ?_
  rintro e w3 ⟨fa3, fc3, rfl, hF3, h3⟩
  have K3 := hideG (K2.out.below h3)
  have hF2 := hideG (hF.out.below h3)
  have hb4 := bel_after hb3 hb3.size h3
  clear v1 v2
  obtain ⟨_, v1, v2⟩ := id K3.out
  go_wp2_with fail
  go_at_call 9
  refine Calls.mono (pc.out _ h3).2 ?_
  rintro e w4 ⟨rfl, h4⟩
  have k10 := findings_any F _ _ w4 (hF3.out.below h4) (hF2.out.below h4) fl.out
  have hb5 := bel_after hb4 hb4.size h4
  clear v1 v2 K2 K3 hF hF2 hF3 pc
  go_wp2_with fail
  go_at_call 10
  refine Calls.mono k10 ?_
  rintro e w5 ⟨rfl, h5⟩
  have hb6 := bel_after hb5 hb5.size h5
  go_wp2_with fail
  go_ret
  exact ⟨rfl, hb6⟩
theorem tells_law (n am mo kd i k : Int) (w : World) (tb : Tb w) (nt : Ndt w) :
    Calls Tryz.prog 3 #[.int .i64 n, .int .i64 am, .int .i64 mo, .int .i64 kd, .int .i64 i, .int .i64 k] w fun e w' => e = .returned (.bool true) ∧ Below w.heap.size w w' := by
  by_cases c0 : n < 2
  · exact tellsA n am mo kd i k w tb nt c0
  by_cases c1 : 26 < n
  · exact tellsB n am mo kd i k w tb nt c0 c1
  by_cases c2 : am < 3
  · exact tellsC n am mo kd i k w tb nt c0 c1 c2
  by_cases c3 : 60 < am
  · exact tellsD n am mo kd i k w tb nt c0 c1 c2 c3
  by_cases c4 : mo < 0
  · exact tellsE n am mo kd i k w tb nt c0 c1 c2 c3 c4
  by_cases c5 : 3000 < mo
  · exact tellsF n am mo kd i k w tb nt c0 c1 c2 c3 c4 c5
  by_cases c6 : i < 0
  · exact tellsG n am mo kd i k w tb nt c0 c1 c2 c3 c4 c5 c6
  by_cases c7 : n ≤ i
  · exact tellsH n am mo kd i k w tb nt c0 c1 c2 c3 c4 c5 c6 c7
  by_cases c8 : k < 0
  · exact tellsI n am mo kd i k w tb nt c0 c1 c2 c3 c4 c5 c6 c7 c8
  exact tellsZ n am mo kd i k w tb nt c0 c1 c2 c3 c4 c5 c6 c7 c8
end Go.Proofs.YtjfieclmagbfbaaGreatDoor
