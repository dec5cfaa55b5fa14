import Derived.Test.YtbonmajnkbggcabRtA
import Derived.Test.YtbonmajnkbggcabSpH
import Derived.Test.YtbonmajnkbggcabGrE
import Derived.Test.YtbonmajnkbggcabStA
import Derived.Deep.RegionHeld3
namespace Go.Proofs.Ytbonmajnkbggcab
open Go.RowKit
set_option linter.unusedVariables false


theorem dis_new {B e sz n m c : Nat} {X : World} {va v : Value} {g1 : Nat} {xs : List Value} (hv : X.ownsRow B e sz v n xs) (d : ∀ q, va.ownBlock = some q → v.ownBlock ≠ some q) (hat : va.ownBlock = some g1 ∨ X.heap.size ≤ g1) : ∀ q, (Value.slice (some ⟨g1, 0, none⟩) m c).ownBlock = some q → v.ownBlock ≠ some q := by
  intro q hq hv'
  have e : g1 = q := by injection hq
  subst e
  rcases hat with h | h
  · exact d _ h hv'
  · have := (own_lt hv _ hv').2; omega
/-- Three rows, each in a block of its own. -/
structure T3 (B : Nat) (w : World) (va vb vc : Value) (k1 k2 k3 : Nat) (x1 x2 x3 : List Value) : Prop where
  o1 : w.ownsRow B 3 1 va k1 x1
  o2 : w.ownsRow B 21 1 vb k2 x2
  o3 : w.ownsRow B 21 1 vc k3 x3
  d12 : ∀ q, va.ownBlock = some q → vb.ownBlock ≠ some q
  d13 : ∀ q, va.ownBlock = some q → vc.ownBlock ≠ some q
  d23 : ∀ q, vb.ownBlock = some q → vc.ownBlock ≠ some q
theorem T3.only {B : Nat} {S : Nat → Prop} {w w' : World} {va vb vc : Value} {k1 k2 k3 : Nat} {x1 x2 x3 : List Value} (h : T3 B w va vb vc k1 k2 k3 x1 x2 x3) (O : Only S w w') (hS : ∀ q, B ≤ q → ¬ S q) : T3 B w' va vb vc k1 k2 k3 x1 x2 x3 :=
  ⟨own_only2 h.o1 O (fun q hq => hS q (own_lt h.o1 q hq).1), own_only2 h.o2 O (fun q hq => hS q (own_lt h.o2 q hq).1), own_only2 h.o3 O (fun q hq => hS q (own_lt h.o3 q hq).1), h.d12, h.d13, h.d23⟩
theorem T3.below {B : Nat} {w w' : World} {va vb vc : Value} {k1 k2 k3 : Nat} {x1 x2 x3 : List Value} (h : T3 B w va vb vc k1 k2 k3 x1 x2 x3) (hb : Below w.heap.size w w') : T3 B w' va vb vc k1 k2 k3 x1 x2 x3 :=
  ⟨own_bel h.o1 hb, own_bel h.o2 hb, own_bel h.o3 hb, h.d12, h.d13, h.d23⟩
theorem T3.app1 {B m c : Nat} {w w' : World} {va vb vc : Value} {k1 k2 k3 g : Nat} {x1 x2 x3 y : List Value} (h : T3 B w va vb vc k1 k2 k3 x1 x2 x3) (O : Only (fun q => va.ownBlock = some q) w w') (hat : va.ownBlock = some g ∨ w.heap.size ≤ g) (hn : w'.ownsRow B 3 1 (.slice (some ⟨g, 0, none⟩) m c) m y) : T3 B w' (.slice (some ⟨g, 0, none⟩) m c) vb vc m k2 k3 y x2 x3 :=
  ⟨hn, own_only2 h.o2 O (fun q hq hs => h.d12 q hs hq), own_only2 h.o3 O (fun q hq hs => h.d13 q hs hq), dis_new h.o2 h.d12 hat, dis_new h.o3 h.d13 hat, h.d23⟩
theorem T3.app2 {B m c : Nat} {w w' : World} {va vb vc : Value} {k1 k2 k3 g : Nat} {x1 x2 x3 y : List Value} (h : T3 B w va vb vc k1 k2 k3 x1 x2 x3) (O : Only (fun q => vb.ownBlock = some q) w w') (hat : vb.ownBlock = some g ∨ w.heap.size ≤ g) (hn : w'.ownsRow B 21 1 (.slice (some ⟨g, 0, none⟩) m c) m y) : T3 B w' va (.slice (some ⟨g, 0, none⟩) m c) vc k1 m k3 x1 y x3 :=
  ⟨own_only2 h.o1 O (fun q hq hs => h.d12 q hq hs), hn, own_only2 h.o3 O (fun q hq hs => h.d23 q hs hq), fun q hq hq' => dis_new h.o1 (fun q a b => h.d12 q b a) hat q hq' hq, h.d13, dis_new h.o3 h.d23 hat⟩
theorem T3.app3 {B m c : Nat} {w w' : World} {va vb vc : Value} {k1 k2 k3 g : Nat} {x1 x2 x3 y : List Value} (h : T3 B w va vb vc k1 k2 k3 x1 x2 x3) (O : Only (fun q => vc.ownBlock = some q) w w') (hat : vc.ownBlock = some g ∨ w.heap.size ≤ g) (hn : w'.ownsRow B 21 1 (.slice (some ⟨g, 0, none⟩) m c) m y) : T3 B w' va vb (.slice (some ⟨g, 0, none⟩) m c) k1 k2 m x1 x2 y :=
  ⟨own_only2 h.o1 O (fun q hq hs => h.d13 q hq hs), own_only2 h.o2 O (fun q hq hs => h.d23 q hq hs), hn, h.d12, fun q hq hq' => dis_new h.o1 (fun q a b => h.d13 q b a) hat q hq' hq, fun q hq hq' => dis_new h.o2 (fun q a b => h.d23 q b a) hat q hq' hq⟩
theorem valR_snoc (n : Nat) (f : Nat → Int) : valR n f ++ [.int .i64 (f n)] = valR (n + 1) f := by unfold valR; rw [List.range_succ]; simp
theorem v32_snoc (n : Nat) (f : Nat → Int) : v32 n f ++ [.int .i32 (f n)] = v32 (n + 1) f := by unfold v32; rw [List.range_succ]; simp
set_option maxRecDepth 100000 in
set_option maxHeartbeats 4000000 in
theorem refStart_bad (G : List Gp) (C : List Cf) (vg vc : Value) (w : World) (h1 : Fl 5 Gp.cs w vg G) (h2 : Fl 4 Cf.cs w vc C) (lG : G.length ≤ 2932031007317) (lC : C.length ≤ 4398046511000) (hg : gridB G C = false) :
    Calls Try.prog 24 #[.agg #[vg, vc]] w fun e w' => e = .returned (.tuple #[.agg #[.slice none 0 0, .slice none 0 0, .slice none 0 0], .int .i64 70]) ∧ Below w.heap.size w w' := by
  have hGd := fun (X : World) (hX : Below w.heap.size w X) => ref7Grid_any G C vg vc X (h1.below hX) (h2.below hX) lG lC
  rw [hg] at hGd
  obtain ⟨va, cg, rfl, -⟩ := h1.any
  obtain ⟨vb, cc, rfl, -⟩ := h2.any
  have B0 : Has ((w.alloc (.cells #[.slice va G.length cg, .slice vb C.length cc] 25)).alloc (.cells #[.slice none 0 0, .slice none 0 0, .slice none 0 0] 29)) w.heap.size #[.slice va G.length cg, .slice vb C.length cc] := (Has.new _ _ _ rfl).alloc _
  have R0 : Has ((w.alloc (.cells #[.slice va G.length cg, .slice vb C.length cc] 25)).alloc (.cells #[.slice none 0 0, .slice none 0 0, .slice none 0 0] 29)) (w.heap.size + 1) #[.slice none 0 0, .slice none 0 0, .slice none 0 0] := Has.new _ _ _ (by simp)
  have hb0 : Below w.heap.size w ((w.alloc (.cells #[.slice va G.length cg, .slice vb C.length cc] 25)).alloc (.cells #[.slice none 0 0, .slice none 0 0, .slice none 0 0] 29)) := belA
  clear h1 h2 hg
  go_enter Try.func24, Try.ntmps24
  go_wp2_with (go_at_call 22; (with_reducible refine Calls.mono (hGd _ (by exact hb0)) ?_); rintro e w2 ⟨rfl, hb2⟩; have hbM := bel_after hb0 hb0.size hb2; have RM := R0.below hb2; obtain ⟨_, r1, r2⟩ := id RM; clear hb2)
  have O : Only (fun q => q = w.heap.size + 1) w2 (((w2.setCell ⟨w.heap.size + 1, 0, none⟩ (.slice none 0 0)).setCell ⟨w.heap.size + 1, 1, none⟩ (.slice none 0 0)).setCell ⟨w.heap.size + 1, 2, none⟩ (.slice none 0 0)) := ((only_of_set _ _ _ _).trans (only_of_set _ _ _ _)).trans (only_of_set _ _ _ _)
  have HH : Has (((w2.setCell ⟨w.heap.size + 1, 0, none⟩ (.slice none 0 0)).setCell ⟨w.heap.size + 1, 1, none⟩ (.slice none 0 0)).setCell ⟨w.heap.size + 1, 2, none⟩ (.slice none 0 0)) (w.heap.size + 1) #[.slice none 0 0, .slice none 0 0, .slice none 0 0] := by simpa using ((RM.set 0 (by simp) (.slice none 0 0)).set 1 (by simp) (.slice none 0 0)).set 2 (by simp) (.slice none 0 0)
  have bF := bel_only hbM O (Nat.le_refl _) (fun q hq h => by omega)
  generalize (((w2.setCell ⟨w.heap.size + 1, 0, none⟩ (.slice none 0 0)).setCell ⟨w.heap.size + 1, 1, none⟩ (.slice none 0 0)).setCell ⟨w.heap.size + 1, 2, none⟩ (.slice none 0 0)) = WF at *
  obtain ⟨_, k1, _⟩ := id HH
  exact bodyPost_ret (v := .tuple #[.agg #[.slice none 0 0, .slice none 0 0, .slice none 0 0], .int .i64 70]) (by simp [results, Try.results24, go_sem, k1]) rfl ⟨rfl, bF⟩
set_option maxRecDepth 100000 in
set_option maxHeartbeats 4000000 in
theorem refStart_ok (G : List Gp) (C : List Cf) (vg vc : Value) (w : World) (h1 : Fl 5 Gp.cs w vg G) (h2 : Fl 4 Cf.cs w vc C) (lG : G.length ≤ 2932031007317) (lC : C.length ≤ 4398046511000) (hg : gridB G C = true) :
    Calls Try.prog 24 #[.agg #[vg, vc]] w fun e w' => (∃ ua ub uc, e = .returned (.tuple #[.agg #[ua, ub, uc], .int .i64 0]) ∧ T3 (w.heap.size) w' ua ub uc G.length G.length G.length (valR G.length (fun _ => 0)) (v32 G.length (fun _ => 1)) (v32 G.length (fun _ => 1))) ∧ Below w.heap.size w w' := by
  have hGd := fun (X : World) (hX : Below w.heap.size w X) => ref7Grid_any G C vg vc X (h1.below hX) (h2.below hX) lG lC
  rw [hg] at hGd
  have h64 := grid_len hg
  obtain ⟨va, cg, rfl, -⟩ := h1.any
  obtain ⟨vb, cc, rfl, -⟩ := h2.any
  obtain ⟨i3, hi, hi0, hi1, hi2⟩ := info_parts info3m
  obtain ⟨i21, hj, hj0, hj1, hj2⟩ := info_parts info21m
  have B0 : Has ((w.alloc (.cells #[.slice va G.length cg, .slice vb C.length cc] 25)).alloc (.cells #[.slice none 0 0, .slice none 0 0, .slice none 0 0] 29)) w.heap.size #[.slice va G.length cg, .slice vb C.length cc] := (Has.new _ _ _ rfl).alloc _
  have R0 : Has ((w.alloc (.cells #[.slice va G.length cg, .slice vb C.length cc] 25)).alloc (.cells #[.slice none 0 0, .slice none 0 0, .slice none 0 0] 29)) (w.heap.size + 1) #[.slice none 0 0, .slice none 0 0, .slice none 0 0] := Has.new _ _ _ (by simp)
  have hb0 : Below w.heap.size w ((w.alloc (.cells #[.slice va G.length cg, .slice vb C.length cc] 25)).alloc (.cells #[.slice none 0 0, .slice none 0 0, .slice none 0 0] 29)) := belA
  clear h1 h2 hg
  go_enter Try.func24, Try.ntmps24
  go_upto_region 4 with (go_at_call 22; (with_reducible refine Calls.mono (hGd _ (by exact hb0)) ?_); rintro e w2 ⟨rfl, hb2⟩; have hbM := bel_after hb0 hb0.size hb2; have RM := R0.below hb2; have BM := B0.below hb2; clear hb2)
  have Hv : Has (w2.alloc (.cells #[.slice none 0 0, .slice none 0 0, .slice none 0 0] 29)) w2.heap.size #[.slice none 0 0, .slice none 0 0, .slice none 0 0] := Has.new _ _ _ rfl
  have zw2 : w.heap.size + 2 ≤ w2.heap.size := RM.1
  replace RM := RM.alloc (.cells #[.slice none 0 0, .slice none 0 0, .slice none 0 0] 29)
  replace BM := BM.alloc (.cells #[.slice none 0 0, .slice none 0 0, .slice none 0 0] 29)
  replace hbM := hbM.alloc hbM.size (.cells #[.slice none 0 0, .slice none 0 0, .slice none 0 0] 29)
  have own0 : ∀ e, (w2.alloc (.cells #[.slice none 0 0, .slice none 0 0, .slice none 0 0] 29)).ownsRow (w2.heap.size + 1) e 1 (.slice none 0 0) 0 [] := fun e => ⟨rfl, .inl ⟨rfl, rfl⟩⟩
  have zX : (w2.alloc (.cells #[.slice none 0 0, .slice none 0 0, .slice none 0 0] 29)).heap.size = w2.heap.size + 1 := by simp
  have T0 : T3 (w2.heap.size + 1) (w2.alloc (.cells #[.slice none 0 0, .slice none 0 0, .slice none 0 0] 29)) (.slice none 0 0) (.slice none 0 0) (.slice none 0 0) 0 0 0 (valR 0 (fun _ => 0)) (v32 0 (fun _ => 1)) (v32 0 (fun _ => 1)) := ⟨own0 3, own0 21, own0 21, fun q h => (by cases h), fun q h => (by cases h), fun q h => (by cases h)⟩
  clear own0 B0 R0 hb0
  generalize (w2.alloc (.cells #[.slice none 0 0, .slice none 0 0, .slice none 0 0] 29)) = X0 at *
  go_wp2_with fail
  go_loopw [5] (fun t wr => ∃ (k : Nat) (ua ub uc : Value), k ≤ G.length ∧ t = .int .i64 (k : Int) ∧ Hid (T3 (w2.heap.size + 1) wr ua ub uc k k k (valR k (fun _ => 0)) (v32 k (fun _ => 1)) (v32 k (fun _ => 1))) ∧ Hid (Has wr w2.heap.size #[ua, ub, uc]) ∧ Hid (Has wr (w.heap.size + 1) #[.slice none 0 0, .slice none 0 0, .slice none 0 0]) ∧ Hid (Has wr w.heap.size #[.slice va G.length cg, .slice vb C.length cc]) ∧ Hid (Below w.heap.size w wr)) (fun t _ => G.length - (intOf t).toNat)
  case atStart => exact ⟨0, _, _, _, by omega, rfl, T0, Hv, RM, BM, hbM⟩
  case round =>
    clear T0 Hv RM BM hbM zX
    obtain ⟨k, ua, ub, uc, hkl, rfl, T', Hx', Rz', Bx', hb'⟩ := hrel
    have T := T'.out
    have Hx := Hx'.out
    have Rz := Rz'.out
    have Bx := Bx'.out
    have hb := hb'.out
    clear T' Hx' Rz' Bx' hb'
    obtain ⟨a1, e1, rfl⟩ := own_form T.o1
    obtain ⟨a2, e2, rfl⟩ := own_form T.o2
    obtain ⟨a3, e3, rfl⟩ := own_form T.o3
    have zb := Hx.1
    obtain ⟨_, bx, _⟩ := id Bx
    obtain ⟨_, hx, hf⟩ := id Hx
    by_cases hlt : k < G.length
    · have t1 : (k : Int) < (G.length : Int) := by omega
      have t0 : (0 : Int) ≤ (k : Int) := by omega
      have t2 : k + 1 ≤ G.length := hlt
      go_upto_region 8 with (at_builtin; (refine wpList_append_mine _ rfl _ _ 26 rfl (w2.heap.size + 1) 3 i3 _ 1 8 Try.underlying26 hi hi0 hi1 hi2 rfl (by decide) (.slice a1 k e1) k (valR k (fun _ => 0)) rfl (own_bel T.o1 belN1) ⟨wr.heap.size, 0, none⟩ 1 1 [.int .i64 0] rfl rfl (cells_at (W := wr) rfl _ _) (all_one rfl) (by decide) (by unfold maxLen; omega) (by omega) (by simp; omega) ?_); intro g1 c1 y1 o1 hg1 hat1 _ _; have O1 := only_of_grown hg1; have at1 : (Value.slice a1 k e1).ownBlock = some g1 ∨ wr.heap.size ≤ g1 := hat1.imp id (fun h => by simp at h; omega); rw [valR_snoc k (fun _ => 0)] at o1; have T1x := T3.app1 T O1 at1 o1; have nb1 : ∀ q, q < (w2.heap.size + 1) → ¬ (Value.slice a1 k e1).ownBlock = some q := (fun q hq h => by have := (own_lt T.o1 q h).1; omega); have H1x := Hx.only O1 (nb1 _ (by omega)); have R1x := Rz.only O1 (nb1 _ (by omega)); have B1x := Bx.only O1 (nb1 _ (by omega)); have b1x := bel_only hb O1 (Nat.le_refl _) (fun q hq h => nb1 q (by omega) h); have zy1 := O1.size; obtain ⟨_, hx1, hf1⟩ := id H1x; clear hg1 hat1 o1)
      have T2 := T1x.only (only_of_set y1 w2.heap.size 0 (.slice (some ⟨g1, 0, none⟩) (k + 1) c1)) (fun q hq h => by omega)
      have Hx2 : Has (y1.setCell ⟨w2.heap.size, 0, none⟩ (.slice (some ⟨g1, 0, none⟩) (k + 1) c1)) w2.heap.size #[.slice (some ⟨g1, 0, none⟩) (k + 1) c1, .slice a2 k e2, .slice a3 k e3] := by simpa using H1x.set 0 (by simp) (.slice (some ⟨g1, 0, none⟩) (k + 1) c1)
      have Rz2 := R1x.far (c := w2.heap.size) (i := 0) (by omega) (.slice (some ⟨g1, 0, none⟩) (k + 1) c1)
      have Bx2 := B1x.far (c := w2.heap.size) (i := 0) (by omega) (.slice (some ⟨g1, 0, none⟩) (k + 1) c1)
      have hb2 : Below w.heap.size w (y1.setCell ⟨w2.heap.size, 0, none⟩ (.slice (some ⟨g1, 0, none⟩) (k + 1) c1)) := b1x.setCell (p := ⟨w2.heap.size, 0, none⟩) (by simp; omega) _
      have zs1 : y1.heap.size ≤ (y1.setCell ⟨w2.heap.size, 0, none⟩ (.slice (some ⟨g1, 0, none⟩) (k + 1) c1)).heap.size := by simp [World.setCell]
      clear T1x H1x R1x B1x b1x hx1 hf1
      generalize (y1.setCell ⟨w2.heap.size, 0, none⟩ (.slice (some ⟨g1, 0, none⟩) (k + 1) c1)) = Y1 at *
      obtain ⟨_, hxb, hfb⟩ := id Hx2
      go_upto_region 9 with (at_builtin; (refine wpList_append_mine _ rfl _ _ 27 rfl (w2.heap.size + 1) 21 i21 _ 1 4 Try.underlying27 hj hj0 hj1 hj2 rfl (by decide) (.slice a2 k e2) k (v32 k (fun _ => 1)) rfl (own_bel T2.o2 belN1) ⟨Y1.heap.size, 0, none⟩ 1 1 [.int .i32 1] rfl rfl (cells_at (W := Y1) rfl _ _) (all_one rfl) (by decide) (by unfold maxLen; omega) (by omega) (by simp; omega) ?_); intro g2 c2 y2 o2 hg2 hat2 _ _; have O2 := only_of_grown hg2; have at2 : (Value.slice a2 k e2).ownBlock = some g2 ∨ Y1.heap.size ≤ g2 := hat2.imp id (fun h => by simp at h; omega); rw [v32_snoc k (fun _ => 1)] at o2; have T2x := T3.app2 T2 O2 at2 o2; have nb2 : ∀ q, q < (w2.heap.size + 1) → ¬ (Value.slice a2 k e2).ownBlock = some q := (fun q hq h => by have := (own_lt T2.o2 q h).1; omega); have H2x := Hx2.only O2 (nb2 _ (by omega)); have R2x := Rz2.only O2 (nb2 _ (by omega)); have B2x := Bx2.only O2 (nb2 _ (by omega)); have b2x := bel_only hb2 O2 (Nat.le_refl _) (fun q hq h => nb2 q (by omega) h); have zy2 := O2.size; obtain ⟨_, hx2, hf2⟩ := id H2x; clear hg2 hat2 o2)
      have T4 := T2x.only (only_of_set y2 w2.heap.size 1 (.slice (some ⟨g2, 0, none⟩) (k + 1) c2)) (fun q hq h => by omega)
      have Hx4 : Has (y2.setCell ⟨w2.heap.size, 1, none⟩ (.slice (some ⟨g2, 0, none⟩) (k + 1) c2)) w2.heap.size #[.slice (some ⟨g1, 0, none⟩) (k + 1) c1, .slice (some ⟨g2, 0, none⟩) (k + 1) c2, .slice a3 k e3] := by simpa using H2x.set 1 (by simp) (.slice (some ⟨g2, 0, none⟩) (k + 1) c2)
      have Rz4 := R2x.far (c := w2.heap.size) (i := 1) (by omega) (.slice (some ⟨g2, 0, none⟩) (k + 1) c2)
      have Bx4 := B2x.far (c := w2.heap.size) (i := 1) (by omega) (.slice (some ⟨g2, 0, none⟩) (k + 1) c2)
      have hb4 : Below w.heap.size w (y2.setCell ⟨w2.heap.size, 1, none⟩ (.slice (some ⟨g2, 0, none⟩) (k + 1) c2)) := b2x.setCell (p := ⟨w2.heap.size, 1, none⟩) (by simp; omega) _
      have zs2 : y2.heap.size ≤ (y2.setCell ⟨w2.heap.size, 1, none⟩ (.slice (some ⟨g2, 0, none⟩) (k + 1) c2)).heap.size := by simp [World.setCell]
      clear T2x H2x R2x B2x b2x hx2 hf2
      generalize (y2.setCell ⟨w2.heap.size, 1, none⟩ (.slice (some ⟨g2, 0, none⟩) (k + 1) c2)) = Y2 at *
      clear hxb hfb
      obtain ⟨_, hxc, hfc⟩ := id Hx4
      go_upto_region 6 with (at_builtin; (refine wpList_append_mine _ rfl _ _ 27 rfl (w2.heap.size + 1) 21 i21 _ 1 4 Try.underlying27 hj hj0 hj1 hj2 rfl (by decide) (.slice a3 k e3) k (v32 k (fun _ => 1)) rfl (own_bel T4.o3 belN1) ⟨Y2.heap.size, 0, none⟩ 1 1 [.int .i32 1] rfl rfl (cells_at (W := Y2) rfl _ _) (all_one rfl) (by decide) (by unfold maxLen; omega) (by omega) (by simp; omega) ?_); intro g3 c3 y3 o3 hg3 hat3 _ _; have O3 := only_of_grown hg3; have at3 : (Value.slice a3 k e3).ownBlock = some g3 ∨ Y2.heap.size ≤ g3 := hat3.imp id (fun h => by simp at h; omega); rw [v32_snoc k (fun _ => 1)] at o3; have T3x := T3.app3 T4 O3 at3 o3; have nb3 : ∀ q, q < (w2.heap.size + 1) → ¬ (Value.slice a3 k e3).ownBlock = some q := (fun q hq h => by have := (own_lt T4.o3 q h).1; omega); have H3x := Hx4.only O3 (nb3 _ (by omega)); have R3x := Rz4.only O3 (nb3 _ (by omega)); have B3x := Bx4.only O3 (nb3 _ (by omega)); have b3x := bel_only hb4 O3 (Nat.le_refl _) (fun q hq h => nb3 q (by omega) h); have zy3 := O3.size; obtain ⟨_, hx3, hf3⟩ := id H3x; clear hg3 hat3 o3)
      have T6 := T3x.only (only_of_set y3 w2.heap.size 2 (.slice (some ⟨g3, 0, none⟩) (k + 1) c3)) (fun q hq h => by omega)
      have Hx6 : Has (y3.setCell ⟨w2.heap.size, 2, none⟩ (.slice (some ⟨g3, 0, none⟩) (k + 1) c3)) w2.heap.size #[.slice (some ⟨g1, 0, none⟩) (k + 1) c1, .slice (some ⟨g2, 0, none⟩) (k + 1) c2, .slice (some ⟨g3, 0, none⟩) (k + 1) c3] := by simpa using H3x.set 2 (by simp) (.slice (some ⟨g3, 0, none⟩) (k + 1) c3)
      have Rz6 := R3x.far (c := w2.heap.size) (i := 2) (by omega) (.slice (some ⟨g3, 0, none⟩) (k + 1) c3)
      have Bx6 := B3x.far (c := w2.heap.size) (i := 2) (by omega) (.slice (some ⟨g3, 0, none⟩) (k + 1) c3)
      have hb6 : Below w.heap.size w (y3.setCell ⟨w2.heap.size, 2, none⟩ (.slice (some ⟨g3, 0, none⟩) (k + 1) c3)) := b3x.setCell (p := ⟨w2.heap.size, 2, none⟩) (by simp; omega) _
      have zs3 : y3.heap.size ≤ (y3.setCell ⟨w2.heap.size, 2, none⟩ (.slice (some ⟨g3, 0, none⟩) (k + 1) c3)).heap.size := by simp [World.setCell]
      clear T3x H3x R3x B3x b3x hx3 hf3
      generalize (y3.setCell ⟨w2.heap.size, 2, none⟩ (.slice (some ⟨g3, 0, none⟩) (k + 1) c3)) = Y3 at *
      go_wp2_with fail
      go_roundw
      case rel => exact ⟨k + 1, _, _, _, by omega, by go_num, T6, Hx6, Rz6, Bx6, hb6⟩
      case measure => simp [intOf]; omega
    · have t1 : ¬ (k : Int) < (G.length : Int) := by omega
      have ek : k = G.length := by omega
      subst ek
      obtain ⟨_, r1, r2⟩ := id Rz
      go_wp2_with fail
      have O : Only (fun q => q = w.heap.size + 1) wr (((wr.setCell ⟨w.heap.size + 1, 0, none⟩ (.slice a1 G.length e1)).setCell ⟨w.heap.size + 1, 1, none⟩ (.slice a2 G.length e2)).setCell ⟨w.heap.size + 1, 2, none⟩ (.slice a3 G.length e3)) := ((only_of_set _ _ _ _).trans (only_of_set _ _ _ _)).trans (only_of_set _ _ _ _)
      have HH : Has (((wr.setCell ⟨w.heap.size + 1, 0, none⟩ (.slice a1 G.length e1)).setCell ⟨w.heap.size + 1, 1, none⟩ (.slice a2 G.length e2)).setCell ⟨w.heap.size + 1, 2, none⟩ (.slice a3 G.length e3)) (w.heap.size + 1) #[.slice a1 G.length e1, .slice a2 G.length e2, .slice a3 G.length e3] := by simpa using ((Rz.set 0 (by simp) (.slice a1 G.length e1)).set 1 (by simp) (.slice a2 G.length e2)).set 2 (by simp) (.slice a3 G.length e3)
      have bF := bel_only hb O (Nat.le_refl _) (fun q hq h => by omega)
      have TF := T.only O (fun q hq h => by omega)
      generalize (((wr.setCell ⟨w.heap.size + 1, 0, none⟩ (.slice a1 G.length e1)).setCell ⟨w.heap.size + 1, 1, none⟩ (.slice a2 G.length e2)).setCell ⟨w.heap.size + 1, 2, none⟩ (.slice a3 G.length e3)) = WF at *
      obtain ⟨_, k1, _⟩ := id HH
      exact bodyPost_ret (v := .tuple #[.agg #[.slice a1 G.length e1, .slice a2 G.length e2, .slice a3 G.length e3], .int .i64 0]) (by simp [results, Try.results24, go_sem, k1]) rfl ⟨⟨_, _, _, rfl, own_base TF.o1 (by omega), own_base TF.o2 (by omega), own_base TF.o3 (by omega), TF.d12, TF.d13, TF.d23⟩, bF⟩
end Go.Proofs.Ytbonmajnkbggcab
