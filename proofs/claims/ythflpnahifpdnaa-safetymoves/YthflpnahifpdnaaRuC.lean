import Derived.Test.YthflpnahifpdnaaRuB
import Derived.Deep.RegionHeld3
namespace Go.Proofs.Ythflpnahifpdnaa
open Go.RowKit
set_option linter.unusedVariables false

set_option maxRecDepth 100000 in
set_option maxHeartbeats 4000000 in
theorem run_ok (G : List Gp) (C : List Cf) (Ms : List Nat) (vg vc vm : Value) (w : World) (h1 : Fl 5 Gp.cs w vg G) (h2 : Fl 4 Cf.cs w vc C) (h3 : Fl 1 u64 w vm Ms) (lG : G.length ≤ 2932031007317) (lC : C.length ≤ 4398046511000) (lM : Ms.length ≤ 17592186044000) (hM : ∀ x ∈ Ms, x < 18446744073709551616) (hg : gridB G C = true) :
    Calls Try.prog 22 #[.agg #[vg, vc], vm] w fun e w' => (∃ g c, e = .returned (.tuple #[.slice (some ⟨g, 0, none⟩) (Ms.length + 1) c, .int .i64 0]) ∧ w'.ownsRow w.heap.size 9 1 (.slice (some ⟨g, 0, none⟩) (Ms.length + 1) c) (Ms.length + 1) (picsF G C Ms Ms.length)) ∧ Below w.heap.size w w' := by
  have hSt := fun (X : World) (hX : Below w.heap.size w X) => start_ok G C vg vc X (h1.below hX) (h2.below hX) lG lC hg
  have h64 := grid_len hg
  have hMk : ∀ k, Ms.getD k 0 < 18446744073709551616 := fun k => by
    by_cases h : k < Ms.length
    · rw [show Ms.getD k 0 = Ms[k] by simp [List.getD_eq_getElem?_getD, h]]; exact hM _ (List.getElem_mem h)
    · rw [show Ms.getD k 0 = 0 by simp [List.getD_eq_getElem?_getD, h]]; omega
  have hNx := fun (k : Nat) (X : World) (hX : Below w.heap.size w X) (u1 u2 u3 : Value) (f1 : Fl 1 n64 X u1 (lst64 G.length (runF G C Ms k).a)) (f2 : Fl 1 n32 X u2 (lst64 G.length (runF G C Ms k).i)) (f3 : Fl 1 n32 X u3 (lst64 G.length (runF G C Ms k).w)) => next_any G C _ _ _ vg vc u1 u2 u3 (Ms.getD k 0) X (h1.below hX) (h2.below hX) f1 f2 f3 (spOk_of hg (okf_run hg Ms k).1 (hMk k) lC (okf_run hg Ms k).2.1 (okf_run hg Ms k).2.2)
  have hSh := fun (k : Nat) (X : World) (u1 : Value) (a2 a3 : Option Addr) (c2 c3 : Nat) (f1 : Fl 1 n64 X u1 (lst64 G.length (runF G C Ms k).a)) => show_any (lst64 G.length (runF G C Ms k).a) u1 a2 a3 G.length c2 G.length c3 X f1 (by rw [lst_len]; omega)
  obtain ⟨va, cg, rfl, -⟩ := h1.any
  obtain ⟨vb, cc, rfl, -⟩ := h2.any
  obtain ⟨am, cm, rfl, km⟩ := h3.nums
  obtain ⟨i9, hi, hi0, hi1, hi2⟩ := info_parts info9s
  have B0 : Has (w.alloc (.cells #[.slice va G.length cg, .slice vb C.length cc] 25)) w.heap.size #[.slice va G.length cg, .slice vb C.length cc] := Has.new _ _ _ rfl
  have hb0 : Below w.heap.size w (w.alloc (.cells #[.slice va G.length cg, .slice vb C.length cc] 25)) := belN1
  clear h1 h2 h3 hg hM
  go_enter Try.func22, Try.ntmps22
  go_upto_region 2 with (go_at_call 16; (with_reducible refine Calls.mono (hSt _ (by exact hb0)) ?_); rintro e w2 ⟨⟨r, p0, p1, rfl, a0, a1, a2, n1, n2, n3⟩, hb2⟩; have hbM := bel_after hb0 hb0.size hb2; have BM := B0.below hb2; clear hb2)
  have z0 := hb0.size
  have z1 : w.heap.size < w2.heap.size := BM.1
  have bF := hbM.alloc hbM.size (.cells #[.slice (some ⟨r, 0, none⟩) G.length G.length, .slice (some ⟨p0, 0, none⟩) G.length G.length, .slice (some ⟨p1, 0, none⟩) G.length G.length] 37)
  have q1 := (own_lt a0 r rfl).2
  have q2 := (own_lt a1 p0 rfl).2
  have q3 := (own_lt a2 p1 rfl).2
  have T0 : T3 w.heap.size w2 (.slice (some ⟨r, 0, none⟩) G.length G.length) (.slice (some ⟨p0, 0, none⟩) G.length G.length) (.slice (some ⟨p1, 0, none⟩) G.length G.length) G.length G.length G.length (valR G.length (runF G C Ms 0).a) (v32 G.length (runF G C Ms 0).i) (v32 G.length (runF G C Ms 0).w) := t3_of (own_base a0 z0) (own_base a1 z0) (own_base a2 z0) n1 n2 n3
  replace T0 := T0.below (belN1 (o1 := .cells #[.slice (some ⟨r, 0, none⟩) G.length G.length, .slice (some ⟨p0, 0, none⟩) G.length G.length, .slice (some ⟨p1, 0, none⟩) G.length G.length] 37))
  have HH : Has (w2.alloc (.cells #[.slice (some ⟨r, 0, none⟩) G.length G.length, .slice (some ⟨p0, 0, none⟩) G.length G.length, .slice (some ⟨p1, 0, none⟩) G.length G.length] 37)) w2.heap.size #[.slice (some ⟨r, 0, none⟩) G.length G.length, .slice (some ⟨p0, 0, none⟩) G.length G.length, .slice (some ⟨p1, 0, none⟩) G.length G.length] := Has.new _ _ _ rfl
  have BX := BM.alloc (.cells #[.slice (some ⟨r, 0, none⟩) G.length G.length, .slice (some ⟨p0, 0, none⟩) G.length G.length, .slice (some ⟨p1, 0, none⟩) G.length G.length] 37)
  clear hbM BM a0 a1 a2 n1 n2 n3 B0 hb0
  have zW : w2.heap.size < ((w2.alloc (.cells #[.slice (some ⟨r, 0, none⟩) G.length G.length, .slice (some ⟨p0, 0, none⟩) G.length G.length, .slice (some ⟨p1, 0, none⟩) G.length G.length] 37))).heap.size := HH.1
  generalize (w2.alloc (.cells #[.slice (some ⟨r, 0, none⟩) G.length G.length, .slice (some ⟨p0, 0, none⟩) G.length G.length, .slice (some ⟨p1, 0, none⟩) G.length G.length] 37)) = X0 at *
  generalize w2.heap.size = Hb at *
  go_upto_region 5 with ((refine wpList_make_one _ rfl _ _ 51 rfl (w.heap.size) 9 i9 _ Try.underlying51 hi hi0 hi1 rfl .i64 .i64 ((Ms.length : Int) + 1) (Ms.length + 1) (by omega) rfl (by first | rfl | (simp [Act.eval]; omega) | (simp [Act.eval])) (by omega) (by rw [hi2]; omega) (by unfold maxLen; omega) (by exact bF.size) ?_); intro W0 own0 hg0; have HB0 := bel_after bF bF.size (grown_none hg0); have BY := BX.below (grown_none hg0); have HY := HH.below (grown_none hg0); have TY := T0.below (grown_none hg0); clear hg0)
  have zg : Hb < X0.heap.size := zW
  have gl := (own_lt own0 X0.heap.size rfl)
  generalize X0.heap.size = g0 at *
  obtain ⟨_, hx, _⟩ := id HY
  have c18 := hSh 0 W0 _ (some ⟨p0, 0, none⟩) (some ⟨p1, 0, none⟩) G.length G.length TY.f1
  go_upto_region 6 with (go_at_call 30; (with_reducible refine Calls.mono c18 ?_); rintro e w5 ⟨rfl, hb5⟩; have HB5 := bel_after HB0 HB0.size hb5; have B5 := BY.below hb5; have H5 := HY.below hb5; have T5 := TY.below hb5; have o5 := own_bel own0 hb5; have fz := o5.frozenAt; obtain ⟨y0, zz0⟩ := own_some o5 0 (by omega); clear hb5)
  have o6 : (w5.setCell ⟨g0, 0, none⟩ (.string (showS (lst64 G.length (runF G C Ms 0).a)))).ownsRow w.heap.size 9 1 (.slice (some ⟨g0, 0, none⟩) 1 (Ms.length + 1)) 1 (picsF G C Ms 0) := own_stored [.string (showS (lst64 G.length (runF G C Ms 0).a))] w5 _ 0 o5
  have T6 := T5.spared (only_of_set w5 g0 0 (.string (showS (lst64 G.length (runF G C Ms 0).a)))) (fun q _ _ h e => by
    subst e
    rcases h with h | h | h
    · have : r = q := by injection h
      omega
    · have : p0 = q := by injection h
      omega
    · have : p1 = q := by injection h
      omega)
  have H6 := H5.far (c := g0) (i := 0) (by omega) (.string (showS (lst64 G.length (runF G C Ms 0).a)))
  have B6 := B5.far (c := g0) (i := 0) (by omega) (.string (showS (lst64 G.length (runF G C Ms 0).a)))
  have hb6 : Below w.heap.size w (w5.setCell ⟨g0, 0, none⟩ (.string (showS (lst64 G.length (runF G C Ms 0).a)))) := HB5.setCell (p := ⟨g0, 0, none⟩) (by simp; omega) _
  clear T5 H5 B5 HB5 o5 fz zz0 y0 c18 hx TY HY BY HB0 own0 T0 HH BX bF
  have D0 : ¬ blk3 (.slice (some ⟨r, 0, none⟩) G.length G.length) (.slice (some ⟨p0, 0, none⟩) G.length G.length) (.slice (some ⟨p1, 0, none⟩) G.length G.length) Hb ∧ ¬ blk3 (.slice (some ⟨r, 0, none⟩) G.length G.length) (.slice (some ⟨p0, 0, none⟩) G.length G.length) (.slice (some ⟨p1, 0, none⟩) G.length G.length) g0 ∧ g0 ≠ Hb ∧ g0 ≠ w.heap.size := by
    have key : ∀ q, blk3 (.slice (some ⟨r, 0, none⟩) G.length G.length) (.slice (some ⟨p0, 0, none⟩) G.length G.length) (.slice (some ⟨p1, 0, none⟩) G.length G.length) q → q < Hb := by
      intro q h
      rcases h with h | h | h
      · have : r = q := by injection h
        omega
      · have : p0 = q := by injection h
        omega
      · have : p1 = q := by injection h
        omega
    exact ⟨fun h => by have := key _ h; omega, fun h => by have := key _ h; omega, by omega, by omega⟩
  generalize (w5.setCell ⟨g0, 0, none⟩ (.string (showS (lst64 G.length (runF G C Ms 0).a)))) = X1 at *
  go_wp2_with fail
  go_loopw [8, 29] (fun u t wr => ∃ (k : Nat) (ua ub uc : Value) (g : Nat), k ≤ Ms.length ∧ t = .int .i64 (k : Int) ∧ u = .slice (some ⟨g, 0, none⟩) (k + 1) (Ms.length + 1) ∧ Hid (wr.ownsRow w.heap.size 9 1 (.slice (some ⟨g, 0, none⟩) (k + 1) (Ms.length + 1)) (k + 1) (picsF G C Ms k)) ∧ Hid (T3 w.heap.size wr ua ub uc G.length G.length G.length (valR G.length (runF G C Ms k).a) (v32 G.length (runF G C Ms k).i) (v32 G.length (runF G C Ms k).w)) ∧ Hid (Has wr Hb #[ua, ub, uc]) ∧ Hid (Has wr w.heap.size #[.slice va G.length cg, .slice vb C.length cc]) ∧ Hid (¬ blk3 ua ub uc Hb ∧ ¬ blk3 ua ub uc g ∧ g ≠ Hb ∧ g ≠ w.heap.size) ∧ Hid (Below w.heap.size w wr)) (fun _ t _ => Ms.length - (intOf t).toNat)
  case atStart => exact ⟨0, _, _, _, g0, by omega, rfl, rfl, o6, T6, H6, B6, D0, hb6⟩
  case round =>
    clear o6 T6 H6 B6 D0 hb6
    obtain ⟨k, ua, ub, uc, g, hkl, rfl, rfl, own', T', H', B', D', hb'⟩ := hrel
    have own := own'.out
    have T := T'.out
    have Hx := H'.out
    have Bx := B'.out
    have hb := hb'.out
    obtain ⟨d1, d2, d3, d4⟩ := D'.out
    clear own' T' H' B' D' hb'
    obtain ⟨b1, e1, rfl⟩ := own_form T.o1
    obtain ⟨b2, e2, rfl⟩ := own_form T.o2
    obtain ⟨b3, e3, rfl⟩ := own_form T.o3
    obtain ⟨_, bx, _⟩ := id Bx
    obtain ⟨_, hx, hf⟩ := id Hx
    by_cases hlt : k < Ms.length
    · obtain ⟨gm, om, rfl, hgm, P⟩ := km.resolve_left (by intro e; rw [e] at hlt; simp at hlt)
      have pk := (hb.cell (p := ⟨gm, _, none⟩) hgm).trans (P k hlt _ rfl)
      have cN := hNx k wr hb _ _ _ T.f1 T.f2 T.f3
      have eM : Ms[k] = Ms.getD k 0 := by simp [List.getD_eq_getElem?_getD, hlt]
      rw [eM] at pk
      clear eM P
      obtain ⟨M, eM⟩ : ∃ M, Hid (M = Ms.getD k 0) := ⟨_, rfl⟩
      rw [← eM.out] at pk cN
      have t1 : (k : Int) < (Ms.length : Int) := by omega
      have t0 : (0 : Int) ≤ (k : Int) := by omega
      have t2 : k + 1 ≤ Ms.length := hlt
      go_upto_region 10 with (go_at_call 39; (with_reducible refine Calls.mono cN ?_); rintro e w4 ⟨⟨r', s0, s1, rfl, a0, a1, a2, n1, n2, n3⟩, hb4⟩; have H4 := Hx.below hb4; have B4 := Bx.below hb4; have o4 := own_bel own hb4; have b4 := bel_after hb hb.size hb4; obtain ⟨_, x1, x2⟩ := id H4)
      have O : Only (fun q => q = Hb) w4 (((w4.setCell ⟨Hb, 0, none⟩ (.slice (some ⟨r', 0, none⟩) G.length G.length)).setCell ⟨Hb, 1, none⟩ (.slice (some ⟨s0, 0, none⟩) G.length G.length)).setCell ⟨Hb, 2, none⟩ (.slice (some ⟨s1, 0, none⟩) G.length G.length)) := ((only_of_set _ _ _ _).trans (only_of_set _ _ _ _)).trans (only_of_set _ _ _ _)
      have HH : Has (((w4.setCell ⟨Hb, 0, none⟩ (.slice (some ⟨r', 0, none⟩) G.length G.length)).setCell ⟨Hb, 1, none⟩ (.slice (some ⟨s0, 0, none⟩) G.length G.length)).setCell ⟨Hb, 2, none⟩ (.slice (some ⟨s1, 0, none⟩) G.length G.length)) Hb #[.slice (some ⟨r', 0, none⟩) G.length G.length, .slice (some ⟨s0, 0, none⟩) G.length G.length, .slice (some ⟨s1, 0, none⟩) G.length G.length] := by simpa using ((H4.set 0 (by simp) (.slice (some ⟨r', 0, none⟩) G.length G.length)).set 1 (by simp) (.slice (some ⟨s0, 0, none⟩) G.length G.length)).set 2 (by simp) (.slice (some ⟨s1, 0, none⟩) G.length G.length)
      have zH := Hx.1
      have gw := (own_lt own g rfl).2
      have key : ∀ q, blk3 (.slice (some ⟨r', 0, none⟩) G.length G.length) (.slice (some ⟨s0, 0, none⟩) G.length G.length) (.slice (some ⟨s1, 0, none⟩) G.length G.length) q → wr.heap.size ≤ q ∧ q < w4.heap.size := by
        intro q h
        rcases h with h | h | h
        · have e : r' = q := by injection h
          subst e; exact own_lt a0 _ rfl
        · have e : s0 = q := by injection h
          subst e; exact own_lt a1 _ rfl
        · have e : s1 = q := by injection h
          subst e; exact own_lt a2 _ rfl
      have eR : runF G C Ms (k + 1) = F3.next G C (runF G C Ms k) M := by rw [eM.out]; rfl
      have T1 : T3 w.heap.size w4 (.slice (some ⟨r', 0, none⟩) G.length G.length) (.slice (some ⟨s0, 0, none⟩) G.length G.length) (.slice (some ⟨s1, 0, none⟩) G.length G.length) G.length G.length G.length (valR G.length (runF G C Ms (k + 1)).a) (v32 G.length (runF G C Ms (k + 1)).i) (v32 G.length (runF G C Ms (k + 1)).w) := by rw [eR]; exact t3_of (own_base a0 hb.size) (own_base a1 hb.size) (own_base a2 hb.size) n1 n2 n3
      have T2 := T1.spared O (fun q _ _ h e => by have := (key q h).1; omega)
      have B2 := B4.only O (by omega)
      have o2 := own_only2 o4 O (fun q hq h => by have e : g = q := (by injection hq); omega)
      have hb2 := bel_only b4 O (Nat.le_refl _) (fun q hq h => by omega)
      have zO := O.size
      clear T1 B4 o4 b4 H4 x1 x2 O a0 a1 a2 n1 n2 n3 eR cN pk hx hf bx T Hx Bx own
      generalize (((w4.setCell ⟨Hb, 0, none⟩ (.slice (some ⟨r', 0, none⟩) G.length G.length)).setCell ⟨Hb, 1, none⟩ (.slice (some ⟨s0, 0, none⟩) G.length G.length)).setCell ⟨Hb, 2, none⟩ (.slice (some ⟨s1, 0, none⟩) G.length G.length)) = Y at *
      obtain ⟨_, hy, _⟩ := id HH
      have cS := hSh (k + 1) Y _ (some ⟨s0, 0, none⟩) (some ⟨s1, 0, none⟩) G.length G.length T2.f1
      have eP : Hid (picsF G C Ms k ++ [.string (showS (lst64 G.length (runF G C Ms (k + 1)).a))] = picsF G C Ms (k + 1)) := (picsF_succ G C Ms k).symm
      have zb := hb.size
      go_upto_region 11 with (first
        | (go_at_call 30; (with_reducible refine Calls.mono cS ?_); rintro e w5 ⟨rfl, hb5⟩; have HB5 := bel_after hb2 hb2.size hb5; have B5 := B2.below hb5; have H5 := HH.below hb5; have T5 := T2.below hb5; have o5 := own_bel o2 hb5; have z5 := hb5.size; clear hb5)
        | (at_builtin; (refine wpList_append_fits _ rfl _ _ 51 rfl w.heap.size 9 i9 1 Try.underlying51 hi hi1 g (k + 1) (Ms.length + 1) (picsF G C Ms k) rfl (own_bel o5 belN1) ⟨w5.heap.size, 0, none⟩ 1 1 [.string (showS (lst64 G.length (runF G C Ms (k + 1)).a))] rfl rfl (cells_at (W := w5) rfl _ _) (all_one rfl) (by omega) ?_); intro y1 o1 hg1; rw [eP.out] at o1; have O1 := only_of_grown hg1; clear hg1))
      have sg : ∀ q, (some g : Option Nat) = some q → q = g := fun q h => by injection h with h; exact h.symm
      have T7 := T5.spared O1 (fun q _ _ h e => by have := (key q h).1; have := sg q e; omega)
      have H7 := H5.only O1 (fun e => by have := sg _ e; omega)
      have B7 := B5.only O1 (fun e => by have := sg _ e; omega)
      have lg := (own_lt o5 g rfl).1
      have b7 := bel_only HB5 O1 (Nat.le_refl _) (fun q hq e => by have := sg q e; omega)
      go_wp2_with fail
      go_roundw
      case rel => exact ⟨k + 1, _, _, _, g, by omega, by go_num, rfl, o1, T7, H7, B7, ⟨fun h => by have := (key _ h).1; omega, fun h => by have := key _ h; omega, by omega, by omega⟩, b7⟩
      case measure => simp [intOf]; omega
    · have t1 : ¬ (k : Int) < (Ms.length : Int) := by omega
      obtain rfl : k = Ms.length := by omega
      go_wp2_with fail
      exact bodyPost_ret (v := .tuple #[.slice (some ⟨g, 0, none⟩) (Ms.length + 1) (Ms.length + 1), .int .i64 0]) (by simp [results, Try.results22, go_sem]) rfl ⟨⟨g, _, rfl, own⟩, hb⟩
end Go.Proofs.Ythflpnahifpdnaa
