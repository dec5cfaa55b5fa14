import Derived.Test.YtbonmajnkbggcabLsF
import Derived.Test.YtbonmajnkbggcabRtD
import Derived.Test.YtbonmajnkbggcabStA
import Derived.Deep.RegionHeld3
namespace Go.Proofs.Ytbonmajnkbggcab
open Go.RowKit
set_option linter.unusedVariables false

set_option maxRecDepth 100000 in
set_option maxHeartbeats 4000000 in
theorem lists_bad (G : List Gp) (C : List Cf) (Ms : List Nat) (vg vc vm : Value) (w : World) (h1 : Fl 5 Gp.cs w vg G) (h2 : Fl 4 Cf.cs w vc C) (h3 : Fl 1 u64 w vm Ms) (lG : G.length ≤ 2932031007317) (lC : C.length ≤ 4398046511000) (hg : gridB G C = false) :
    Calls Try.prog 5 #[.agg #[vg, vc], vm] w fun e w' => e = .returned (.bool true) ∧ Below w.heap.size w w' := by
  have kR := fun (X : World) (hX : Below w.heap.size w X) => refStart_bad G C vg vc X (h1.below hX) (h2.below hX) lG lC hg
  have kP := fun (X : World) (hX : Below w.heap.size w X) => start_bad G C vg vc X (h1.below hX) (h2.below hX) lG lC hg
  obtain ⟨va, cg, rfl, -⟩ := h1.any
  obtain ⟨vb, cc, rfl, -⟩ := h2.any
  obtain ⟨am, cm, rfl, -⟩ := h3.nums
  have B0 : Has (w.alloc (.cells #[.slice va G.length cg, .slice vb C.length cc] 25)) w.heap.size #[.slice va G.length cg, .slice vb C.length cc] := Has.new _ _ _ rfl
  have hb0 : Below w.heap.size w (w.alloc (.cells #[.slice va G.length cg, .slice vb C.length cc] 25)) := belN1
  clear h1 h2 h3 hg
  go_enter Try.func5, Try.ntmps5
  go_upto_region 2 with (go_at_call 24; (with_reducible refine Calls.mono (kR _ (by exact hb0)) ?_); rintro e w2 ⟨rfl, hb2⟩; have hbM := bel_after hb0 hb0.size hb2; have BM := B0.below hb2; clear hb2)
  have bF := hbM.alloc hbM.size (.cells #[.slice none 0 0, .slice none 0 0, .slice none 0 0] 29)
  have BF := BM.alloc (.cells #[.slice none 0 0, .slice none 0 0, .slice none 0 0] 29)
  generalize (w2.alloc (.cells #[.slice none 0 0, .slice none 0 0, .slice none 0 0] 29)) = X1 at *
  obtain ⟨_, b1, _⟩ := id BF
  go_wp2_with (go_at_call 25; (with_reducible refine Calls.mono (kP _ (by exact bF)) ?_); rintro e w3 ⟨rfl, hb3⟩; have bG := bel_after bF bF.size hb3; clear hb3)
  go_ret
  exact ⟨rfl, bG.alloc bG.size _⟩

theorem cellsF_appL {α : Type} {cs : α → List Value} (S T : List α) : cellsF cs (S ++ T) = cellsF cs S ++ cellsF cs T := by unfold cellsF; rw [List.flatMap_append]
set_option maxRecDepth 100000 in
set_option maxHeartbeats 4000000 in
theorem lists_ok (G : List Gp) (C : List Cf) (Ms : List Nat) (vg vc vm : Value) (w : World) (h1 : Fl 5 Gp.cs w vg G) (h2 : Fl 4 Cf.cs w vc C) (h3 : Fl 1 u64 w vm Ms) (lG : G.length ≤ 2932031007317) (lC : C.length ≤ 4398046511000) (lM : Ms.length ≤ 1048576) (hM : ∀ x ∈ Ms, x < 18446744073709551616) (hg : gridB G C = true) :
    Calls Try.prog 5 #[.agg #[vg, vc], vm] w fun e w' => e = .returned (.bool true) ∧ Below w.heap.size w w' := by
  have kR := fun (X : World) (hX : Below w.heap.size w X) => refStart_ok G C vg vc X (h1.below hX) (h2.below hX) lG lC hg
  have kP := fun (X : World) (hX : Below w.heap.size w X) => start_ok G C vg vc X (h1.below hX) (h2.below hX) lG lC hg
  have h64 := grid_len hg
  have hMk : ∀ k, Ms.getD k 0 < 18446744073709551616 := fun k => by
    by_cases h : k < Ms.length
    · rw [show Ms.getD k 0 = Ms[k] by simp [List.getD_eq_getElem?_getD, h]]; exact hM _ (List.getElem_mem h)
    · rw [show Ms.getD k 0 = 0 by simp [List.getD_eq_getElem?_getD, h]]; omega
  have hNr := fun (k : Nat) (X : World) (hX : Below w.heap.size w X) (u1 u2 u3 : Value) (f1 : Fl 1 n64 X u1 (lst64 G.length (runF G C Ms k).a)) (f2 : Fl 1 n32 X u2 (lst64 G.length (runF G C Ms k).i)) (f3 : Fl 1 n32 X u3 (lst64 G.length (runF G C Ms k).w)) => refStep_ok G C _ _ _ vg vc u1 u2 u3 (Ms.getD k 0) X (h1.below hX) (h2.below hX) f1 f2 f3 lG lC (by rw [lst_len]; omega) (by rw [lst_len]; omega) (by rw [lst_len]; omega) (okf_run hg Ms k).2.1 (okf_run hg Ms k).2.2 (hMk k) hg (okf_run hg Ms k).1
  have hNp := fun (k : Nat) (X : World) (hX : Below w.heap.size w X) (u1 u2 u3 : Value) (f1 : Fl 1 n64 X u1 (lst64 G.length (runF G C Ms k).a)) (f2 : Fl 1 n32 X u2 (lst64 G.length (runF G C Ms k).i)) (f3 : Fl 1 n32 X u3 (lst64 G.length (runF G C Ms k).w)) => step_ok G C _ _ _ vg vc u1 u2 u3 (Ms.getD k 0) X (h1.below hX) (h2.below hX) f1 f2 f3 lG lC (by rw [lst_len]; omega) (by rw [lst_len]; omega) (by rw [lst_len]; omega) (okf_run hg Ms k).2.1 (okf_run hg Ms k).2.2 (hMk k) hg (okf_run hg Ms k).1
  obtain ⟨va, cg, rfl, -⟩ := h1.any
  obtain ⟨vb, cc, rfl, -⟩ := h2.any
  obtain ⟨am, cm, rfl, km⟩ := h3.nums
  have B0 : Has (w.alloc (.cells #[.slice va G.length cg, .slice vb C.length cc] 25)) w.heap.size #[.slice va G.length cg, .slice vb C.length cc] := Has.new _ _ _ rfl
  have hb0 : Below w.heap.size w (w.alloc (.cells #[.slice va G.length cg, .slice vb C.length cc] 25)) := belN1
  have z0 : (w.alloc (.cells #[.slice va G.length cg, .slice vb C.length cc] 25)).heap.size = w.heap.size + 1 := by simp
  clear h1 h2 h3 hg hM
  go_enter Try.func5, Try.ntmps5
  go_upto_region 2 with (go_at_call 24; (with_reducible refine Calls.mono (kR _ (by exact hb0)) ?_); rintro e w2 ⟨⟨na, nb, nc, rfl, T0⟩, hb2⟩; obtain ⟨e1, x1, rfl⟩ := own_form T0.o1; obtain ⟨e2, x2, rfl⟩ := own_form T0.o2; obtain ⟨e3, x3, rfl⟩ := own_form T0.o3; have hbM := bel_after hb0 hb0.size hb2; have BM := B0.below hb2; clear hb2)
  have bF := hbM.alloc hbM.size (.cells #[.slice e1 G.length x1, .slice e2 G.length x2, .slice e3 G.length x3] 29)
  have BF := BM.alloc (.cells #[.slice e1 G.length x1, .slice e2 G.length x2, .slice e3 G.length x3] 29)
  have HF : Has (w2.alloc (.cells #[.slice e1 G.length x1, .slice e2 G.length x2, .slice e3 G.length x3] 29)) w2.heap.size #[.slice e1 G.length x1, .slice e2 G.length x2, .slice e3 G.length x3] := Has.new _ _ _ rfl
  have TF := T0.below (belN1 : Below w2.heap.size w2 (w2.alloc (.cells #[.slice e1 G.length x1, .slice e2 G.length x2, .slice e3 G.length x3] 29)))
  have l1 := fun q hq => own_lt T0.o1 q hq
  have l2 := fun q hq => own_lt T0.o2 q hq
  have l3 := fun q hq => own_lt T0.o3 q hq
  have zF : w2.heap.size < (w2.alloc (.cells #[.slice e1 G.length x1, .slice e2 G.length x2, .slice e3 G.length x3] 29)).heap.size := HF.1
  have zM := BM.1
  rw [z0] at l1 l2 l3 TF
  generalize (w2.alloc (.cells #[.slice e1 G.length x1, .slice e2 G.length x2, .slice e3 G.length x3] 29)) = X1 at *
  generalize w2.heap.size = Hh at *
  obtain ⟨_, b1, _⟩ := id BF
  clear hbM BM T0 B0 hb0
  go_upto_region 3 with (go_at_call 25; (with_reducible refine Calls.mono (kP _ (by exact bF)) ?_); rintro e w3 ⟨⟨r, p0, p1, rfl, o1, o2, o3, d1, d2, d3⟩, hb3⟩; have bG := bel_after bF bF.size hb3; have BG := BF.below hb3; have HG := HF.below hb3; have TG := TF.below hb3; have zG := hb3.size; clear hb3)
  have bH := bG.alloc bG.size (.cells #[.slice (some ⟨r, 0, none⟩) G.length G.length, .slice (some ⟨p0, 0, none⟩) G.length G.length, .slice (some ⟨p1, 0, none⟩) G.length G.length] 29)
  have L0 : LI G.length (runF G C Ms 0) w.heap.size w3.heap.size Hh (w.heap.size + 1) X1.heap.size (.slice va G.length cg) (.slice vb C.length cc) (.slice (some ⟨r, 0, none⟩) G.length G.length) (.slice (some ⟨p0, 0, none⟩) G.length G.length) (.slice (some ⟨p1, 0, none⟩) G.length G.length) (.slice e1 G.length x1) (.slice e2 G.length x2) (.slice e3 G.length x3) (.slice none 0 0) [] 0 (w3.alloc (.cells #[.slice (some ⟨r, 0, none⟩) G.length G.length, .slice (some ⟨p0, 0, none⟩) G.length G.length, .slice (some ⟨p1, 0, none⟩) G.length G.length] 29)) := by
    have T3p := (t3_of o1 o2 o3 d1 d2 d3).below (belN1 : Below w3.heap.size w3 (w3.alloc (.cells #[.slice (some ⟨r, 0, none⟩) G.length G.length, .slice (some ⟨p0, 0, none⟩) G.length G.length, .slice (some ⟨p1, 0, none⟩) G.length G.length] 29)))
    have T3v := TG.below (belN1 : Below w3.heap.size w3 (w3.alloc (.cells #[.slice (some ⟨r, 0, none⟩) G.length G.length, .slice (some ⟨p0, 0, none⟩) G.length G.length, .slice (some ⟨p1, 0, none⟩) G.length G.length] 29)))
    have q1 := own_lt o1 r rfl
    have q2 := own_lt o2 p0 rfl
    have q3 := own_lt o3 p1 rfl
    refine ⟨BG.alloc _, Has.new _ _ _ rfl, HG.alloc _, T3p, ⟨own_base T3v.o1 (Nat.zero_le _), own_base T3v.o2 (Nat.zero_le _), own_base T3v.o3 (Nat.zero_le _), T3v.d12, T3v.d13, T3v.d23⟩, ?_, ?_, World.ownsRow_nil _ _ _ _, rfl, (fun q hq => by cases hq), (fun j hj => by simp at hj), (by simp; omega), (by omega)⟩
    · intro q hq
      have : w.heap.size + 1 ≤ q ∧ q < Hh := by
        rcases hq with hq | hq | hq
        · exact l1 q hq
        · exact l2 q hq
        · exact l3 q hq
      exact ⟨by omega, by omega, by omega, fun h => by cases h⟩
    · intro q hq
      have : X1.heap.size ≤ q ∧ q < w3.heap.size := by
        rcases hq with hq | hq | hq
        · have e : r = q := by injection hq
          subst e; exact q1
        · have e : p0 = q := by injection hq
          subst e; exact q2
        · have e : p1 = q := by injection hq
          subst e; exact q3
      exact ⟨by omega, by omega⟩
  generalize (w3.alloc (.cells #[.slice (some ⟨r, 0, none⟩) G.length G.length, .slice (some ⟨p0, 0, none⟩) G.length G.length, .slice (some ⟨p1, 0, none⟩) G.length G.length] 29)) = X2 at *
  generalize w3.heap.size = Hp at *
  clear kR kP b1 bF BF HF TF bG BG HG TG o1 o2 o3 d1 d2 d3 l1 l2 l3 zF zG zM z0
  go_wp2_with fail
  go_loopw [9, 10] (fun v9 t wr => ∃ k : Nat, k ≤ Ms.length + 1 ∧ t = .int .i64 (k : Int) ∧ Hid (Below w.heap.size w wr) ∧ Hid (k ≤ Ms.length → ∃ (u1 u2 u3 v1 v2 v3 : Value) (HL : List V3) (Z : Nat), LI G.length (runF G C Ms k) w.heap.size Hp Hh (w.heap.size + 1) Z (.slice va G.length cg) (.slice vb C.length cc) u1 u2 u3 v1 v2 v3 v9 HL k wr)) (fun _ t _ => Ms.length + 1 - (intOf t).toNat)
  case atStart => exact ⟨0, by omega, rfl, bH, fun _ => ⟨_, _, _, _, _, _, _, _, L0⟩⟩
  case round =>
    clear L0 bH
    obtain ⟨k, hkl, rfl, hb', L'⟩ := hrel
    have hb := hb'.out
    by_cases hle : k ≤ Ms.length
    · obtain ⟨u1, u2, u3, v1, v2, v3, HL, Z, L⟩ := L'.out hle
      clear hb' L'
      obtain ⟨a1, c1, rfl⟩ := own_form L.tp.o1
      obtain ⟨a2, c2, rfl⟩ := own_form L.tp.o2
      obtain ⟨a3, c3, rfl⟩ := own_form L.tp.o3
      obtain ⟨b1, f1, rfl⟩ := own_form L.tv.o1
      obtain ⟨b2, f2, rfl⟩ := own_form L.tv.o2
      obtain ⟨b3, f3, rfl⟩ := own_form L.tv.o3
      obtain ⟨a9, c9, rfl⟩ := own_form L.row
      obtain ⟨ti, hi, hi0, hi1, hi2⟩ := info_parts info29l
      have t1 : (k : Int) ≤ (Ms.length : Int) := by omega
      have t0 : (0 : Int) ≤ (k : Int) := by omega
      have m1 : IntKind.i64.wrap (1000 * (k : Int)) = 1000 * (k : Int) := wrap64 _ (by omega)
      have m2 : IntKind.i64.wrap (1000 * (k : Int) + 4) = 1000 * (k : Int) + 4 := wrap64 _ (by omega)
      have zs := L.zs
      obtain ⟨zb1, zb2, zb3, zb4, zb5⟩ := L.zb
      obtain ⟨hpz, hpc, _⟩ := id L.hp
      obtain ⟨hhz, hhc, _⟩ := id L.hh
      have cE := headsEqual_any _ _ _ _ _ _ _ _ _ wr L.tp.f1 L.tp.f2 L.tp.f3 L.tv.f1 L.tv.f2 L.tv.f3 (by rw [lst_len]; omega) (by rw [lst_len]; omega) (by rw [lst_len]; omega)
      go_upto_region 13 with (go_at_call 26; (with_reducible refine Calls.mono cE ?_); rintro e y1 ⟨rfl, hy1⟩)
      have T1 := L.tp.below hy1
      have P1 := L.hp.below hy1
      have cC := copyHeads_any _ _ _ _ _ _ y1 T1.f1 T1.f2 T1.f3 (by rw [lst_len]; omega) (by rw [lst_len]; omega) (by rw [lst_len]; omega)
      simp only [lst_len] at cC
      obtain ⟨_, p1c, _⟩ := id P1
      clear hpc hhc cE
      go_upto_region 14 with (go_at_call 27; (with_reducible refine Calls.mono cC ?_); rintro e y2 ⟨⟨i1, d1, i2, d2, i3, d3, rfl, CP⟩, hy2⟩)
      have B2 := bel_after hy1 hy1.size hy2
      have B3 := B2.alloc B2.size (.cells #[.slice i1 G.length d1, .slice i2 G.length d2, .slice i3 G.length d3] 29)
      have HI : Has (y2.alloc (.cells #[.slice i1 G.length d1, .slice i2 G.length d2, .slice i3 G.length d3] 29)) y2.heap.size #[.slice i1 G.length d1, .slice i2 G.length d2, .slice i3 G.length d3] := Has.new _ _ _ rfl
      have C1 := own_bel CP.a (belN1 : Below y2.heap.size y2 (y2.alloc (.cells #[.slice i1 G.length d1, .slice i2 G.length d2, .slice i3 G.length d3] 29)))
      have C2 := own_bel CP.i (belN1 : Below y2.heap.size y2 (y2.alloc (.cells #[.slice i1 G.length d1, .slice i2 G.length d2, .slice i3 G.length d3] 29)))
      have C3 := own_bel CP.w (belN1 : Below y2.heap.size y2 (y2.alloc (.cells #[.slice i1 G.length d1, .slice i2 G.length d2, .slice i3 G.length d3] 29)))
      have qa := fun q hq => own_lt CP.a q hq
      have qb := fun q hq => own_lt CP.i q hq
      have qc := fun q hq => own_lt CP.w q hq
      have s1 := hy1.size
      have s2 := hy2.size
      clear cC p1c T1 P1 CP hy1 hy2 B2
      generalize (y2.alloc (.cells #[.slice i1 G.length d1, .slice i2 G.length d2, .slice i3 G.length d3] 29)) = y3 at *
      generalize hHi : y2.heap.size = Hi at *
      have T3' := L.tp.below B3
      have P3 := L.hp.below B3
      obtain ⟨_, p3c, _⟩ := id P3
      have cS := spoil_marks Z G.length _ _ _ _ _ _ (1000 * (k : Int) + 4) y3 T3' h64 (by omega)
      go_upto_region 15 with (go_at_call 28; (with_reducible refine Calls.mono cS ?_); rintro e y4 ⟨rfl, O4, T4⟩)
      have P4 := P3.only O4 (fun h => (L.dp _ h).1 rfl)
      have s3 := B3.size
      have s4 := O4.size
      have cG := grown_any Z G.length _ _ _ _ _ _ (k : Int) y4.drew T4.drew (show Z ≤ y4.heap.size by omega) h64 (by omega)
      clear cS p3c P3 T3'
      refine wp_region_noPanic ?_
      refine wp_region_held_drew (S := fun w' => w'.cell? ⟨Hp, 0, none⟩ = some (.slice a1 G.length c1) ∧ w'.cell? ⟨Hp, 1, none⟩ = some (.slice a2 G.length c2) ∧ w'.cell? ⟨Hp, 2, none⟩ = some (.slice a3 G.length c3)) (by kernel_rfl) ?_ (fun hHeld => ?_)
      · (try dsimp only)
        exact has3 P4.drew
      refine wpAnyH_take (i := 0) (oi := { dst := some 61, op := Op.move (Operand.tmp 9), type := 50, pos := "headslaw.go:192", after := #[], guard := none }) (v := ?_) rfl (by kernel_rfl) (by kernel_rfl) (by kernel_rfl) (fun _ _ _ h => h) (Or.inl ⟨by rfl, ?_⟩) (by assumption) ?_
      rotate_left
      · intro wz hSz; (try dsimp only at hSz); go_simp; all_goals (with_reducible rfl)
      (try simp only [Act.put, List.setIfInBounds_toArray, List.set_cons_zero, List.set_cons_succ])
      refine wpAnyH_take (i := 1) (oi := { dst := some 62, op := Op.load 29 (Operand.tmp 7), type := 29, pos := "headslaw.go:192", after := #[], guard := none }) (v := ?_) rfl (by kernel_rfl) (by kernel_rfl) (by kernel_rfl) (fun _ _ _ h => h) (Or.inl ⟨by rfl, ?_⟩) (by assumption) ?_
      rotate_left
      · intro wz hSz; (try dsimp only at hSz); go_simp; all_goals (with_reducible rfl)
      (try simp only [Act.put, List.setIfInBounds_toArray, List.set_cons_zero, List.set_cons_succ])
      refine wpAnyH_take (i := 2) (oi := { dst := some 63, op := Op.load 29 (Operand.tmp 7), type := 29, pos := "headslaw.go:192", after := #[], guard := none }) (v := ?_) rfl (by kernel_rfl) (by kernel_rfl) (by kernel_rfl) (fun _ _ _ h => h) (Or.inl ⟨by rfl, ?_⟩) (by assumption) ?_
      rotate_left
      · intro wz hSz; (try dsimp only at hSz); go_simp; all_goals (with_reducible rfl)
      (try simp only [Act.put, List.setIfInBounds_toArray, List.set_cons_zero, List.set_cons_succ])
      refine wpAnyH_take (i := 3) (oi := { dst := some 64, op := Op.move (Operand.tmp 10), type := 3, pos := "headslaw.go:192", after := #[], guard := none }) (v := ?_) rfl (by kernel_rfl) (by kernel_rfl) (by kernel_rfl) (fun _ _ _ h => h) (Or.inl ⟨by rfl, ?_⟩) (by assumption) ?_
      rotate_left
      · intro wz hSz; (try dsimp only at hSz); go_simp; all_goals (with_reducible rfl)
      (try simp only [Act.put, List.setIfInBounds_toArray, List.set_cons_zero, List.set_cons_succ])
      refine wpAnyH_ready (rs := [4]) (by kernel_rfl) (by simp) ?_
      refine AllReadyH.cons (o := { dst := some 65, op := Op.call { callee := Callee.value (Operand.func 29), args := #[Operand.tmp 63, Operand.tmp 64], argTypes := #[29, 3] }, type := 29, pos := "headslaw.go:192", after := #[{ on := 2, ground := Ground.data }, { on := 3, ground := Ground.data }], guard := none }) rfl (fun K hK => ?_) AllReadyH.nil
      go_simp
      (go_at_call 29; (with_reducible refine Calls.mono cG ?_); rintro e y5 ⟨⟨g0, q0, g1, q1, g2, q2, rfl, T5, D0, D1, D2⟩, K1, K2, K3, O5⟩; have P5 := P4.drew.only O5 (fun h => (L.dp _ h).1 rfl))
      go_wp2_with fail
      refine hK.out _ _ ?_ (fun hHeld => ?_)
      · (try dsimp only)
        exact has3 P5
      clear hK K
      (try simp only [Act.put, List.setIfInBounds_toArray, List.set_cons_zero, List.set_cons_succ])
      refine wpAnyH_ready (rs := [5]) (by kernel_rfl) (by simp) ?_
      refine AllReadyH.cons (o := { dst := some 66, op := Op.buildSlice 50 2 #[(0, Operand.tmp 62), (1, Operand.tmp 65)], type := 50, pos := "headslaw.go:192", after := #[{ on := 1, ground := Ground.data }, { on := 4, ground := Ground.data }], guard := none }) rfl (fun K hK => ?_) AllReadyH.nil
      go_simp
      refine hK.out _ _ ?_ (fun hHeld => ?_)
      · (try dsimp only)
        exact has3 (P5.alloc _)
      clear hK K
      (try simp only [Act.put, List.setIfInBounds_toArray, List.set_cons_zero, List.set_cons_succ])
      have O5' : Only (blk3 (.slice a1 G.length c1) (.slice a2 G.length c2) (.slice a3 G.length c3)) y4 y5 := ⟨O5.os, O5.tape, O5.output, O5.size, O5.block⟩
      have OB : Only (blk3 (.slice a1 G.length c1) (.slice a2 G.length c2) (.slice a3 G.length c3)) wr y5 := only_tr (only_tr (Only.of_below B3) O4 (fun _ _ h => h)) O5' (fun _ _ h => h)
      have r5 := own_only2 L.row OB (fun q hq h => by have := (L.d9 q hq).1; have := (L.z3 q h).1; omega)
      have s5 := O5'.size
      refine wpAnyH_ready (rs := [6]) (by kernel_rfl) (by simp) ?_
      refine AllReadyH.cons (o := { dst := some 67, op := Op.call { callee := Callee.builtin Builtin.append, args := #[Operand.tmp 61, Operand.tmp 66], argTypes := #[50, 50] }, type := 50, pos := "headslaw.go:192", after := #[{ on := 0, ground := Ground.data }, { on := 5, ground := Ground.data }, { on := 4, ground := Ground.chain }], guard := none }) rfl (fun K hK => ?_) AllReadyH.nil
      refine step_append_lies _ rfl _ _ 50 rfl (w.heap.size + 1) 29 ti _ 3 72 Try.underlying50 hi hi0 hi1 hi2 rfl (by decide) (.slice a9 (2 * k) c9) (2 * k) (cellsF cs3 HL) rfl (own_bel r5 belN1) ⟨y5.heap.size, 0, none⟩ 2 2 [.slice a1 G.length c1, .slice a2 G.length c2, .slice a3 G.length c3, .slice (some ⟨g0, 0, none⟩) (G.length + 1) q0, .slice (some ⟨g1, 0, none⟩) (G.length + 1) q1, .slice (some ⟨g2, 0, none⟩) (G.length + 1) q2] rfl rfl (cells_at (W := y5) rfl _ _) (all_one rfl) (by decide) (by unfold maxLen; omega) (by omega) (by simp; omega) _ rfl ?_
      intro g9 c9' y7 ow9 gr9 at9 lt9
      have O7 := only_of_grown gr9
      have P7 := P5.only O7 (fun h => (L.d9 _ h).2.1 rfl)
      refine hK.out _ _ ?_ (fun hHeld => ?_)
      · (try dsimp only)
        exact has3 P7
      clear hK K
      (try simp only [Act.put, List.setIfInBounds_toArray, List.set_cons_zero, List.set_cons_succ])
      refine wpAnyH_take (i := 7) (oi := { dst := some 9, op := Op.assign (Operand.tmp 67), type := 50, pos := "headslaw.go:192", after := #[{ on := 6, ground := Ground.data }, { on := 6, ground := Ground.chain }, { on := 0, ground := Ground.phase }, { on := 1, ground := Ground.phase }, { on := 2, ground := Ground.phase }, { on := 3, ground := Ground.phase }, { on := 4, ground := Ground.phase }, { on := 5, ground := Ground.phase }, { on := 6, ground := Ground.phase }], guard := none }) (v := ?_) rfl (by kernel_rfl) (by kernel_rfl) (by kernel_rfl) (fun _ _ _ h => h) (Or.inl ⟨by rfl, ?_⟩) (by assumption) ?_
      rotate_left
      · intro wz hSz; (try dsimp only at hSz); go_simp; all_goals (with_reducible rfl)
      (try simp only [Act.put, List.setIfInBounds_toArray, List.set_cons_zero, List.set_cons_succ])
      refine wpAnyH_done (by kernel_rfl) ?_ _
      refine NoPanic.normal ?_
      clear hHeld
      have OA : Only (fun q => blk3 (.slice a1 G.length c1) (.slice a2 G.length c2) (.slice a3 G.length c3) q ∨ (Value.slice a9 (2 * k) c9).ownBlock = some q) wr y7 := only_tr (OB.mono (fun q h => .inl h)) O7 (fun q _ h => .inr h)
      have zA := OA.size
      have z7 := O7.size
      have at' : (Value.slice a9 (2 * k) c9).ownBlock = some g9 ∨ y5.heap.size ≤ g9 := at9.imp id (fun h => by rw [h]; simp)
      have row' : y7.ownsRow (w.heap.size + 1) 29 3 (.slice (some ⟨g9, 0, none⟩) (2 * k + 2) c9') (2 * k + 2) (cellsF cs3 (HL ++ [((Value.slice a1 G.length c1), (Value.slice a2 G.length c2), (Value.slice a3 G.length c3)), ((Value.slice (some ⟨g0, 0, none⟩) (G.length + 1) q0), (Value.slice (some ⟨g1, 0, none⟩) (G.length + 1) q1), (Value.slice (some ⟨g2, 0, none⟩) (G.length + 1) q2))])) := by
        rw [cellsF_appL]; exact ow9
      have eHL : (HL ++ [((Value.slice a1 G.length c1), (Value.slice a2 G.length c2), (Value.slice a3 G.length c3)), ((Value.slice (some ⟨g0, 0, none⟩) (G.length + 1) q0), (Value.slice (some ⟨g1, 0, none⟩) (G.length + 1) q1), (Value.slice (some ⟨g2, 0, none⟩) (G.length + 1) q2))]).length = 2 * k + 2 := by simp [L.hl]
      have nv : ∀ q, (Value.slice a9 (2 * k) c9).ownBlock ≠ some q → q < y5.heap.size → (Value.slice (some ⟨g9, 0, none⟩) (2 * k + 2) c9').ownBlock ≠ some q := fun q h1 h2 h => by
        have e : g9 = q := by injection h
        subst e
        rcases at' with h | h
        · exact h1 h
        · omega
      have T5' : T3 Z y5 (.slice (some ⟨g0, 0, none⟩) (G.length + 1) q0) (.slice (some ⟨g1, 0, none⟩) (G.length + 1) q1) (.slice (some ⟨g2, 0, none⟩) (G.length + 1) q2) (G.length + 1) (G.length + 1) (G.length + 1) (valR (G.length + 1) (mkA G.length (1000 * (k : Int) + 4) (k : Int))) (v32 (G.length + 1) (mkI G.length (1000 * (k : Int) + 4) (k : Int))) (v32 (G.length + 1) (mkW G.length (1000 * (k : Int) + 4) (k : Int))) := by
        have := T5
        rw [mk_snoc64, mk_snocI, mk_snocW] at this
        exact this
      have zu : ∀ q, blk3 (.slice a1 G.length c1) (.slice a2 G.length c2) (.slice a3 G.length c3) q → Z ≤ q ∧ q < y5.heap.size := fun q h => by have := L.z3 q h; omega
      have n9 : ∀ q, Z ≤ q → (Value.slice a9 (2 * k) c9).ownBlock ≠ some q := fun q h h2 => by have := (L.d9 q h2).1; omega
      have zg : ∀ q, blk3 (.slice (some ⟨g0, 0, none⟩) (G.length + 1) q0) (.slice (some ⟨g1, 0, none⟩) (G.length + 1) q1) (.slice (some ⟨g2, 0, none⟩) (G.length + 1) q2) q → Z ≤ q ∧ q < y5.heap.size ∧ q ≠ Hp ∧ q ≠ Hh := fun q h => by
        have hp4 := P4.1
        have hh4 : Hh < y4.heap.size := by omega
        rcases h with h | h | h
        · have e : g0 = q := by injection h
          subst e
          have := own_lt T5.o1 g0 rfl
          refine ⟨this.1, this.2, ?_⟩
          rcases D0 with d | d
          · exact L.dp g0 (.inl d)
          · have d' : y4.heap.size ≤ g0 := d
            omega
        · have e : g1 = q := by injection h
          subst e
          have := own_lt T5.o2 g1 rfl
          refine ⟨this.1, this.2, ?_⟩
          rcases D1 with d | d
          · exact L.dp g1 (.inr (.inl d))
          · have d' : y4.heap.size ≤ g1 := d
            omega
        · have e : g2 = q := by injection h
          subst e
          have := own_lt T5.o3 g2 rfl
          refine ⟨this.1, this.2, ?_⟩
          rcases D2 with d | d
          · exact L.dp g2 (.inr (.inr d))
          · have d' : y4.heap.size ≤ g2 := d
            omega
      have mv : ∀ (u : Value) (xs : List Value), (∀ q, u.ownBlock = some q → blk3 (.slice a1 G.length c1) (.slice a2 G.length c2) (.slice a3 G.length c3) q) → (∀ q, u.ownBlock = some q → ∀ j x, xs[j]? = some x → y5.cell? ⟨q, j, none⟩ = some x) → ∀ q, u.ownBlock = some q → ∀ j x, xs[j]? = some x → y7.cell? ⟨q, j, none⟩ = some x := fun u xs hu hk q hq j x hx => by
        have := zu q (hu q hq)
        exact (World.cell?_of_block (O7.block q this.2 (n9 q this.1))).trans (hk q hq j x hx)
      have HXu : Hx y7 G.length ((Value.slice a1 G.length c1), (Value.slice a2 G.length c2), (Value.slice a3 G.length c3)) G.length k (fun q => q < y7.heap.size ∧ q ≠ Hp ∧ q ≠ Hh ∧ (Value.slice (some ⟨g9, 0, none⟩) (2 * k + 2) c9').ownBlock ≠ some q) :=
        ⟨kept64 T4.o1 (by omega) (mv _ _ (fun q hq => .inl hq) K1) (fun j hj => (if_pos hj).symm), kept32 T4.o2 (by omega) (mv _ _ (fun q hq => .inr (.inl hq)) K2) (fun j hj => (if_pos hj).symm), kept32 T4.o3 (by omega) (mv _ _ (fun q hq => .inr (.inr hq)) K3) (fun j hj => (if_pos hj).symm), fun q hq => ⟨by have := zu q hq; omega, (L.dp q hq).1, (L.dp q hq).2, nv q (n9 q (zu q hq).1) (zu q hq).2⟩⟩
      have HXg : Hx y7 G.length ((Value.slice (some ⟨g0, 0, none⟩) (G.length + 1) q0), (Value.slice (some ⟨g1, 0, none⟩) (G.length + 1) q1), (Value.slice (some ⟨g2, 0, none⟩) (G.length + 1) q2)) (G.length + 1) k (fun q => q < y7.heap.size ∧ q ≠ Hp ∧ q ≠ Hh ∧ (Value.slice (some ⟨g9, 0, none⟩) (2 * k + 2) c9').ownBlock ≠ some q) := by
        have T7 := T5'.spared O7 (fun q h1 h2 h3 h4 => n9 q h1 h4)
        exact ⟨T7.f1, T7.f2, T7.f3, fun q hq => by have := zg q hq; exact ⟨by omega, this.2.2.1, this.2.2.2, nv q (n9 q this.1) this.2.1⟩⟩
      have HX : ∀ (j : Nat) (hj : j < (HL ++ [((Value.slice a1 G.length c1), (Value.slice a2 G.length c2), (Value.slice a3 G.length c3)), ((Value.slice (some ⟨g0, 0, none⟩) (G.length + 1) q0), (Value.slice (some ⟨g1, 0, none⟩) (G.length + 1) q1), (Value.slice (some ⟨g2, 0, none⟩) (G.length + 1) q2))]).length), Hx y7 G.length (HL ++ [((Value.slice a1 G.length c1), (Value.slice a2 G.length c2), (Value.slice a3 G.length c3)), ((Value.slice (some ⟨g0, 0, none⟩) (G.length + 1) q0), (Value.slice (some ⟨g1, 0, none⟩) (G.length + 1) q1), (Value.slice (some ⟨g2, 0, none⟩) (G.length + 1) q2))])[j] (G.length + j % 2) (j / 2) (fun q => q < y7.heap.size ∧ q ≠ Hp ∧ q ≠ Hh ∧ (Value.slice (some ⟨g9, 0, none⟩) (2 * k + 2) c9').ownBlock ≠ some q) := by
        intro j hj
        have hj2 : j < 2 * k + 2 := eHL ▸ hj
        have hl := L.hl
        by_cases h1 : j < 2 * k
        · have e : (HL ++ [((Value.slice a1 G.length c1), (Value.slice a2 G.length c2), (Value.slice a3 G.length c3)), ((Value.slice (some ⟨g0, 0, none⟩) (G.length + 1) q0), (Value.slice (some ⟨g1, 0, none⟩) (G.length + 1) q1), (Value.slice (some ⟨g2, 0, none⟩) (G.length + 1) q2))])[j] = HL[j]'(by omega) := List.getElem_append_left _
          rw [e]
          exact ((L.hx j (by omega)).only OA (fun q hq h => by
            rcases h with h | h
            · have := (L.z3 q h).1; omega
            · exact hq.2.2.2 h)).mono (fun q hq => ⟨by omega, hq.2.1, hq.2.2.1, nv q hq.2.2.2 (by omega)⟩)
        · by_cases h2 : j = 2 * k
          · have e : (HL ++ [((Value.slice a1 G.length c1), (Value.slice a2 G.length c2), (Value.slice a3 G.length c3)), ((Value.slice (some ⟨g0, 0, none⟩) (G.length + 1) q0), (Value.slice (some ⟨g1, 0, none⟩) (G.length + 1) q1), (Value.slice (some ⟨g2, 0, none⟩) (G.length + 1) q2))])[j] = ((Value.slice a1 G.length c1), (Value.slice a2 G.length c2), (Value.slice a3 G.length c3)) := by
              rw [List.getElem_append_right (by omega)]
              have : j - HL.length = 0 := by omega
              simp [this]
            rw [e, show j % 2 = 0 by omega, show j / 2 = k by omega]
            exact HXu
          · have e : (HL ++ [((Value.slice a1 G.length c1), (Value.slice a2 G.length c2), (Value.slice a3 G.length c3)), ((Value.slice (some ⟨g0, 0, none⟩) (G.length + 1) q0), (Value.slice (some ⟨g1, 0, none⟩) (G.length + 1) q1), (Value.slice (some ⟨g2, 0, none⟩) (G.length + 1) q2))])[j] = ((Value.slice (some ⟨g0, 0, none⟩) (G.length + 1) q0), (Value.slice (some ⟨g1, 0, none⟩) (G.length + 1) q1), (Value.slice (some ⟨g2, 0, none⟩) (G.length + 1) q2)) := by
              rw [List.getElem_append_right (by omega)]
              have : j - HL.length = 1 := by omega
              simp [this]
            rw [e, show j % 2 = 1 by omega, show j / 2 = k by omega]
            exact HXg
      generalize (HL ++ [((Value.slice a1 G.length c1), (Value.slice a2 G.length c2), (Value.slice a3 G.length c3)), ((Value.slice (some ⟨g0, 0, none⟩) (G.length + 1) q0), (Value.slice (some ⟨g1, 0, none⟩) (G.length + 1) q1), (Value.slice (some ⟨g2, 0, none⟩) (G.length + 1) q2))]) = HN at *
      clear HXu HXg mv zg T5 T5' K1 K2 K3 D0 D1 D2
      have O37 : Only (fun q => blk3 (.slice a1 G.length c1) (.slice a2 G.length c2) (.slice a3 G.length c3) q ∨ (Value.slice a9 (2 * k) c9).ownBlock = some q) y3 y7 := only_tr ((only_tr O4 O5' (fun _ _ h => h)).mono (fun q h => .inl h)) O7 (fun q _ h => .inr h)
      have far : ∀ q, wr.heap.size ≤ q → ¬ (blk3 (.slice a1 G.length c1) (.slice a2 G.length c2) (.slice a3 G.length c3) q ∨ (Value.slice a9 (2 * k) c9).ownBlock = some q) := fun q hq h => by
        rcases h with h | h
        · have := (L.z3 q h).2; omega
        · have := (L.d9 q h).1; omega
      have H7 := L.hh.only OA (fun h => by
        rcases h with h | h
        · exact (L.dp _ h).2 rfl
        · exact (L.d9 _ h).2.2 rfl)
      have TV7 := L.tv.spared OA (fun q _ _ h hS => by
        have d := L.dv q h
        rcases hS with hS | hS
        · have := (L.z3 q hS).1; omega
        · exact d.2.2.2 hS)
      have HI7 := HI.only O37 (far Hi (by omega))
      have FI1 : Fl 1 n64 y7 (.slice i1 G.length d1) (lst64 G.length (runF G C Ms k).a) := by
        have h := own_only2 C1 O37 (fun q hq => far q (by have := (qa q hq).1; omega))
        rw [lst_len] at h
        exact own_fl n64_len (lst_len _ _) h
      have FI2 : Fl 1 n32 y7 (.slice i2 G.length d2) (lst64 G.length (runF G C Ms k).i) := by
        have h := own_only2 C2 O37 (fun q hq => far q (by have := (qb q hq).1; omega))
        rw [lst_len] at h
        exact own_fl n32_len (lst_len _ _) h
      have FI3 : Fl 1 n32 y7 (.slice i3 G.length d3) (lst64 G.length (runF G C Ms k).w) := by
        have h := own_only2 C3 O37 (fun q hq => far q (by have := (qc q hq).1; omega))
        rw [lst_len] at h
        exact own_fl n32_len (lst_len _ _) h
      have hb7 : Below w.heap.size w y7 := bel_only hb OA (Nat.le_refl _) (fun q hq h => by
        rcases h with h | h
        · have := (L.z3 q h).1; omega
        · have := (own_lt L.row q h).1; omega)
      have g9d : g9 < y7.heap.size ∧ g9 ≠ Hp ∧ g9 ≠ Hh := by
        refine ⟨lt9, ?_⟩
        rcases at' with h | h
        · exact ⟨(L.d9 g9 h).2.1, (L.d9 g9 h).2.2⟩
        · omega
      have hiD : Hh < Hi ∧ Hp < Hi := by omega
      have fiD : ∀ q, blk3 (.slice i1 G.length d1) (.slice i2 G.length d2) (.slice i3 G.length d3) q → wr.heap.size ≤ q ∧ Hh < wr.heap.size := fun q h => by
        rcases h with h | h | h
        · have := (qa q h).1; omega
        · have := (qb q h).1; omega
        · have := (qc q h).1; omega
      replace fiD : ∀ q, blk3 (.slice i1 G.length d1) (.slice i2 G.length d2) (.slice i3 G.length d3) q → Hh < q := fun q h => by have := fiD q h; omega
      have hi7 : Hi < y7.heap.size := HI7.1
      have hh7 : Hh < y7.heap.size := H7.1
      have hp7 : Hp < y7.heap.size := P7.1
      obtain ⟨NN, eN⟩ : ∃ NN, Hid (NN = 2 * k + 2) := ⟨_, rfl⟩
      have eL : 2 * k + 2 = NN := eN.out.symm
      simp only [eL] at row' eHL HX nv ⊢
      clear eL
      have B7 : Has y7 w.heap.size #[.slice va G.length cg, .slice vb C.length cc] := L.bx.only OA (fun h => by
        rcases h with h | h
        · have := (L.z3 _ h).1; omega
        · have := (own_lt L.row _ h).1; omega)
      have FN : Fl 3 cs3 y7 (.slice (some ⟨g9, 0, none⟩) NN c9') HN := by
        have h := row'
        rw [← eHL] at h
        have := Fl.own cs3_len h lt9 (Nat.le_refl _) (row_cap h)
        rw [List.take_length, eHL] at this
        exact this
      obtain ⟨_, _, ev, fk⟩ := FN.any
      clear OA O37 far O4 O5 O5' O7 OB T4 cG r5 C1 C2 C3 qa qb qc HI B3 P4 P5 zu nv n9 at' at9 ow9 gr9 L hb zs s1 s2 s3 s4 s5 zA z7 hpz hhz m1 m2
      replace eHL : Hid (HN.length = NN) := eHL
      replace ev : Hid (_ = _) := ev
      go_wp2_with fail
      go_loopw [12] (fun t wx => ∃ m : Nat, m ≤ NN ∧ t = .int .i64 (m : Int) ∧ Hid (Below y7.heap.size y7 wx)) (fun t _ => NN - (intOf t).toNat)
      case atStart => exact ⟨0, by omega, rfl, Below.refl _ _⟩
      case round =>
        obtain ⟨m, hml, rfl, bX'⟩ := hrel
        have bX := bX'.out
        clear bX'
        by_cases hlt : m < NN
        · obtain ⟨g, o, ea, hg', Pc⟩ := fk.resolve_left (by intro e; have h := eHL.out; rw [e] at h; simp at h; omega)
          injection ev.out with ev1 ev2 ev3
          clear ev2 ev3
          have eHL' := eHL.out
          rw [← ev1] at ea
          injection ea with ea
          injection ea with ea1 ea2
          subst ea1
          subst ea2
          clear ev1
          have hx := HX m (by omega)
          have c0 := Pc m (by omega) 0 _ rfl
          have c1' := Pc m (by omega) 1 _ rfl
          have c2' := Pc m (by omega) 2 _ rfl
          simp only [Nat.zero_add, Nat.add_zero] at c0 c1' c2'
          generalize HN[m]'(by omega) = tt at *
          obtain ⟨x1, x2, x3⟩ := tt
          dsimp only at c0 c1' c2' hx
          have e0 := (bX.drew.cell (p := ⟨g9, _, none⟩) lt9).trans c0
          have e1 := (bX.drew.cell (p := ⟨g9, _, none⟩) lt9).trans c1'
          have e2 := (bX.drew.cell (p := ⟨g9, _, none⟩) lt9).trans c2'
          have B7X := B7.below bX
          have u0 : (0 : Int) ≤ (m : Int) := by omega
          have u1 : (m : Int) < (NN : Int) := by omega
          clear Pc fk HX FN eHL' ev eHL row' H7 TV7 HI7 FI1 FI2 FI3 hb7 P7 g9d
          obtain ⟨j, hj⟩ : ∃ j, j = m / 2 := ⟨_, rfl⟩
          rcases Nat.mod_two_eq_zero_or_one m with hm2 | hm2
          · skip
            have hj2 : m / 2 = j := by omega
            have t2' : Hid (m + 1 ≤ NN) := hlt
            have mb : m ≤ 2097153 := by have := eN.out; omega
            have hjk : j ≤ k := by have := eN.out; omega
            rw [hj2, hm2] at hx
            have cP := spoilt0 G.length (1000 * (j : Int) + 4) (j : Int) x1 x2 x3 wr.drew (hx.a.below bX.drew) (hx.i.below bX.drew) (hx.w.below bX.drew) h64 (by omega) (by omega)
            have d1' : (m : Int) / 2 = (j : Int) := by omega
            have d2' : (m : Int).tmod 2 = 0 := by rw [Int.tmod_eq_emod_of_nonneg (by omega)]; omega
            have w1' : IntKind.i64.wrap (j : Int) = (j : Int) := wrap64 _ (by omega)
            have w2' : IntKind.i64.wrap (1000 * (j : Int)) = 1000 * (j : Int) := wrap64 _ (by omega)
            have w3' : IntKind.i64.wrap (1000 * (j : Int) + 4) = 1000 * (j : Int) + 4 := wrap64 _ (by omega)
            clear hx hj2 hm2 hj
            (try clear hNr); (try clear hNp); (try clear hMk); (try clear km); (try clear lG); (try clear lC); (try clear hle); (try clear hkl); (try clear t0); (try clear t1); (try clear zb1); (try clear zb2); (try clear zb3); (try clear zb4); (try clear zb5); (try clear hi7); (try clear hh7); (try clear hp7); (try clear hiD); (try clear fiD); (try clear g9d); (try clear hb7); (try clear P7); (try clear H7); (try clear TV7); (try clear HI7); (try clear FI1); (try clear FI2); (try clear FI3); (try clear row1); (try clear HX)
            go_upto_region 19 with fail
            refine wp_region_noPanic ?_
            refine wp_region_held_drew (S := fun w' => (w'.cell? ⟨g9, m * 3, none⟩ = some x1 ∧ w'.cell? ⟨g9, m * 3 + 1, none⟩ = some x2 ∧ w'.cell? ⟨g9, m * 3 + 2, none⟩ = some x3) ∧ w'.cell? ⟨w.heap.size, 0, none⟩ = some (.slice va G.length cg)) (by kernel_rfl) ?_ (fun hHeld => ?_)
            · (try dsimp only)
              exact ⟨⟨e0, e1, e2⟩, B7X.drew.2.1 0⟩
            refine wpAnyH_take (i := 0) (oi := { dst := some 74, op := Op.move (Operand.tmp 9), type := 50, pos := "headslaw.go:194", after := #[], guard := none }) (v := ?_) rfl (by kernel_rfl) (by kernel_rfl) (by kernel_rfl) (fun _ _ _ h => h) (Or.inl ⟨by rfl, ?_⟩) (by assumption) ?_
            rotate_left
            · intro wz hSz; (try dsimp only at hSz); go_simp; all_goals (with_reducible rfl)
            (try simp only [Act.put, List.setIfInBounds_toArray, List.set_cons_zero, List.set_cons_succ])
            refine wpAnyH_take (i := 1) (oi := { dst := some 75, op := Op.move (Operand.tmp 12), type := 3, pos := "headslaw.go:194", after := #[], guard := none }) (v := ?_) rfl (by kernel_rfl) (by kernel_rfl) (by kernel_rfl) (fun _ _ _ h => h) (Or.inl ⟨by rfl, ?_⟩) (by assumption) ?_
            rotate_left
            · intro wz hSz; (try dsimp only at hSz); go_simp; all_goals (with_reducible rfl)
            (try simp only [Act.put, List.setIfInBounds_toArray, List.set_cons_zero, List.set_cons_succ])
            refine wpAnyH_take (i := 2) (oi := { dst := some 76, op := Op.indexAddr 50 (Operand.tmp 74) (Operand.tmp 75), type := 0, pos := "headslaw.go:194", after := #[{ on := 0, ground := Ground.data }, { on := 1, ground := Ground.data }], guard := none }) (v := ?_) rfl (by kernel_rfl) (by kernel_rfl) (by kernel_rfl) (fun _ _ _ h => h) (Or.inl ⟨by rfl, ?_⟩) (by assumption) ?_
            rotate_left
            · intro wz hSz; (try dsimp only at hSz); go_simp; all_goals (with_reducible rfl)
            (try simp only [Act.put, List.setIfInBounds_toArray, List.set_cons_zero, List.set_cons_succ])
            refine wpAnyH_take (i := 3) (oi := { dst := some 77, op := Op.load 29 (Operand.tmp 76), type := 29, pos := "headslaw.go:194", after := #[{ on := 2, ground := Ground.data }], guard := none }) (v := ?_) rfl (by kernel_rfl) (by kernel_rfl) (by kernel_rfl) (fun _ _ _ h => h) (Or.inl ⟨by rfl, ?_⟩) (by assumption) ?_
            rotate_left
            · intro wz hSz; (try dsimp only at hSz); go_simp; all_goals (with_reducible rfl)
            (try simp only [Act.put, List.setIfInBounds_toArray, List.set_cons_zero, List.set_cons_succ])
            refine wpAnyH_take (i := 4) (oi := { dst := some 78, op := Op.move (Operand.tmp 12), type := 3, pos := "headslaw.go:194", after := #[], guard := none }) (v := ?_) rfl (by kernel_rfl) (by kernel_rfl) (by kernel_rfl) (fun _ _ _ h => h) (Or.inl ⟨by rfl, ?_⟩) (by assumption) ?_
            rotate_left
            · intro wz hSz; (try dsimp only at hSz); go_simp; all_goals (with_reducible rfl)
            (try simp only [Act.put, List.setIfInBounds_toArray, List.set_cons_zero, List.set_cons_succ])
            refine wpAnyH_take (i := 5) (oi := { dst := some 79, op := Op.binOp BinOp.quo 3 (Operand.tmp 78) (Operand.const (Value.int IntKind.i64 2)) 3, type := 3, pos := "headslaw.go:194", after := #[{ on := 4, ground := Ground.data }], guard := none }) (v := ?_) rfl (by kernel_rfl) (by kernel_rfl) (by kernel_rfl) (fun _ _ _ h => h) (Or.inl ⟨by rfl, ?_⟩) (by assumption) ?_
            rotate_left
            · intro wz hSz; (try dsimp only at hSz); go_simp; all_goals (with_reducible rfl)
            (try simp only [Act.put, List.setIfInBounds_toArray, List.set_cons_zero, List.set_cons_succ])
            refine wpAnyH_take (i := 6) (oi := { dst := some 80, op := Op.binOp BinOp.mul 3 (Operand.const (Value.int IntKind.i64 1000)) (Operand.tmp 79) 3, type := 3, pos := "headslaw.go:194", after := #[{ on := 5, ground := Ground.data }], guard := none }) (v := ?_) rfl (by kernel_rfl) (by kernel_rfl) (by kernel_rfl) (fun _ _ _ h => h) (Or.inl ⟨by rfl, ?_⟩) (by assumption) ?_
            rotate_left
            · intro wz hSz; (try dsimp only at hSz); go_simp; all_goals (with_reducible rfl)
            (try simp only [Act.put, List.setIfInBounds_toArray, List.set_cons_zero, List.set_cons_succ])
            refine wpAnyH_take (i := 7) (oi := { dst := some 81, op := Op.binOp BinOp.add 3 (Operand.tmp 80) (Operand.const (Value.int IntKind.i64 4)) 3, type := 3, pos := "headslaw.go:194", after := #[{ on := 6, ground := Ground.data }], guard := none }) (v := ?_) rfl (by kernel_rfl) (by kernel_rfl) (by kernel_rfl) (fun _ _ _ h => h) (Or.inl ⟨by rfl, ?_⟩) (by assumption) ?_
            rotate_left
            · intro wz hSz; (try dsimp only at hSz); go_simp; all_goals (with_reducible rfl)
            (try simp only [Act.put, List.setIfInBounds_toArray, List.set_cons_zero, List.set_cons_succ])
            refine wpAnyH_take (i := 8) (oi := { dst := some 82, op := Op.fieldAddr 25 (Operand.tmp 2) 0, type := 0, pos := "headslaw.go:194", after := #[], guard := none }) (v := ?_) rfl (by kernel_rfl) (by kernel_rfl) (by kernel_rfl) (fun _ _ _ h => h) (Or.inl ⟨by rfl, ?_⟩) (by assumption) ?_
            rotate_left
            · intro wz hSz; (try dsimp only at hSz); go_simp; all_goals (with_reducible rfl)
            (try simp only [Act.put, List.setIfInBounds_toArray, List.set_cons_zero, List.set_cons_succ])
            refine wpAnyH_take (i := 9) (oi := { dst := some 83, op := Op.load 22 (Operand.tmp 82), type := 22, pos := "headslaw.go:194", after := #[{ on := 8, ground := Ground.data }], guard := none }) (v := ?_) rfl (by kernel_rfl) (by kernel_rfl) (by kernel_rfl) (fun _ _ _ h => h) (Or.inl ⟨by rfl, ?_⟩) (by assumption) ?_
            rotate_left
            · intro wz hSz; (try dsimp only at hSz); go_simp; all_goals (with_reducible rfl)
            (try simp only [Act.put, List.setIfInBounds_toArray, List.set_cons_zero, List.set_cons_succ])
            refine wpAnyH_take (i := 10) (oi := { dst := some 84, op := Op.call { callee := Callee.builtin Builtin.len, args := #[Operand.tmp 83], argTypes := #[22] }, type := 3, pos := "headslaw.go:194", after := #[{ on := 9, ground := Ground.data }], guard := none }) (v := ?_) rfl (by kernel_rfl) (by kernel_rfl) (by kernel_rfl) (fun _ _ _ h => h) (Or.inl ⟨by rfl, ?_⟩) (by assumption) ?_
            rotate_left
            · intro wz hSz; (try dsimp only at hSz); go_simp; all_goals (with_reducible rfl)
            (try simp only [Act.put, List.setIfInBounds_toArray, List.set_cons_zero, List.set_cons_succ])
            refine wpAnyH_take (i := 11) (oi := { dst := some 85, op := Op.move (Operand.tmp 12), type := 3, pos := "headslaw.go:194", after := #[], guard := none }) (v := ?_) rfl (by kernel_rfl) (by kernel_rfl) (by kernel_rfl) (fun _ _ _ h => h) (Or.inl ⟨by rfl, ?_⟩) (by assumption) ?_
            rotate_left
            · intro wz hSz; (try dsimp only at hSz); go_simp; all_goals (with_reducible rfl)
            (try simp only [Act.put, List.setIfInBounds_toArray, List.set_cons_zero, List.set_cons_succ])
            refine wpAnyH_take (i := 12) (oi := { dst := some 86, op := Op.binOp BinOp.rem 3 (Operand.tmp 85) (Operand.const (Value.int IntKind.i64 2)) 3, type := 3, pos := "headslaw.go:194", after := #[{ on := 11, ground := Ground.data }], guard := none }) (v := ?_) rfl (by kernel_rfl) (by kernel_rfl) (by kernel_rfl) (fun _ _ _ h => h) (Or.inl ⟨by rfl, ?_⟩) (by assumption) ?_
            rotate_left
            · intro wz hSz; (try dsimp only at hSz); go_simp; all_goals (with_reducible rfl)
            (try simp only [Act.put, List.setIfInBounds_toArray, List.set_cons_zero, List.set_cons_succ])
            refine wpAnyH_take (i := 13) (oi := { dst := some 87, op := Op.binOp BinOp.eql 3 (Operand.tmp 86) (Operand.const (Value.int IntKind.i64 1)) 3, type := 4, pos := "headslaw.go:194", after := #[{ on := 12, ground := Ground.data }], guard := none }) (v := ?_) rfl (by kernel_rfl) (by kernel_rfl) (by kernel_rfl) (fun _ _ _ h => h) (Or.inl ⟨by rfl, ?_⟩) (by assumption) ?_
            rotate_left
            · intro wz hSz; (try dsimp only at hSz); go_simp; all_goals (with_reducible rfl)
            (try simp only [Act.put, List.setIfInBounds_toArray, List.set_cons_zero, List.set_cons_succ])
            refine wpAnyH_take (i := 14) (oi := { dst := some 88, op := Op.move (Operand.tmp 12), type := 3, pos := "headslaw.go:194", after := #[], guard := none }) (v := ?_) rfl (by kernel_rfl) (by kernel_rfl) (by kernel_rfl) (fun _ _ _ h => h) (Or.inl ⟨by rfl, ?_⟩) (by assumption) ?_
            rotate_left
            · intro wz hSz; (try dsimp only at hSz); go_simp; all_goals (with_reducible rfl)
            (try simp only [Act.put, List.setIfInBounds_toArray, List.set_cons_zero, List.set_cons_succ])
            refine wpAnyH_take (i := 15) (oi := { dst := some 89, op := Op.binOp BinOp.quo 3 (Operand.tmp 88) (Operand.const (Value.int IntKind.i64 2)) 3, type := 3, pos := "headslaw.go:194", after := #[{ on := 14, ground := Ground.data }], guard := none }) (v := ?_) rfl (by kernel_rfl) (by kernel_rfl) (by kernel_rfl) (fun _ _ _ h => h) (Or.inl ⟨by rfl, ?_⟩) (by assumption) ?_
            rotate_left
            · intro wz hSz; (try dsimp only at hSz); go_simp; all_goals (with_reducible rfl)
            (try simp only [Act.put, List.setIfInBounds_toArray, List.set_cons_zero, List.set_cons_succ])
            refine wpAnyH_ready (rs := [16]) (by kernel_rfl) (by simp) ?_
            refine AllReadyH.cons (o := { dst := some 90, op := Op.call { callee := Callee.value (Operand.func 30), args := #[Operand.tmp 77, Operand.tmp 81, Operand.tmp 84, Operand.tmp 87, Operand.tmp 89], argTypes := #[29, 3, 3, 4, 3] }, type := 4, pos := "headslaw.go:194", after := #[{ on := 3, ground := Ground.data }, { on := 7, ground := Ground.data }, { on := 10, ground := Ground.data }, { on := 13, ground := Ground.data }, { on := 15, ground := Ground.data }], guard := none }) rfl (fun K hK => ?_) AllReadyH.nil
            go_simp
            (go_at_call 30; (with_reducible refine Calls.mono cP ?_); rintro e w8 ⟨rfl, hb8⟩; have bN := bel_after bX.drew bX.drew.size hb8; have k0 := (bN.cell (p := ⟨g9, _, none⟩) lt9).trans c0; have k1 := (bN.cell (p := ⟨g9, _, none⟩) lt9).trans c1'; have k2 := (bN.cell (p := ⟨g9, _, none⟩) lt9).trans c2'; have BN := B7.below bN; clear hb8)
            go_wp2_with fail
            refine hK.out _ _ ?_ (fun hHeld => ?_)
            · (try dsimp only)
              exact ⟨⟨k0, k1, k2⟩, BN.2.1 0⟩
            clear hK K
            (try simp only [Act.put, List.setIfInBounds_toArray, List.set_cons_zero, List.set_cons_succ])
            refine wpAnyH_take (i := 17) (oi := { dst := some 91, op := Op.unOp UnOp.not 4 (Operand.tmp 90), type := 4, pos := "headslaw.go:194", after := #[{ on := 16, ground := Ground.data }], guard := none }) (v := ?_) rfl (by kernel_rfl) (by kernel_rfl) (by kernel_rfl) (fun _ _ _ h => h) (Or.inl ⟨by rfl, ?_⟩) (by assumption) ?_
            rotate_left
            · intro wz hSz; (try dsimp only at hSz); go_simp; all_goals (with_reducible rfl)
            (try simp only [Act.put, List.setIfInBounds_toArray, List.set_cons_zero, List.set_cons_succ])
            refine wpAnyH_done (by kernel_rfl) ?_ _
            refine NoPanic.normal ?_
            go_wp2_with fail
            go_roundw
            case rel => exact ⟨m + 1, t2'.out, by go_num, bN⟩
            case measure => have h2 := t2'.out; simp [intOf]; omega
          · skip
            have hj2 : m / 2 = j := by omega
            have t2' : Hid (m + 1 ≤ NN) := hlt
            have mb : m ≤ 2097153 := by have := eN.out; omega
            have hjk : j ≤ k := by have := eN.out; omega
            rw [hj2, hm2] at hx
            have cP := spoilt1 G.length (1000 * (j : Int) + 4) (j : Int) x1 x2 x3 wr.drew (hx.a.below bX.drew) (hx.i.below bX.drew) (hx.w.below bX.drew) h64 (by omega) (by omega)
            have d1' : (m : Int) / 2 = (j : Int) := by omega
            have d2' : (m : Int).tmod 2 = 1 := by rw [Int.tmod_eq_emod_of_nonneg (by omega)]; omega
            have w1' : IntKind.i64.wrap (j : Int) = (j : Int) := wrap64 _ (by omega)
            have w2' : IntKind.i64.wrap (1000 * (j : Int)) = 1000 * (j : Int) := wrap64 _ (by omega)
            have w3' : IntKind.i64.wrap (1000 * (j : Int) + 4) = 1000 * (j : Int) + 4 := wrap64 _ (by omega)
            clear hx hj2 hm2 hj
            (try clear hNr); (try clear hNp); (try clear hMk); (try clear km); (try clear lG); (try clear lC); (try clear hle); (try clear hkl); (try clear t0); (try clear t1); (try clear zb1); (try clear zb2); (try clear zb3); (try clear zb4); (try clear zb5); (try clear hi7); (try clear hh7); (try clear hp7); (try clear hiD); (try clear fiD); (try clear g9d); (try clear hb7); (try clear P7); (try clear H7); (try clear TV7); (try clear HI7); (try clear FI1); (try clear FI2); (try clear FI3); (try clear row1); (try clear HX)
            go_upto_region 19 with fail
            refine wp_region_noPanic ?_
            refine wp_region_held_drew (S := fun w' => (w'.cell? ⟨g9, m * 3, none⟩ = some x1 ∧ w'.cell? ⟨g9, m * 3 + 1, none⟩ = some x2 ∧ w'.cell? ⟨g9, m * 3 + 2, none⟩ = some x3) ∧ w'.cell? ⟨w.heap.size, 0, none⟩ = some (.slice va G.length cg)) (by kernel_rfl) ?_ (fun hHeld => ?_)
            · (try dsimp only)
              exact ⟨⟨e0, e1, e2⟩, B7X.drew.2.1 0⟩
            refine wpAnyH_take (i := 0) (oi := { dst := some 74, op := Op.move (Operand.tmp 9), type := 50, pos := "headslaw.go:194", after := #[], guard := none }) (v := ?_) rfl (by kernel_rfl) (by kernel_rfl) (by kernel_rfl) (fun _ _ _ h => h) (Or.inl ⟨by rfl, ?_⟩) (by assumption) ?_
            rotate_left
            · intro wz hSz; (try dsimp only at hSz); go_simp; all_goals (with_reducible rfl)
            (try simp only [Act.put, List.setIfInBounds_toArray, List.set_cons_zero, List.set_cons_succ])
            refine wpAnyH_take (i := 1) (oi := { dst := some 75, op := Op.move (Operand.tmp 12), type := 3, pos := "headslaw.go:194", after := #[], guard := none }) (v := ?_) rfl (by kernel_rfl) (by kernel_rfl) (by kernel_rfl) (fun _ _ _ h => h) (Or.inl ⟨by rfl, ?_⟩) (by assumption) ?_
            rotate_left
            · intro wz hSz; (try dsimp only at hSz); go_simp; all_goals (with_reducible rfl)
            (try simp only [Act.put, List.setIfInBounds_toArray, List.set_cons_zero, List.set_cons_succ])
            refine wpAnyH_take (i := 2) (oi := { dst := some 76, op := Op.indexAddr 50 (Operand.tmp 74) (Operand.tmp 75), type := 0, pos := "headslaw.go:194", after := #[{ on := 0, ground := Ground.data }, { on := 1, ground := Ground.data }], guard := none }) (v := ?_) rfl (by kernel_rfl) (by kernel_rfl) (by kernel_rfl) (fun _ _ _ h => h) (Or.inl ⟨by rfl, ?_⟩) (by assumption) ?_
            rotate_left
            · intro wz hSz; (try dsimp only at hSz); go_simp; all_goals (with_reducible rfl)
            (try simp only [Act.put, List.setIfInBounds_toArray, List.set_cons_zero, List.set_cons_succ])
            refine wpAnyH_take (i := 3) (oi := { dst := some 77, op := Op.load 29 (Operand.tmp 76), type := 29, pos := "headslaw.go:194", after := #[{ on := 2, ground := Ground.data }], guard := none }) (v := ?_) rfl (by kernel_rfl) (by kernel_rfl) (by kernel_rfl) (fun _ _ _ h => h) (Or.inl ⟨by rfl, ?_⟩) (by assumption) ?_
            rotate_left
            · intro wz hSz; (try dsimp only at hSz); go_simp; all_goals (with_reducible rfl)
            (try simp only [Act.put, List.setIfInBounds_toArray, List.set_cons_zero, List.set_cons_succ])
            refine wpAnyH_take (i := 4) (oi := { dst := some 78, op := Op.move (Operand.tmp 12), type := 3, pos := "headslaw.go:194", after := #[], guard := none }) (v := ?_) rfl (by kernel_rfl) (by kernel_rfl) (by kernel_rfl) (fun _ _ _ h => h) (Or.inl ⟨by rfl, ?_⟩) (by assumption) ?_
            rotate_left
            · intro wz hSz; (try dsimp only at hSz); go_simp; all_goals (with_reducible rfl)
            (try simp only [Act.put, List.setIfInBounds_toArray, List.set_cons_zero, List.set_cons_succ])
            refine wpAnyH_take (i := 5) (oi := { dst := some 79, op := Op.binOp BinOp.quo 3 (Operand.tmp 78) (Operand.const (Value.int IntKind.i64 2)) 3, type := 3, pos := "headslaw.go:194", after := #[{ on := 4, ground := Ground.data }], guard := none }) (v := ?_) rfl (by kernel_rfl) (by kernel_rfl) (by kernel_rfl) (fun _ _ _ h => h) (Or.inl ⟨by rfl, ?_⟩) (by assumption) ?_
            rotate_left
            · intro wz hSz; (try dsimp only at hSz); go_simp; all_goals (with_reducible rfl)
            (try simp only [Act.put, List.setIfInBounds_toArray, List.set_cons_zero, List.set_cons_succ])
            refine wpAnyH_take (i := 6) (oi := { dst := some 80, op := Op.binOp BinOp.mul 3 (Operand.const (Value.int IntKind.i64 1000)) (Operand.tmp 79) 3, type := 3, pos := "headslaw.go:194", after := #[{ on := 5, ground := Ground.data }], guard := none }) (v := ?_) rfl (by kernel_rfl) (by kernel_rfl) (by kernel_rfl) (fun _ _ _ h => h) (Or.inl ⟨by rfl, ?_⟩) (by assumption) ?_
            rotate_left
            · intro wz hSz; (try dsimp only at hSz); go_simp; all_goals (with_reducible rfl)
            (try simp only [Act.put, List.setIfInBounds_toArray, List.set_cons_zero, List.set_cons_succ])
            refine wpAnyH_take (i := 7) (oi := { dst := some 81, op := Op.binOp BinOp.add 3 (Operand.tmp 80) (Operand.const (Value.int IntKind.i64 4)) 3, type := 3, pos := "headslaw.go:194", after := #[{ on := 6, ground := Ground.data }], guard := none }) (v := ?_) rfl (by kernel_rfl) (by kernel_rfl) (by kernel_rfl) (fun _ _ _ h => h) (Or.inl ⟨by rfl, ?_⟩) (by assumption) ?_
            rotate_left
            · intro wz hSz; (try dsimp only at hSz); go_simp; all_goals (with_reducible rfl)
            (try simp only [Act.put, List.setIfInBounds_toArray, List.set_cons_zero, List.set_cons_succ])
            refine wpAnyH_take (i := 8) (oi := { dst := some 82, op := Op.fieldAddr 25 (Operand.tmp 2) 0, type := 0, pos := "headslaw.go:194", after := #[], guard := none }) (v := ?_) rfl (by kernel_rfl) (by kernel_rfl) (by kernel_rfl) (fun _ _ _ h => h) (Or.inl ⟨by rfl, ?_⟩) (by assumption) ?_
            rotate_left
            · intro wz hSz; (try dsimp only at hSz); go_simp; all_goals (with_reducible rfl)
            (try simp only [Act.put, List.setIfInBounds_toArray, List.set_cons_zero, List.set_cons_succ])
            refine wpAnyH_take (i := 9) (oi := { dst := some 83, op := Op.load 22 (Operand.tmp 82), type := 22, pos := "headslaw.go:194", after := #[{ on := 8, ground := Ground.data }], guard := none }) (v := ?_) rfl (by kernel_rfl) (by kernel_rfl) (by kernel_rfl) (fun _ _ _ h => h) (Or.inl ⟨by rfl, ?_⟩) (by assumption) ?_
            rotate_left
            · intro wz hSz; (try dsimp only at hSz); go_simp; all_goals (with_reducible rfl)
            (try simp only [Act.put, List.setIfInBounds_toArray, List.set_cons_zero, List.set_cons_succ])
            refine wpAnyH_take (i := 10) (oi := { dst := some 84, op := Op.call { callee := Callee.builtin Builtin.len, args := #[Operand.tmp 83], argTypes := #[22] }, type := 3, pos := "headslaw.go:194", after := #[{ on := 9, ground := Ground.data }], guard := none }) (v := ?_) rfl (by kernel_rfl) (by kernel_rfl) (by kernel_rfl) (fun _ _ _ h => h) (Or.inl ⟨by rfl, ?_⟩) (by assumption) ?_
            rotate_left
            · intro wz hSz; (try dsimp only at hSz); go_simp; all_goals (with_reducible rfl)
            (try simp only [Act.put, List.setIfInBounds_toArray, List.set_cons_zero, List.set_cons_succ])
            refine wpAnyH_take (i := 11) (oi := { dst := some 85, op := Op.move (Operand.tmp 12), type := 3, pos := "headslaw.go:194", after := #[], guard := none }) (v := ?_) rfl (by kernel_rfl) (by kernel_rfl) (by kernel_rfl) (fun _ _ _ h => h) (Or.inl ⟨by rfl, ?_⟩) (by assumption) ?_
            rotate_left
            · intro wz hSz; (try dsimp only at hSz); go_simp; all_goals (with_reducible rfl)
            (try simp only [Act.put, List.setIfInBounds_toArray, List.set_cons_zero, List.set_cons_succ])
            refine wpAnyH_take (i := 12) (oi := { dst := some 86, op := Op.binOp BinOp.rem 3 (Operand.tmp 85) (Operand.const (Value.int IntKind.i64 2)) 3, type := 3, pos := "headslaw.go:194", after := #[{ on := 11, ground := Ground.data }], guard := none }) (v := ?_) rfl (by kernel_rfl) (by kernel_rfl) (by kernel_rfl) (fun _ _ _ h => h) (Or.inl ⟨by rfl, ?_⟩) (by assumption) ?_
            rotate_left
            · intro wz hSz; (try dsimp only at hSz); go_simp; all_goals (with_reducible rfl)
            (try simp only [Act.put, List.setIfInBounds_toArray, List.set_cons_zero, List.set_cons_succ])
            refine wpAnyH_take (i := 13) (oi := { dst := some 87, op := Op.binOp BinOp.eql 3 (Operand.tmp 86) (Operand.const (Value.int IntKind.i64 1)) 3, type := 4, pos := "headslaw.go:194", after := #[{ on := 12, ground := Ground.data }], guard := none }) (v := ?_) rfl (by kernel_rfl) (by kernel_rfl) (by kernel_rfl) (fun _ _ _ h => h) (Or.inl ⟨by rfl, ?_⟩) (by assumption) ?_
            rotate_left
            · intro wz hSz; (try dsimp only at hSz); go_simp; all_goals (with_reducible rfl)
            (try simp only [Act.put, List.setIfInBounds_toArray, List.set_cons_zero, List.set_cons_succ])
            refine wpAnyH_take (i := 14) (oi := { dst := some 88, op := Op.move (Operand.tmp 12), type := 3, pos := "headslaw.go:194", after := #[], guard := none }) (v := ?_) rfl (by kernel_rfl) (by kernel_rfl) (by kernel_rfl) (fun _ _ _ h => h) (Or.inl ⟨by rfl, ?_⟩) (by assumption) ?_
            rotate_left
            · intro wz hSz; (try dsimp only at hSz); go_simp; all_goals (with_reducible rfl)
            (try simp only [Act.put, List.setIfInBounds_toArray, List.set_cons_zero, List.set_cons_succ])
            refine wpAnyH_take (i := 15) (oi := { dst := some 89, op := Op.binOp BinOp.quo 3 (Operand.tmp 88) (Operand.const (Value.int IntKind.i64 2)) 3, type := 3, pos := "headslaw.go:194", after := #[{ on := 14, ground := Ground.data }], guard := none }) (v := ?_) rfl (by kernel_rfl) (by kernel_rfl) (by kernel_rfl) (fun _ _ _ h => h) (Or.inl ⟨by rfl, ?_⟩) (by assumption) ?_
            rotate_left
            · intro wz hSz; (try dsimp only at hSz); go_simp; all_goals (with_reducible rfl)
            (try simp only [Act.put, List.setIfInBounds_toArray, List.set_cons_zero, List.set_cons_succ])
            refine wpAnyH_ready (rs := [16]) (by kernel_rfl) (by simp) ?_
            refine AllReadyH.cons (o := { dst := some 90, op := Op.call { callee := Callee.value (Operand.func 30), args := #[Operand.tmp 77, Operand.tmp 81, Operand.tmp 84, Operand.tmp 87, Operand.tmp 89], argTypes := #[29, 3, 3, 4, 3] }, type := 4, pos := "headslaw.go:194", after := #[{ on := 3, ground := Ground.data }, { on := 7, ground := Ground.data }, { on := 10, ground := Ground.data }, { on := 13, ground := Ground.data }, { on := 15, ground := Ground.data }], guard := none }) rfl (fun K hK => ?_) AllReadyH.nil
            go_simp
            (go_at_call 30; (with_reducible refine Calls.mono cP ?_); rintro e w8 ⟨rfl, hb8⟩; have bN := bel_after bX.drew bX.drew.size hb8; have k0 := (bN.cell (p := ⟨g9, _, none⟩) lt9).trans c0; have k1 := (bN.cell (p := ⟨g9, _, none⟩) lt9).trans c1'; have k2 := (bN.cell (p := ⟨g9, _, none⟩) lt9).trans c2'; have BN := B7.below bN; clear hb8)
            go_wp2_with fail
            refine hK.out _ _ ?_ (fun hHeld => ?_)
            · (try dsimp only)
              exact ⟨⟨k0, k1, k2⟩, BN.2.1 0⟩
            clear hK K
            (try simp only [Act.put, List.setIfInBounds_toArray, List.set_cons_zero, List.set_cons_succ])
            refine wpAnyH_take (i := 17) (oi := { dst := some 91, op := Op.unOp UnOp.not 4 (Operand.tmp 90), type := 4, pos := "headslaw.go:194", after := #[{ on := 16, ground := Ground.data }], guard := none }) (v := ?_) rfl (by kernel_rfl) (by kernel_rfl) (by kernel_rfl) (fun _ _ _ h => h) (Or.inl ⟨by rfl, ?_⟩) (by assumption) ?_
            rotate_left
            · intro wz hSz; (try dsimp only at hSz); go_simp; all_goals (with_reducible rfl)
            (try simp only [Act.put, List.setIfInBounds_toArray, List.set_cons_zero, List.set_cons_succ])
            refine wpAnyH_done (by kernel_rfl) ?_ _
            refine NoPanic.normal ?_
            go_wp2_with fail
            go_roundw
            case rel => exact ⟨m + 1, t2'.out, by go_num, bN⟩
            case measure => have h2 := t2'.out; simp [intOf]; omega
        · have u1 : ¬ (m : Int) < (NN : Int) := by omega
          clear FN fk ev
          have B8 := B7.below bX
          have H8 := H7.below bX
          have P8 := P7.below bX
          have TV8 := TV7.below bX
          have HI8 := HI7.below bX
          have hb8 := bel_after hb7 hb7.size bX
          have sz8 := bX.size
          by_cases hk2 : k < Ms.length
          · obtain ⟨gm, om, rfl, hgm, Pm⟩ := km.resolve_left (by intro e; rw [e] at hk2; simp at hk2)
            have pk0 := Pm k hk2 _ rfl
            have eMk : Ms[k] = Ms.getD k 0 := by simp [List.getD_eq_getElem?_getD, hk2]
            rw [eMk] at pk0
            have cN := hNr k wr.drew hb8.drew _ _ _ TV8.drew.f1 TV8.drew.f2 TV8.drew.f3
            have hN2 := fun (X : World) (hX : Below w.heap.size w X) => hNp k X hX (.slice i1 G.length d1) (.slice i2 G.length d2) (.slice i3 G.length d3)
            have eR : Hid (runF G C Ms (k + 1) = F3.next G C (runF G C Ms k) (Ms.getD k 0)) := rfl
            clear eMk Pm hNr hNp
            generalize Ms.getD k 0 = M at *
            have pk8 := (hb8.drew.cell (p := ⟨gm, om + k, none⟩) hgm).trans pk0
            have k1' : (k : Int) < (Ms.length : Int) := by omega
            have h0k : (0 : Int) ≤ (k : Int) := by omega
            obtain ⟨_, h8c, h8f⟩ := id H8.drew
            go_upto_region 22 with fail
            refine wp_region_noPanic ?_
            refine wp_region_held_drew (S := fun w' => (w'.cell? ⟨w.heap.size, 0, none⟩ = some (.slice va G.length cg) ∧ w'.cell? ⟨w.heap.size, 1, none⟩ = some (.slice vb C.length cc)) ∧ w'.cell? ⟨gm, om + k, none⟩ = some (.int .u64 (M : Int))) (by kernel_rfl) ?_ (fun hHeld => ?_)
            · (try dsimp only)
              exact ⟨⟨B8.drew.2.1 0, B8.drew.2.1 1⟩, pk8⟩
            refine wpAnyH_take (i := 0) (oi := { dst := some 97, op := Op.load 25 (Operand.tmp 2), type := 25, pos := "headslaw.go:199", after := #[], guard := none }) (v := ?_) rfl (by kernel_rfl) (by kernel_rfl) (by kernel_rfl) (fun _ _ _ h => h) (Or.inl ⟨by rfl, ?_⟩) (by assumption) ?_
            rotate_left
            · intro wz hSz; (try dsimp only at hSz); go_simp; all_goals (with_reducible rfl)
            (try simp only [Act.put, List.setIfInBounds_toArray, List.set_cons_zero, List.set_cons_succ])
            refine wpAnyH_take (i := 2) (oi := { dst := some 99, op := Op.move (Operand.tmp 1), type := 31, pos := "headslaw.go:199", after := #[], guard := none }) (v := ?_) rfl (by kernel_rfl) (by kernel_rfl) (by kernel_rfl) (fun _ _ _ h => h) (Or.inl ⟨by rfl, ?_⟩) (by assumption) ?_
            rotate_left
            · intro wz hSz; (try dsimp only at hSz); go_simp; all_goals (with_reducible rfl)
            (try simp only [Act.put, List.setIfInBounds_toArray, List.set_cons_zero, List.set_cons_succ])
            refine wpAnyH_take (i := 3) (oi := { dst := some 100, op := Op.move (Operand.tmp 10), type := 3, pos := "headslaw.go:199", after := #[], guard := none }) (v := ?_) rfl (by kernel_rfl) (by kernel_rfl) (by kernel_rfl) (fun _ _ _ h => h) (Or.inl ⟨by rfl, ?_⟩) (by assumption) ?_
            rotate_left
            · intro wz hSz; (try dsimp only at hSz); go_simp; all_goals (with_reducible rfl)
            (try simp only [Act.put, List.setIfInBounds_toArray, List.set_cons_zero, List.set_cons_succ])
            refine wpAnyH_take (i := 4) (oi := { dst := some 101, op := Op.indexAddr 31 (Operand.tmp 99) (Operand.tmp 100), type := 0, pos := "headslaw.go:199", after := #[{ on := 2, ground := Ground.data }, { on := 3, ground := Ground.data }], guard := none }) (v := ?_) rfl (by kernel_rfl) (by kernel_rfl) (by kernel_rfl) (fun _ _ _ h => h) (Or.inl ⟨by rfl, ?_⟩) (by assumption) ?_
            rotate_left
            · intro wz hSz; (try dsimp only at hSz); go_simp; all_goals (with_reducible rfl)
            (try simp only [Act.put, List.setIfInBounds_toArray, List.set_cons_zero, List.set_cons_succ])
            refine wpAnyH_take (i := 5) (oi := { dst := some 102, op := Op.load 30 (Operand.tmp 101), type := 30, pos := "headslaw.go:199", after := #[{ on := 4, ground := Ground.data }], guard := none }) (v := ?_) rfl (by kernel_rfl) (by kernel_rfl) (by kernel_rfl) (fun _ _ _ h => h) (Or.inl ⟨by rfl, ?_⟩) (by assumption) ?_
            rotate_left
            · intro wz hSz; (try dsimp only at hSz); go_simp; all_goals (with_reducible rfl)
            (try simp only [Act.put, List.setIfInBounds_toArray, List.set_cons_zero, List.set_cons_succ])
            refine wpAnyH_ready (rs := [1]) (by kernel_rfl) (by simp) ?_
            refine AllReadyH.cons (o := { dst := some 98, op := Op.load 29 (Operand.tmp 5), type := 29, pos := "headslaw.go:199", after := #[], guard := none }) rfl (fun K hK => ?_) AllReadyH.nil
            go_simp
            refine hK.out _ _ ?_ (fun hHeld => ?_)
            · (try dsimp only)
              exact ⟨⟨B8.drew.2.1 0, B8.drew.2.1 1⟩, pk8⟩
            clear hK K
            (try simp only [Act.put, List.setIfInBounds_toArray, List.set_cons_zero, List.set_cons_succ])
            refine wpAnyH_ready (rs := [6]) (by kernel_rfl) (by simp) ?_
            refine AllReadyH.cons (o := { dst := some 103, op := Op.call { callee := Callee.value (Operand.func 31), args := #[Operand.tmp 97, Operand.tmp 98, Operand.tmp 102], argTypes := #[25, 29, 30] }, type := 48, pos := "headslaw.go:199", after := #[{ on := 0, ground := Ground.data }, { on := 1, ground := Ground.data }, { on := 5, ground := Ground.data }], guard := none }) rfl (fun K hK => ?_) AllReadyH.nil
            go_simp
            (go_at_call 31; (with_reducible refine Calls.mono cN ?_); rintro e y9 ⟨⟨na, nb, nc, rfl, N1⟩, hy9⟩; obtain ⟨k1, l1, rfl⟩ := own_form N1.o1; obtain ⟨k2, l2, rfl⟩ := own_form N1.o2; obtain ⟨k3, l3, rfl⟩ := own_form N1.o3; have B9 := B8.drew.below hy9; have H9 := H8.drew.below hy9; have b9 := bel_after hb8.drew hb8.drew.size hy9; have pk9 := (b9.cell (p := ⟨gm, om + k, none⟩) hgm).trans pk0)
            go_wp2_with fail
            refine hK.out _ _ ?_ (fun hHeld => ?_)
            · (try dsimp only)
              exact ⟨⟨B9.2.1 0, B9.2.1 1⟩, pk9⟩
            clear hK K
            (try simp only [Act.put, List.setIfInBounds_toArray, List.set_cons_zero, List.set_cons_succ])
            refine wpAnyH_take (i := 7) (oi := { dst := some 96, op := Op.move (Operand.tmp 103), type := 48, pos := "headslaw.go:199", after := #[{ on := 6, ground := Ground.data }], guard := none }) (v := ?_) rfl (by kernel_rfl) (by kernel_rfl) (by kernel_rfl) (fun _ _ _ h => h) (Or.inl ⟨by rfl, ?_⟩) (by assumption) ?_
            rotate_left
            · intro wz hSz; (try dsimp only at hSz); go_simp; all_goals (with_reducible rfl)
            (try simp only [Act.put, List.setIfInBounds_toArray, List.set_cons_zero, List.set_cons_succ])
            refine wpAnyH_take (i := 8) (oi := { dst := some 104, op := Op.extract (Operand.tmp 96) 0, type := 29, pos := "headslaw.go:199", after := #[{ on := 7, ground := Ground.data }], guard := none }) (v := ?_) rfl (by kernel_rfl) (by kernel_rfl) (by kernel_rfl) (fun _ _ _ h => h) (Or.inl ⟨by rfl, ?_⟩) (by assumption) ?_
            rotate_left
            · intro wz hSz; (try dsimp only at hSz); go_simp; all_goals (with_reducible rfl)
            (try simp only [Act.put, List.setIfInBounds_toArray, List.set_cons_zero, List.set_cons_succ])
            refine wpAnyH_take (i := 9) (oi := { dst := some 105, op := Op.extract (Operand.tmp 96) 1, type := 42, pos := "headslaw.go:199", after := #[{ on := 7, ground := Ground.data }, { on := 10, ground := Ground.gcOnly Departure.lateStores }], guard := none }) (v := ?_) rfl (by kernel_rfl) (by kernel_rfl) (by kernel_rfl) (fun _ _ _ h => h) (Or.inl ⟨by rfl, ?_⟩) (by assumption) ?_
            rotate_left
            · intro wz hSz; (try dsimp only at hSz); go_simp; all_goals (with_reducible rfl)
            (try simp only [Act.put, List.setIfInBounds_toArray, List.set_cons_zero, List.set_cons_succ])
            have OS : Only (fun q => q = Hh) y9 (((y9.setCell ⟨Hh, 0, none⟩ (.slice k1 G.length l1)).setCell ⟨Hh, 1, none⟩ (.slice k2 G.length l2)).setCell ⟨Hh, 2, none⟩ (.slice k3 G.length l3)) := ((only_of_set _ _ _ _).trans (only_of_set _ _ _ _)).trans (only_of_set _ _ _ _)
            have HS : Has (((y9.setCell ⟨Hh, 0, none⟩ (.slice k1 G.length l1)).setCell ⟨Hh, 1, none⟩ (.slice k2 G.length l2)).setCell ⟨Hh, 2, none⟩ (.slice k3 G.length l3)) Hh #[.slice k1 G.length l1, .slice k2 G.length l2, .slice k3 G.length l3] := by simpa using ((H9.set 0 (by simp) (.slice k1 G.length l1)).set 1 (by simp) (.slice k2 G.length l2)).set 2 (by simp) (.slice k3 G.length l3)
            have B9' := B9.only OS (by omega)
            have hb9 := bel_only b9 OS (Nat.le_refl _) (fun q hq h => by omega)
            have pk9' := (hb9.cell (p := ⟨gm, om + k, none⟩) hgm).trans pk0
            obtain ⟨_, h9c, h9f⟩ := id H9
            refine wpAnyH_ready (rs := [10]) (by kernel_rfl) (by simp) ?_
            refine AllReadyH.cons (o := { dst := none, op := Op.store 29 (Operand.tmp 5) (Operand.tmp 104), type := 0, pos := "headslaw.go:199", after := #[{ on := 8, ground := Ground.data }, { on := 6, ground := Ground.chain }, { on := 0, ground := Ground.phase }, { on := 1, ground := Ground.phase }, { on := 2, ground := Ground.phase }, { on := 3, ground := Ground.phase }, { on := 4, ground := Ground.phase }, { on := 5, ground := Ground.phase }, { on := 6, ground := Ground.phase }, { on := 7, ground := Ground.phase }, { on := 8, ground := Ground.phase }, { on := 9, ground := Ground.textOnly Departure.lateStores }], guard := none }) rfl (fun K hK => ?_) AllReadyH.nil
            go_simp
            refine hK.out _ _ ?_ (fun hHeld => ?_)
            · (try dsimp only)
              exact ⟨⟨B9'.2.1 0, B9'.2.1 1⟩, pk9'⟩
            clear hK K
            (try simp only [Act.put, List.setIfInBounds_toArray, List.set_cons_zero, List.set_cons_succ])
            refine wpAnyH_done (by kernel_rfl) ?_ _
            refine NoPanic.normal ?_
            have sz9 : wr.heap.size ≤ y9.heap.size := hy9.size
            have szO := OS.size
            have kq : ∀ q, blk3 (.slice k1 G.length l1) (.slice k2 G.length l2) (.slice k3 G.length l3) q → wr.heap.size ≤ q ∧ q < y9.heap.size := fun q h => by
              rcases h with h | h | h
              · exact own_lt N1.o1 q h
              · exact own_lt N1.o2 q h
              · exact own_lt N1.o3 q h
            have N2 := N1.spared OS (fun q _ _ h e => by have := (kq q h).1; omega)
            have P9 := (P8.drew.below hy9).only OS (by omega)
            have I9 := (HI8.drew.below hy9).only OS (by omega)
            have O89 : Only (fun q => q = Hh) y7 (((y9.setCell ⟨Hh, 0, none⟩ (.slice k1 G.length l1)).setCell ⟨Hh, 1, none⟩ (.slice k2 G.length l2)).setCell ⟨Hh, 2, none⟩ (.slice k3 G.length l3)) := only_tr (Only.of_below (bel_after bX bX.size ((Below.refl wr.heap.size wr).drew.trans hy9))) OS (fun _ _ h => h)
            have pk9'' : World.cell? ((((y9.setCell ⟨Hh, 0, none⟩ (.slice k1 G.length l1)).setCell ⟨Hh, 1, none⟩ (.slice k2 G.length l2)).setCell ⟨Hh, 2, none⟩ (.slice k3 G.length l3))).drew ⟨gm, om + k, none⟩ = some (.int .u64 (M : Int)) := pk9'
            generalize (((y9.setCell ⟨Hh, 0, none⟩ (.slice k1 G.length l1)).setCell ⟨Hh, 1, none⟩ (.slice k2 G.length l2)).setCell ⟨Hh, 2, none⟩ (.slice k3 G.length l3)) = Y9 at *
            have fi1 := FI1.onlyL O89 (fun q hq h => by subst h; exact absurd (fiD q (.inl hq)) (by omega))
            have fi2 := FI2.onlyL O89 (fun q hq h => by subst h; exact absurd (fiD q (.inr (.inl hq))) (by omega))
            have fi3 := FI3.onlyL O89 (fun q hq h => by subst h; exact absurd (fiD q (.inr (.inr hq))) (by omega))
            have cN2 := hN2 Y9.drew hb9.drew fi1 fi2 fi3
            clear h8c h8f h9c h9f cN pk8 pk9 pk9' hHeld H9 B9 b9 hN2 FI1 FI2 FI3 fi1 fi2 fi3
            go_upto_region 23 with fail
            refine wp_region_noPanic ?_
            refine wp_region_held_drew (S := fun w' => (w'.cell? ⟨w.heap.size, 0, none⟩ = some (.slice va G.length cg) ∧ w'.cell? ⟨w.heap.size, 1, none⟩ = some (.slice vb C.length cc)) ∧ w'.cell? ⟨gm, om + k, none⟩ = some (.int .u64 (M : Int)) ∧ w'.cell? ⟨Hi, 0, none⟩ = some (.slice i1 G.length d1) ∧ w'.cell? ⟨Hi, 1, none⟩ = some (.slice i2 G.length d2) ∧ w'.cell? ⟨Hi, 2, none⟩ = some (.slice i3 G.length d3)) (by kernel_rfl) ?_ (fun hHeld => ?_)
            · (try dsimp only)
              exact ⟨⟨B9'.drew.2.1 0, B9'.drew.2.1 1⟩, pk9'', I9.drew.2.1 0, I9.drew.2.1 1, I9.drew.2.1 2⟩
            refine wpAnyH_take (i := 0) (oi := { dst := some 107, op := Op.load 25 (Operand.tmp 2), type := 25, pos := "headslaw.go:200", after := #[], guard := none }) (v := ?_) rfl (by kernel_rfl) (by kernel_rfl) (by kernel_rfl) (fun _ _ _ h => h) (Or.inl ⟨by rfl, ?_⟩) (by assumption) ?_
            rotate_left
            · intro wz hSz; (try dsimp only at hSz); go_simp; all_goals (with_reducible rfl)
            (try simp only [Act.put, List.setIfInBounds_toArray, List.set_cons_zero, List.set_cons_succ])
            refine wpAnyH_take (i := 1) (oi := { dst := some 108, op := Op.load 29 (Operand.tmp 11), type := 29, pos := "headslaw.go:200", after := #[], guard := none }) (v := ?_) rfl (by kernel_rfl) (by kernel_rfl) (by kernel_rfl) (fun _ _ _ h => h) (Or.inl ⟨by rfl, ?_⟩) (by assumption) ?_
            rotate_left
            · intro wz hSz; (try dsimp only at hSz); go_simp; all_goals (with_reducible rfl)
            (try simp only [Act.put, List.setIfInBounds_toArray, List.set_cons_zero, List.set_cons_succ])
            refine wpAnyH_take (i := 2) (oi := { dst := some 109, op := Op.move (Operand.tmp 1), type := 31, pos := "headslaw.go:200", after := #[], guard := none }) (v := ?_) rfl (by kernel_rfl) (by kernel_rfl) (by kernel_rfl) (fun _ _ _ h => h) (Or.inl ⟨by rfl, ?_⟩) (by assumption) ?_
            rotate_left
            · intro wz hSz; (try dsimp only at hSz); go_simp; all_goals (with_reducible rfl)
            (try simp only [Act.put, List.setIfInBounds_toArray, List.set_cons_zero, List.set_cons_succ])
            refine wpAnyH_take (i := 3) (oi := { dst := some 110, op := Op.move (Operand.tmp 10), type := 3, pos := "headslaw.go:200", after := #[], guard := none }) (v := ?_) rfl (by kernel_rfl) (by kernel_rfl) (by kernel_rfl) (fun _ _ _ h => h) (Or.inl ⟨by rfl, ?_⟩) (by assumption) ?_
            rotate_left
            · intro wz hSz; (try dsimp only at hSz); go_simp; all_goals (with_reducible rfl)
            (try simp only [Act.put, List.setIfInBounds_toArray, List.set_cons_zero, List.set_cons_succ])
            refine wpAnyH_take (i := 4) (oi := { dst := some 111, op := Op.indexAddr 31 (Operand.tmp 109) (Operand.tmp 110), type := 0, pos := "headslaw.go:200", after := #[{ on := 2, ground := Ground.data }, { on := 3, ground := Ground.data }], guard := none }) (v := ?_) rfl (by kernel_rfl) (by kernel_rfl) (by kernel_rfl) (fun _ _ _ h => h) (Or.inl ⟨by rfl, ?_⟩) (by assumption) ?_
            rotate_left
            · intro wz hSz; (try dsimp only at hSz); go_simp; all_goals (with_reducible rfl)
            (try simp only [Act.put, List.setIfInBounds_toArray, List.set_cons_zero, List.set_cons_succ])
            refine wpAnyH_take (i := 5) (oi := { dst := some 112, op := Op.load 30 (Operand.tmp 111), type := 30, pos := "headslaw.go:200", after := #[{ on := 4, ground := Ground.data }], guard := none }) (v := ?_) rfl (by kernel_rfl) (by kernel_rfl) (by kernel_rfl) (fun _ _ _ h => h) (Or.inl ⟨by rfl, ?_⟩) (by assumption) ?_
            rotate_left
            · intro wz hSz; (try dsimp only at hSz); go_simp; all_goals (with_reducible rfl)
            (try simp only [Act.put, List.setIfInBounds_toArray, List.set_cons_zero, List.set_cons_succ])
            refine wpAnyH_ready (rs := [6]) (by kernel_rfl) (by simp) ?_
            refine AllReadyH.cons (o := { dst := some 113, op := Op.call { callee := Callee.value (Operand.func 32), args := #[Operand.tmp 107, Operand.tmp 108, Operand.tmp 112], argTypes := #[25, 29, 30] }, type := 48, pos := "headslaw.go:200", after := #[{ on := 0, ground := Ground.data }, { on := 1, ground := Ground.data }, { on := 5, ground := Ground.data }], guard := none }) rfl (fun K hK => ?_) AllReadyH.nil
            go_simp
            (go_at_call 32; (with_reducible refine Calls.mono cN2 ?_); rintro e y10 ⟨⟨r, p0, p1, rfl, o1, o2, o3, d1', d2', d3'⟩, hy10⟩; have B10 := B9'.drew.below hy10; have P10 := P9.drew.below hy10; have b10 := bel_after hb9.drew hb9.drew.size hy10; have pk10 := (b10.cell (p := ⟨gm, om + k, none⟩) hgm).trans pk0)
            go_wp2_with fail
            refine hK.out _ _ ?_ (fun hHeld => ?_)
            · (try dsimp only)
              have I10 := I9.drew.below hy10; exact ⟨⟨B10.2.1 0, B10.2.1 1⟩, pk10, I10.2.1 0, I10.2.1 1, I10.2.1 2⟩
            clear hK K
            (try simp only [Act.put, List.setIfInBounds_toArray, List.set_cons_zero, List.set_cons_succ])
            refine wpAnyH_take (i := 7) (oi := { dst := some 106, op := Op.move (Operand.tmp 113), type := 48, pos := "headslaw.go:200", after := #[{ on := 6, ground := Ground.data }], guard := none }) (v := ?_) rfl (by kernel_rfl) (by kernel_rfl) (by kernel_rfl) (fun _ _ _ h => h) (Or.inl ⟨by rfl, ?_⟩) (by assumption) ?_
            rotate_left
            · intro wz hSz; (try dsimp only at hSz); go_simp; all_goals (with_reducible rfl)
            (try simp only [Act.put, List.setIfInBounds_toArray, List.set_cons_zero, List.set_cons_succ])
            refine wpAnyH_take (i := 8) (oi := { dst := some 114, op := Op.extract (Operand.tmp 106) 0, type := 29, pos := "headslaw.go:200", after := #[{ on := 7, ground := Ground.data }], guard := none }) (v := ?_) rfl (by kernel_rfl) (by kernel_rfl) (by kernel_rfl) (fun _ _ _ h => h) (Or.inl ⟨by rfl, ?_⟩) (by assumption) ?_
            rotate_left
            · intro wz hSz; (try dsimp only at hSz); go_simp; all_goals (with_reducible rfl)
            (try simp only [Act.put, List.setIfInBounds_toArray, List.set_cons_zero, List.set_cons_succ])
            refine wpAnyH_take (i := 9) (oi := { dst := some 115, op := Op.extract (Operand.tmp 106) 1, type := 42, pos := "headslaw.go:200", after := #[{ on := 7, ground := Ground.data }, { on := 10, ground := Ground.gcOnly Departure.lateStores }], guard := none }) (v := ?_) rfl (by kernel_rfl) (by kernel_rfl) (by kernel_rfl) (fun _ _ _ h => h) (Or.inl ⟨by rfl, ?_⟩) (by assumption) ?_
            rotate_left
            · intro wz hSz; (try dsimp only at hSz); go_simp; all_goals (with_reducible rfl)
            (try simp only [Act.put, List.setIfInBounds_toArray, List.set_cons_zero, List.set_cons_succ])
            have OP : Only (fun q => q = Hp) y10 (((y10.setCell ⟨Hp, 0, none⟩ (.slice (some ⟨r, 0, none⟩) G.length G.length)).setCell ⟨Hp, 1, none⟩ (.slice (some ⟨p0, 0, none⟩) G.length G.length)).setCell ⟨Hp, 2, none⟩ (.slice (some ⟨p1, 0, none⟩) G.length G.length)) := ((only_of_set _ _ _ _).trans (only_of_set _ _ _ _)).trans (only_of_set _ _ _ _)
            have HP : Has (((y10.setCell ⟨Hp, 0, none⟩ (.slice (some ⟨r, 0, none⟩) G.length G.length)).setCell ⟨Hp, 1, none⟩ (.slice (some ⟨p0, 0, none⟩) G.length G.length)).setCell ⟨Hp, 2, none⟩ (.slice (some ⟨p1, 0, none⟩) G.length G.length)) Hp #[.slice (some ⟨r, 0, none⟩) G.length G.length, .slice (some ⟨p0, 0, none⟩) G.length G.length, .slice (some ⟨p1, 0, none⟩) G.length G.length] := by simpa using ((P10.set 0 (by simp) (.slice (some ⟨r, 0, none⟩) G.length G.length)).set 1 (by simp) (.slice (some ⟨p0, 0, none⟩) G.length G.length)).set 2 (by simp) (.slice (some ⟨p1, 0, none⟩) G.length G.length)
            have BF := B10.only OP (by omega)
            have hbF := bel_only b10 OP (Nat.le_refl _) (fun q hq h => by omega)
            have pkF := (hbF.cell (p := ⟨gm, om + k, none⟩) hgm).trans pk0
            have I10 := I9.drew.below hy10
            have IF := I10.only OP (by omega)
            obtain ⟨_, p10c, p10f⟩ := id P10
            refine wpAnyH_ready (rs := [10]) (by kernel_rfl) (by simp) ?_
            refine AllReadyH.cons (o := { dst := none, op := Op.store 29 (Operand.tmp 7) (Operand.tmp 114), type := 0, pos := "headslaw.go:200", after := #[{ on := 8, ground := Ground.data }, { on := 6, ground := Ground.chain }, { on := 0, ground := Ground.phase }, { on := 1, ground := Ground.phase }, { on := 2, ground := Ground.phase }, { on := 3, ground := Ground.phase }, { on := 4, ground := Ground.phase }, { on := 5, ground := Ground.phase }, { on := 6, ground := Ground.phase }, { on := 7, ground := Ground.phase }, { on := 8, ground := Ground.phase }, { on := 9, ground := Ground.textOnly Departure.lateStores }], guard := none }) rfl (fun K hK => ?_) AllReadyH.nil
            go_simp
            refine hK.out _ _ ?_ (fun hHeld => ?_)
            · (try dsimp only)
              exact ⟨⟨BF.2.1 0, BF.2.1 1⟩, pkF, IF.2.1 0, IF.2.1 1, IF.2.1 2⟩
            clear hK K
            (try simp only [Act.put, List.setIfInBounds_toArray, List.set_cons_zero, List.set_cons_succ])
            refine wpAnyH_take (i := 11) (oi := { dst := some 8, op := Op.assign (Operand.tmp 115), type := 42, pos := "headslaw.go:200", after := #[{ on := 9, ground := Ground.data }, { on := 10, ground := Ground.chain }, { on := 0, ground := Ground.phase }, { on := 1, ground := Ground.phase }, { on := 2, ground := Ground.phase }, { on := 3, ground := Ground.phase }, { on := 4, ground := Ground.phase }, { on := 5, ground := Ground.phase }, { on := 6, ground := Ground.phase }, { on := 7, ground := Ground.phase }, { on := 8, ground := Ground.phase }, { on := 9, ground := Ground.phase }, { on := 10, ground := Ground.phase }], guard := none }) (v := ?_) rfl (by kernel_rfl) (by kernel_rfl) (by kernel_rfl) (fun _ _ _ h => h) (Or.inl ⟨by rfl, ?_⟩) (by assumption) ?_
            rotate_left
            · intro wz hSz; (try dsimp only at hSz); go_simp; all_goals (with_reducible rfl)
            (try simp only [Act.put, List.setIfInBounds_toArray, List.set_cons_zero, List.set_cons_succ])
            refine wpAnyH_done (by kernel_rfl) ?_ _
            refine NoPanic.normal ?_
            have sz10 : Y9.heap.size ≤ y10.heap.size := hy10.size
            have szP := OP.size
            have OF : Only (fun q => q = Hh ∨ q = Hp) y7 (((y10.setCell ⟨Hp, 0, none⟩ (.slice (some ⟨r, 0, none⟩) G.length G.length)).setCell ⟨Hp, 1, none⟩ (.slice (some ⟨p0, 0, none⟩) G.length G.length)).setCell ⟨Hp, 2, none⟩ (.slice (some ⟨p1, 0, none⟩) G.length G.length)) := only_tr (only_tr (O89.mono (fun q h => .inl h)) (Only.of_below ((Below.refl Y9.heap.size Y9).drew.trans hy10) : Only (fun q => q = Hh ∨ q = Hp) Y9 y10) (fun _ _ h => h)) OP (fun q _ h => .inr h)
            have szF := OF.size
            have rq : ∀ q, blk3 (.slice (some ⟨r, 0, none⟩) G.length G.length) (.slice (some ⟨p0, 0, none⟩) G.length G.length) (.slice (some ⟨p1, 0, none⟩) G.length G.length) q → Y9.heap.size ≤ q ∧ q < y10.heap.size := fun q h => by
              rcases h with h | h | h
              · exact own_lt o1 q h
              · exact own_lt o2 q h
              · exact own_lt o3 q h
            have sz9y : y7.heap.size ≤ Y9.heap.size := O89.size
            have s9' : y9.heap.size ≤ Y9.heap.size := szO
            have Tp := (t3_of o1 o2 o3 d1' d2' d3').spared OP (fun q h1 _ _ e => by have h1' : Y9.heap.size ≤ q := h1; omega)
            have Tv := (N2.below ((Below.refl Y9.heap.size Y9).drew.trans hy10)).spared OP (fun q _ _ h e => by have := (kq q h).1; omega)
            have HHf := (HS.drew.below hy10).only OP (by omega)
            have LN : LI G.length (runF G C Ms (k + 1)) w.heap.size Hp Hh (w.heap.size + 1) Y9.heap.size (.slice va G.length cg) (.slice vb C.length cc) (.slice (some ⟨r, 0, none⟩) G.length G.length) (.slice (some ⟨p0, 0, none⟩) G.length G.length) (.slice (some ⟨p1, 0, none⟩) G.length G.length) (.slice k1 G.length l1) (.slice k2 G.length l2) (.slice k3 G.length l3) (.slice (some ⟨g9, 0, none⟩) NN c9') HN (k + 1) (((y10.setCell ⟨Hp, 0, none⟩ (.slice (some ⟨r, 0, none⟩) G.length G.length)).setCell ⟨Hp, 1, none⟩ (.slice (some ⟨p0, 0, none⟩) G.length G.length)).setCell ⟨Hp, 2, none⟩ (.slice (some ⟨p1, 0, none⟩) G.length G.length)) := by
              have hNN := eN.out
              rw [eR.out]
              refine ⟨BF, HP, HHf, Tp, ⟨own_base Tv.o1 (Nat.zero_le _), own_base Tv.o2 (Nat.zero_le _), own_base Tv.o3 (Nat.zero_le _), Tv.d12, Tv.d13, Tv.d23⟩, ?_, ?_, ?_, ?_, ?_, ?_, ?_, ?_⟩
              · intro q hq
                have := kq q hq
                exact ⟨by omega, by omega, by omega, fun h => by have e : g9 = q := (by injection h); omega⟩
              · intro q hq
                have := rq q hq
                exact ⟨by omega, by omega⟩
              · rw [show 2 * (k + 1) = NN by omega]
                exact own_only2 row' OF (fun q hq h => by have e : g9 = q := (by injection hq); omega)
              · rw [eHL.out]; omega
              · intro q hq
                have e : g9 = q := by injection hq
                exact ⟨by omega, by omega, by omega⟩
              · intro j hj
                exact ((HX j hj).only OF (fun q hq h => by
                  rcases h with h | h
                  · exact hq.2.2.1 h
                  · exact hq.2.1 h)).mono (fun q hq => ⟨by omega, hq.2.1, hq.2.2.1, hq.2.2.2⟩)
              · omega
              · omega
            generalize (((y10.setCell ⟨Hp, 0, none⟩ (.slice (some ⟨r, 0, none⟩) G.length G.length)).setCell ⟨Hp, 1, none⟩ (.slice (some ⟨p0, 0, none⟩) G.length G.length)).setCell ⟨Hp, 2, none⟩ (.slice (some ⟨p1, 0, none⟩) G.length G.length)) = YF at *
            clear HX row' HHf Tv Tp OF OP HP BF
            go_wp2_with fail
            go_roundw
            case rel => exact ⟨k + 1, by omega, by go_num, hbF, fun _ => ⟨_, _, _, _, _, _, _, _, LN⟩⟩
            case measure => simp [intOf]; omega
          · have k1' : ¬ (k : Int) < (Ms.length : Int) := by omega
            clear HX row' FI1 FI2 FI3 H7 TV7 HI7 P7
            go_wp2_with fail
            go_roundw
            case rel => exact ⟨k + 1, by omega, by go_num, hb8, fun h => absurd h (by omega)⟩
            case measure => simp [intOf]; omega
    · have t1 : ¬ (k : Int) ≤ (Ms.length : Int) := by omega
      clear hb' L'
      go_wp2_with fail
      go_ret
      exact ⟨rfl, hb⟩
end Go.Proofs.Ytbonmajnkbggcab
