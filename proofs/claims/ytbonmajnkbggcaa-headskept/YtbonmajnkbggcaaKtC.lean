import Derived.Test.YtbonmajnkbggcaaKtB
import Derived.Deep.RegionHeld3
namespace Go.Proofs.Ytbonmajnkbggcaa
open Go.RowKit
set_option linter.unusedVariables false

set_option maxRecDepth 100000 in
set_option maxHeartbeats 4000000 in
theorem kept_ok (G : List Gp) (C : List Cf) (A I W : List Int) (Ms : List Nat) (vg vc v1 v2 v3 vm : Value) (w : World) (h1 : Fl 5 Gp.cs w vg G) (h2 : Fl 4 Cf.cs w vc C) (h3 : Fl 1 n64 w v1 A) (h4 : Fl 1 n32 w v2 I) (h5 : Fl 1 n32 w v3 W) (h6 : Fl 1 u64 w vm Ms) (lG : G.length ≤ 2932031007317) (lC : C.length ≤ 4398046511000) (lA : A.length ≤ 17592186044000) (lI : I.length ≤ 35184372088000) (lW : W.length ≤ 35184372088000) (lM : Ms.length ≤ 17592186044000) (okI : ∀ x ∈ I, inI32 x) (okW : ∀ x ∈ W, inI32 x) (hM : ∀ x ∈ Ms, x < 18446744073709551616) (hg : gridB G C = true) (hf : fitsB G C A I W = true) :
    Calls Try.prog 6 #[.agg #[vg, vc], .agg #[v1, v2, v3], vm] w fun e w' => e = .returned (.bool true) ∧ Below w.heap.size w w' := by
  have hsb : ∀ A I W, fitsB G C A I W = true → soundB G C A I W = true := fun A I W h => by unfold soundB; simp [*]
  have l64 := grid_len hg
  have kSo := fun (X : World) (hX : Below w.heap.size w X) (A I W : List Int) (u1 u2 u3 : Value) (f1 : Fl 1 n64 X u1 A) (f2 : Fl 1 n32 X u2 I) (f3 : Fl 1 n32 X u3 W) (la : A.length ≤ 17592186044000) (li : I.length ≤ 35184372088000) (lw : W.length ≤ 35184372088000) (ok : ∀ x ∈ I, inI32 x) (ft : fitsB G C A I W = true) => (refSound_any G C A I W vg vc u1 u2 u3 X (h1.below hX) (h2.below hX) f1 f2 f3 lG lC la li lw ok).mono (R' := fun e w' => e = .returned (.bool true) ∧ Below X.heap.size X w') (fun e w' h => by rw [hsb A I W ft] at h; exact h)
  have kSd := fun (X : World) (hX : Below w.heap.size w X) (A I W : List Int) (u1 u2 u3 : Value) (f1 : Fl 1 n64 X u1 A) (f2 : Fl 1 n32 X u2 I) (f3 : Fl 1 n32 X u3 W) (la : A.length ≤ 17592186044000) (li : I.length ≤ 35184372088000) (lw : W.length ≤ 35184372088000) (ok : ∀ x ∈ I, inI32 x) (ft : fitsB G C A I W = true) => (sound_any G C A I W vg vc u1 u2 u3 X (h1.below hX) (h2.below hX) f1 f2 f3 lG lC la li lw ok).mono (R' := fun e w' => e = .returned (.bool true) ∧ Below X.heap.size X w') (fun e w' h => by rw [hsb A I W ft] at h; exact h)
  have kSt := fun (X : World) (hX : Below w.heap.size w X) (A I W : List Int) (u1 u2 u3 : Value) (M : Nat) (f1 : Fl 1 n64 X u1 A) (f2 : Fl 1 n32 X u2 I) (f3 : Fl 1 n32 X u3 W) (la : A.length ≤ 17592186044000) (li : I.length ≤ 35184372088000) (lw : W.length ≤ 35184372088000) (oi : ∀ x ∈ I, inI32 x) (ow : ∀ x ∈ W, inI32 x) (hm : M < 18446744073709551616) (ft : fitsB G C A I W = true) => step_ok G C A I W vg vc u1 u2 u3 M X (h1.below hX) (h2.below hX) f1 f2 f3 lG lC la li lw oi ow hm hg ft
  have hSo := fun (X : World) (hX : Below w.heap.size w X) => kSo X hX A I W v1 v2 v3 (h3.below hX) (h4.below hX) (h5.below hX) lA lI lW okI hf
  have hSd := fun (X : World) (hX : Below w.heap.size w X) => kSd X hX A I W v1 v2 v3 (h3.below hX) (h4.below hX) (h5.below hX) lA lI lW okI hf
  have hSt := fun (X : World) (hX : Below w.heap.size w X) => kSt X hX A I W v1 v2 v3 0 (h3.below hX) (h4.below hX) (h5.below hX) lA lI lW okI okW (by omega) hf
  have hD := fun (X : World) (hX : Below w.heap.size w X) (H N : Nat) (hH : w.heap.size ≤ H) (hN : w.heap.size ≤ N) => (⟨h3.below hX, h4.below hX, h5.below hX, fun e q hq => by have := h3.blk e q hq; omega, fun e q hq => by have := h4.blk e q hq; omega, fun e q hq => by have := h5.blk e q hq; omega⟩ : Hd3 X v1 v2 v3 A I W H N)
  obtain ⟨va, cg, rfl, kG⟩ := h1.any
  obtain ⟨vb, cc, rfl, -⟩ := h2.any
  obtain ⟨vA, cA, rfl, -⟩ := h3.any
  obtain ⟨vI, cI, rfl, -⟩ := h4.any
  obtain ⟨vW, cW, rfl, -⟩ := h5.any
  obtain ⟨am, cm, rfl, km⟩ := h6.nums
  have E0 : Has ((w.alloc (.cells #[.slice va G.length cg, .slice vb C.length cc] 25)).alloc (.cells #[.slice vA A.length cA, .slice vI I.length cI, .slice vW W.length cW] 37)) w.heap.size #[.slice va G.length cg, .slice vb C.length cc] := (Has.new _ _ _ rfl).alloc _
  have E1 : Has ((w.alloc (.cells #[.slice va G.length cg, .slice vb C.length cc] 25)).alloc (.cells #[.slice vA A.length cA, .slice vI I.length cI, .slice vW W.length cW] 37)) (w.heap.size + 1) #[.slice vA A.length cA, .slice vI I.length cI, .slice vW W.length cW] := Has.new _ _ _ (by simp)
  have hb0 : Below w.heap.size w ((w.alloc (.cells #[.slice va G.length cg, .slice vb C.length cc] 25)).alloc (.cells #[.slice vA A.length cA, .slice vI I.length cI, .slice vW W.length cW] 37)) := belA
  have hMk : ∀ k, Ms.getD k 0 < 18446744073709551616 := fun k => by
    by_cases h : k < Ms.length
    · rw [show Ms.getD k 0 = Ms[k] by simp [List.getD_eq_getElem?_getD, h]]; exact hM _ (List.getElem_mem h)
    · rw [show Ms.getD k 0 = 0 by simp [List.getD_eq_getElem?_getD, h]]; omega
  clear h1 h2 h3 h4 h5 h6 hM
  go_enter Try.func6, Try.ntmps6
  go_upto_region 3 with (first
    | (go_at_call 23; (with_reducible refine Calls.mono (hSo _ (by exact hb0)) ?_); rintro e y1 ⟨rfl, hy1⟩; have hb1 := bel_after hb0 hb0.size hy1; have E2 := E0.below hy1; have E3 := E1.below hy1; obtain ⟨_, o2, _⟩ := id E2; obtain ⟨_, o3, _⟩ := id E3; clear hy1)
    | (go_at_call 19; (with_reducible refine Calls.mono (hSt _ (by exact hb1)) ?_); rintro e y2 ⟨⟨r, p0, p1, rfl, -, -, -, -, -, -⟩, hy2⟩; have hb2 := bel_after hb1 hb1.size hy2; have E4 := E2.below hy2; have E5 := E3.below hy2; clear hy2))
  have N0 : Has (y2.alloc (.cells #[.slice (some ⟨r, 0, none⟩) G.length G.length, .slice (some ⟨p0, 0, none⟩) G.length G.length, .slice (some ⟨p1, 0, none⟩) G.length G.length] 37)) y2.heap.size #[.slice (some ⟨r, 0, none⟩) G.length G.length, .slice (some ⟨p0, 0, none⟩) G.length G.length, .slice (some ⟨p1, 0, none⟩) G.length G.length] := Has.new _ _ _ rfl
  have hb3 := hb2.alloc hb2.size (.cells #[.slice (some ⟨r, 0, none⟩) G.length G.length, .slice (some ⟨p0, 0, none⟩) G.length G.length, .slice (some ⟨p1, 0, none⟩) G.length G.length] 37)
  have zN0 : w.heap.size + 2 ≤ y2.heap.size := E5.1
  replace E4 := E4.alloc (.cells #[.slice (some ⟨r, 0, none⟩) G.length G.length, .slice (some ⟨p0, 0, none⟩) G.length G.length, .slice (some ⟨p1, 0, none⟩) G.length G.length] 37)
  replace E5 := E5.alloc (.cells #[.slice (some ⟨r, 0, none⟩) G.length G.length, .slice (some ⟨p0, 0, none⟩) G.length G.length, .slice (some ⟨p1, 0, none⟩) G.length G.length] 37)
  clear o2 o3 E2 E3 hb1 hb0 hb2 hSo hSt E0 E1
  generalize (y2.alloc (.cells #[.slice (some ⟨r, 0, none⟩) G.length G.length, .slice (some ⟨p0, 0, none⟩) G.length G.length, .slice (some ⟨p1, 0, none⟩) G.length G.length] 37)) = Y at *
  generalize y2.heap.size = Nb at *
  obtain ⟨_, o4, _⟩ := id E4
  obtain ⟨_, o5, _⟩ := id E5
  go_upto_region 7 with (go_at_call 24; (with_reducible refine Calls.mono (hSd _ (by exact hb3)) ?_); rintro e y3 ⟨rfl, hy3⟩; have hb4 := bel_after hb3 hb3.size hy3; have E6 := E4.below hy3; have E7 := E5.below hy3; have N1 := N0.below hy3; clear hy3)
  have D0 := hD y3 hb4 (w.heap.size + 1) Nb (by omega) (by omega)
  clear o4 o5 E4 E5 N0 hb3 hSd hD
  go_wp2_with fail
  go_loopw [10] (fun t wr => ∃ (i : Nat) (A I W : List Int) (u1 u2 u3 n1 n2 n3 : Value), i ≤ Ms.length ∧ t = .int .i64 (i : Int) ∧ Hid (Has wr w.heap.size #[.slice va G.length cg, .slice vb C.length cc]) ∧ Hid (Has wr (w.heap.size + 1) #[u1, u2, u3]) ∧ Hid (Has wr Nb #[n1, n2, n3]) ∧ Hid (Hd3 wr u1 u2 u3 A I W (w.heap.size + 1) Nb) ∧ Hid (fitsB G C A I W = true ∧ (∀ x ∈ I, inI32 x) ∧ ∀ x ∈ W, inI32 x) ∧ Hid (Below w.heap.size w wr)) (fun t _ => Ms.length - (intOf t).toNat)
  case atStart => exact ⟨0, A, I, W, _, _, _, _, _, _, by omega, rfl, E6, E7, N1, D0, ⟨hf, okI, okW⟩, hb4⟩
  case round =>
    clear E6 E7 N1 D0 hb4 hf okI okW lA lI lW
    obtain ⟨i, A, I, W, u1, u2, u3, m1, m2, m3, him, rfl, B', Hh', Nn', D', F', hb'⟩ := hrel
    have B := B'.out
    have Hh := Hh'.out
    have Nn := Nn'.out
    have D := D'.out
    have hb := hb'.out
    obtain ⟨hf, okI, okW⟩ := F'.out
    clear B' Hh' Nn' D' F' hb'
    by_cases ilt : i < Ms.length
    · obtain ⟨gm, om, rfl, hgm, P⟩ := km.resolve_left (by intro e; rw [e] at ilt; simp at ilt)
      have lens : A.length = G.length ∧ I.length = G.length ∧ W.length = G.length := by
        have := hf
        unfold fitsB at this
        simp only [Bool.and_eq_true, decide_eq_true_eq] at this
        exact ⟨this.1, this.2.1, this.2.2.1⟩
      have cN0 := kSt wr.drew hb.drew A I W u1 u2 u3 (Ms.getD i 0) (D.below (Below.refl _ _).drew).a (D.below (Below.refl _ _).drew).i (D.below (Below.refl _ _).drew).w (by omega) (by omega) (by omega) okI okW (hMk i) hf
      obtain ⟨bA, eA, rfl, kA⟩ := D.a.nums
      obtain ⟨bI, eI, rfl, -⟩ := D.i.nums
      obtain ⟨bW, eW, rfl, -⟩ := D.w.nums
      have pk := (hb.drew.cell (p := ⟨gm, _, none⟩) hgm).trans (P i ilt _ rfl)
      have eMk : Hid (Ms[i] = Ms.getD i 0) := by show _ = _; simp [List.getD_eq_getElem?_getD, ilt]
      rw [eMk.out] at pk
      obtain ⟨M, eM⟩ : ∃ M, Hid (M = Ms.getD i 0) := ⟨_, rfl⟩
      rw [← eM.out] at pk cN0
      have cN := cN0
      have nxt := fits_next (M := M) hg hf okI okW
      have t1 : (i : Int) < (Ms.length : Int) := by omega
      have t0 : (0 : Int) ≤ (i : Int) := by omega
      have lAi : (A.length : Int) = (G.length : Int) := by omega
      have lA' : Hid (A.length = G.length) := lens.1
      have nxk : ∀ (k : Nat) (hk : k < G.length), Nx G[k] (A.getD k 0) (nxF G C A I W M k) := fun k hk => nx_of hg hf k hk
      clear lens cN0 hMk hf okI okW
      go_upto_region 10 with fail
      refine wp_region_noPanic ?_
      refine wp_region_held_drew (S := fun w' => (w'.cell? ⟨w.heap.size, 0, none⟩ = some (.slice va G.length cg) ∧ w'.cell? ⟨w.heap.size, 1, none⟩ = some (.slice vb C.length cc)) ∧ (w'.cell? ⟨w.heap.size + 1, 0, none⟩ = some (.slice bA A.length eA) ∧ w'.cell? ⟨w.heap.size + 1, 1, none⟩ = some (.slice bI I.length eI) ∧ w'.cell? ⟨w.heap.size + 1, 2, none⟩ = some (.slice bW W.length eW)) ∧ w'.cell? ⟨gm, om + i, none⟩ = some (.int .u64 (M : Int))) (by kernel_rfl) ?_ (fun hHeld => ?_)
      · (try dsimp only)
        exact ⟨⟨B.drew.2.1 0, B.drew.2.1 1⟩, has3 Hh.drew, pk⟩
      refine wpAnyH_take (i := 0) (oi := { dst := some 61, op := Op.load 25 (Operand.tmp 3), type := 25, pos := "headssafe.go:225", after := #[], guard := none }) (v := ?_) rfl (by kernel_rfl) (by kernel_rfl) (by kernel_rfl) (fun _ _ _ h => h) (Or.inl ⟨by rfl, ?_⟩) (by assumption) ?_
      rotate_left
      · intro wz hSz; (try dsimp only at hSz); go_simp; all_goals (with_reducible rfl)
      (try simp only [Act.put, List.setIfInBounds_toArray, List.set_cons_zero, List.set_cons_succ])
      refine wpAnyH_take (i := 1) (oi := { dst := some 62, op := Op.load 37 (Operand.tmp 4), type := 37, pos := "headssafe.go:225", after := #[], guard := none }) (v := ?_) rfl (by kernel_rfl) (by kernel_rfl) (by kernel_rfl) (fun _ _ _ h => h) (Or.inl ⟨by rfl, ?_⟩) (by assumption) ?_
      rotate_left
      · intro wz hSz; (try dsimp only at hSz); go_simp; all_goals (with_reducible rfl)
      (try simp only [Act.put, List.setIfInBounds_toArray, List.set_cons_zero, List.set_cons_succ])
      refine wpAnyH_take (i := 2) (oi := { dst := some 63, op := Op.move (Operand.tmp 2), type := 43, pos := "headssafe.go:225", after := #[], guard := none }) (v := ?_) rfl (by kernel_rfl) (by kernel_rfl) (by kernel_rfl) (fun _ _ _ h => h) (Or.inl ⟨by rfl, ?_⟩) (by assumption) ?_
      rotate_left
      · intro wz hSz; (try dsimp only at hSz); go_simp; all_goals (with_reducible rfl)
      (try simp only [Act.put, List.setIfInBounds_toArray, List.set_cons_zero, List.set_cons_succ])
      refine wpAnyH_take (i := 3) (oi := { dst := some 64, op := Op.move (Operand.tmp 10), type := 3, pos := "headssafe.go:225", after := #[], guard := none }) (v := ?_) rfl (by kernel_rfl) (by kernel_rfl) (by kernel_rfl) (fun _ _ _ h => h) (Or.inl ⟨by rfl, ?_⟩) (by assumption) ?_
      rotate_left
      · intro wz hSz; (try dsimp only at hSz); go_simp; all_goals (with_reducible rfl)
      (try simp only [Act.put, List.setIfInBounds_toArray, List.set_cons_zero, List.set_cons_succ])
      refine wpAnyH_take (i := 4) (oi := { dst := some 65, op := Op.indexAddr 43 (Operand.tmp 63) (Operand.tmp 64), type := 0, pos := "headssafe.go:225", after := #[{ on := 2, ground := Ground.data }, { on := 3, ground := Ground.data }], guard := none }) (v := ?_) rfl (by kernel_rfl) (by kernel_rfl) (by kernel_rfl) (fun _ _ _ h => h) (Or.inl ⟨by rfl, ?_⟩) (by assumption) ?_
      rotate_left
      · intro wz hSz; (try dsimp only at hSz); go_simp; all_goals (with_reducible rfl)
      (try simp only [Act.put, List.setIfInBounds_toArray, List.set_cons_zero, List.set_cons_succ])
      refine wpAnyH_take (i := 5) (oi := { dst := some 66, op := Op.load 26 (Operand.tmp 65), type := 26, pos := "headssafe.go:225", after := #[{ on := 4, ground := Ground.data }], guard := none }) (v := ?_) rfl (by kernel_rfl) (by kernel_rfl) (by kernel_rfl) (fun _ _ _ h => h) (Or.inl ⟨by rfl, ?_⟩) (by assumption) ?_
      rotate_left
      · intro wz hSz; (try dsimp only at hSz); go_simp; all_goals (with_reducible rfl)
      (try simp only [Act.put, List.setIfInBounds_toArray, List.set_cons_zero, List.set_cons_succ])
      refine wpAnyH_ready (rs := [6]) (by kernel_rfl) (by simp) ?_
      refine AllReadyH.cons (o := { dst := some 67, op := Op.call { callee := Callee.value (Operand.func 19), args := #[Operand.tmp 61, Operand.tmp 62, Operand.tmp 66], argTypes := #[25, 37, 26] }, type := 44, pos := "headssafe.go:225", after := #[{ on := 0, ground := Ground.data }, { on := 1, ground := Ground.data }, { on := 5, ground := Ground.data }], guard := none }) rfl (fun K hK => ?_) AllReadyH.nil
      go_simp
      (go_at_call 19; (with_reducible refine Calls.mono cN ?_); rintro e w4 ⟨⟨r', s0, s1, rfl, a0, a1, a2, n1, n2, n3⟩, hb4⟩; have B4 := B.drew.below hb4; have H4 := Hh.drew.below hb4; have N4 := Nn.drew.below hb4; have D4 := D.below (bel_after (Below.refl _ _).drew (Nat.le_refl _) hb4); have b4 := bel_after hb.drew hb.drew.size hb4; have pk4 := (b4.cell (p := ⟨gm, _, none⟩) hgm).trans (P i ilt _ rfl); rw [eMk.out, ← eM.out] at pk4; obtain ⟨_, x1, x2⟩ := id N4)
      go_wp2_with fail
      refine hK.out _ _ ?_ (fun hHeld => ?_)
      · (try dsimp only)
        exact ⟨⟨B4.2.1 0, B4.2.1 1⟩, has3 H4, pk4⟩
      clear hK K
      (try simp only [Act.put, List.setIfInBounds_toArray, List.set_cons_zero, List.set_cons_succ])
      refine wpAnyH_take (i := 7) (oi := { dst := some 60, op := Op.move (Operand.tmp 67), type := 44, pos := "headssafe.go:225", after := #[{ on := 6, ground := Ground.data }], guard := none }) (v := ?_) rfl (by kernel_rfl) (by kernel_rfl) (by kernel_rfl) (fun _ _ _ h => h) (Or.inl ⟨by rfl, ?_⟩) (by assumption) ?_
      rotate_left
      · intro wz hSz; (try dsimp only at hSz); go_simp; all_goals (with_reducible rfl)
      (try simp only [Act.put, List.setIfInBounds_toArray, List.set_cons_zero, List.set_cons_succ])
      refine wpAnyH_take (i := 8) (oi := { dst := some 68, op := Op.extract (Operand.tmp 60) 0, type := 37, pos := "headssafe.go:225", after := #[{ on := 7, ground := Ground.data }], guard := none }) (v := ?_) rfl (by kernel_rfl) (by kernel_rfl) (by kernel_rfl) (fun _ _ _ h => h) (Or.inl ⟨by rfl, ?_⟩) (by assumption) ?_
      rotate_left
      · intro wz hSz; (try dsimp only at hSz); go_simp; all_goals (with_reducible rfl)
      (try simp only [Act.put, List.setIfInBounds_toArray, List.set_cons_zero, List.set_cons_succ])
      refine wpAnyH_take (i := 9) (oi := { dst := some 69, op := Op.extract (Operand.tmp 60) 1, type := 28, pos := "headssafe.go:225", after := #[{ on := 7, ground := Ground.data }, { on := 10, ground := Ground.gcOnly Departure.lateStores }], guard := none }) (v := ?_) rfl (by kernel_rfl) (by kernel_rfl) (by kernel_rfl) (fun _ _ _ h => h) (Or.inl ⟨by rfl, ?_⟩) (by assumption) ?_
      rotate_left
      · intro wz hSz; (try dsimp only at hSz); go_simp; all_goals (with_reducible rfl)
      (try simp only [Act.put, List.setIfInBounds_toArray, List.set_cons_zero, List.set_cons_succ])
      have O : Only (fun q => q = Nb) w4 (((w4.setCell ⟨Nb, 0, none⟩ (.slice (some ⟨r', 0, none⟩) G.length G.length)).setCell ⟨Nb, 1, none⟩ (.slice (some ⟨s0, 0, none⟩) G.length G.length)).setCell ⟨Nb, 2, none⟩ (.slice (some ⟨s1, 0, none⟩) G.length G.length)) := ((only_of_set _ _ _ _).trans (only_of_set _ _ _ _)).trans (only_of_set _ _ _ _)
      have N5 : Has (((w4.setCell ⟨Nb, 0, none⟩ (.slice (some ⟨r', 0, none⟩) G.length G.length)).setCell ⟨Nb, 1, none⟩ (.slice (some ⟨s0, 0, none⟩) G.length G.length)).setCell ⟨Nb, 2, none⟩ (.slice (some ⟨s1, 0, none⟩) G.length G.length)) Nb #[.slice (some ⟨r', 0, none⟩) G.length G.length, .slice (some ⟨s0, 0, none⟩) G.length G.length, .slice (some ⟨s1, 0, none⟩) G.length G.length] := by simpa using ((N4.set 0 (by simp) (.slice (some ⟨r', 0, none⟩) G.length G.length)).set 1 (by simp) (.slice (some ⟨s0, 0, none⟩) G.length G.length)).set 2 (by simp) (.slice (some ⟨s1, 0, none⟩) G.length G.length)
      have B5 := B4.only O (by omega)
      have H5 := H4.only O (by omega)
      have zw : wr.heap.size ≤ w4.heap.size := hb4.size
      have zN := Nn.1
      have T1 : T3 wr.heap.size w4 (.slice (some ⟨r', 0, none⟩) G.length G.length) (.slice (some ⟨s0, 0, none⟩) G.length G.length) (.slice (some ⟨s1, 0, none⟩) G.length G.length) G.length G.length G.length (valR G.length (nxF G C A I W M)) (v32 G.length (inF A I (nxF G C A I W M))) (v32 G.length (awF W (nxF G C A I W M))) := t3_of a0 a1 a2 n1 n2 n3
      have T5 := T1.spared O (fun q h _ _ e => by omega)
      have D5 := D4.only O (fun q h => .inr h)
      have b5 := bel_only b4 O (Nat.le_refl _) (fun q hq h => by omega)
      have pk5 : (((w4.setCell ⟨Nb, 0, none⟩ (.slice (some ⟨r', 0, none⟩) G.length G.length)).setCell ⟨Nb, 1, none⟩ (.slice (some ⟨s0, 0, none⟩) G.length G.length)).setCell ⟨Nb, 2, none⟩ (.slice (some ⟨s1, 0, none⟩) G.length G.length)).cell? ⟨gm, om + i, none⟩ = some (.int .u64 (M : Int)) := by have := (b5.cell (p := ⟨gm, om + i, none⟩) hgm).trans (P i ilt _ rfl); rw [eMk.out, ← eM.out] at this; exact this
      refine wpAnyH_ready (rs := [10]) (by kernel_rfl) (by simp) ?_
      refine AllReadyH.cons (o := { dst := none, op := Op.store 37 (Operand.tmp 8) (Operand.tmp 68), type := 0, pos := "headssafe.go:225", after := #[{ on := 8, ground := Ground.data }, { on := 6, ground := Ground.chain }, { on := 0, ground := Ground.phase }, { on := 1, ground := Ground.phase }, { on := 2, ground := Ground.phase }, { on := 3, ground := Ground.phase }, { on := 4, ground := Ground.phase }, { on := 5, ground := Ground.phase }, { on := 6, ground := Ground.phase }, { on := 7, ground := Ground.phase }, { on := 8, ground := Ground.phase }, { on := 9, ground := Ground.textOnly Departure.lateStores }], guard := none }) rfl (fun K hK => ?_) AllReadyH.nil
      go_simp
      refine hK.out _ _ ?_ (fun hHeld => ?_)
      · (try dsimp only)
        exact ⟨⟨B5.2.1 0, B5.2.1 1⟩, has3 H5, pk5⟩
      clear hK K
      (try simp only [Act.put, List.setIfInBounds_toArray, List.set_cons_zero, List.set_cons_succ])
      refine wpAnyH_take (i := 11) (oi := { dst := some 9, op := Op.assign (Operand.tmp 69), type := 28, pos := "headssafe.go:225", after := #[{ on := 9, ground := Ground.data }, { on := 10, ground := Ground.chain }, { on := 0, ground := Ground.phase }, { on := 1, ground := Ground.phase }, { on := 2, ground := Ground.phase }, { on := 3, ground := Ground.phase }, { on := 4, ground := Ground.phase }, { on := 5, ground := Ground.phase }, { on := 6, ground := Ground.phase }, { on := 7, ground := Ground.phase }, { on := 8, ground := Ground.phase }, { on := 9, ground := Ground.phase }, { on := 10, ground := Ground.phase }], guard := none }) (v := ?_) rfl (by kernel_rfl) (by kernel_rfl) (by kernel_rfl) (fun _ _ _ h => h) (Or.inl ⟨by rfl, ?_⟩) (by assumption) ?_
      rotate_left
      · intro wz hSz; (try dsimp only at hSz); go_simp; all_goals (with_reducible rfl)
      (try simp only [Act.put, List.setIfInBounds_toArray, List.set_cons_zero, List.set_cons_succ])
      refine wpAnyH_done (by kernel_rfl) ?_ _
      refine NoPanic.normal ?_
      clear T1 B4 H4 N4 D4 b4 x1 x2 cN pk pk4 pk5 Nn B Hh D O a0 a1 a2 n1 n2 n3
      generalize (((w4.setCell ⟨Nb, 0, none⟩ (.slice (some ⟨r', 0, none⟩) G.length G.length)).setCell ⟨Nb, 1, none⟩ (.slice (some ⟨s0, 0, none⟩) G.length G.length)).setCell ⟨Nb, 2, none⟩ (.slice (some ⟨s1, 0, none⟩) G.length G.length)) = Y5 at *
      have cS1 := kSo Y5 b5 _ _ _ _ _ _ T5.f1 T5.f2 T5.f3 (by rw [lst_len]; omega) (by rw [lst_len]; omega) (by rw [lst_len]; omega) nxt.2.1 nxt.1
      obtain ⟨_, o6, _⟩ := id B5
      obtain ⟨_, o7, _⟩ := id N5
      go_upto_region 13 with (first
        | (go_at_call 23; (with_reducible refine Calls.mono cS1 ?_); rintro e y6 ⟨rfl, hy6⟩; have b6 := bel_after b5 b5.size hy6; have B6 := B5.below hy6; have H6 := H5.below hy6; have N6 := N5.below hy6; have D6 := D5.below hy6; have T6 := T5.below hy6; obtain ⟨_, o8, _⟩ := id B6; obtain ⟨_, o9, _⟩ := id N6; have cS2 := kSd y6 b6 _ _ _ _ _ _ T6.f1 T6.f2 T6.f3 (by rw [lst_len]; omega) (by rw [lst_len]; omega) (by rw [lst_len]; omega) nxt.2.1 nxt.1; clear hy6)
        | (go_at_call 24; (with_reducible refine Calls.mono cS2 ?_); rintro e y7 ⟨rfl, hy7⟩; have b7 := bel_after b6 b6.size hy7; have B7 := B6.below hy7; have H7 := H6.below hy7; have N7 := N6.below hy7; have D7 := D6.below hy7; have T7 := T6.below hy7; clear hy7))
      clear o6 o7 o8 o9 cS1 cS2 B5 H5 N5 D5 T5 B6 H6 N6 D6 T6 b5 b6
      go_wp2_with fail
      go_loopw [11] (fun t wr => ∃ k : Nat, k ≤ G.length ∧ t = .int .i64 (k : Int) ∧ Hid (Below y7.heap.size y7 wr)) (fun t _ => G.length - (intOf t).toNat)
      case atStart => exact ⟨0, by omega, rfl, Below.refl _ _⟩
      case round =>
        obtain ⟨k, hkl, rfl, bX'⟩ := hrel
        have bX := bX'.out
        clear bX'
        by_cases klt : k < G.length
        · obtain ⟨g, o, rfl, hgG, PG⟩ := kG.resolve_left (by intro e; rw [e] at klt; simp at klt)
          obtain ⟨gA, oA, rfl, -, -⟩ := kA.resolve_left (by intro e; have := lA'.out; rw [e] at this; simp at this; omega)
          obtain ⟨_, _, eA', PA⟩ := D7.a.nums
          obtain ⟨gA', oA', eB, hgA, PA⟩ := PA.resolve_left (by intro e; have := lA'.out; rw [e] at this; simp at this; omega)
          have hA := PA k (by rw [lA'.out]; exact klt) _ rfl
          obtain ⟨rfl, rfl⟩ : gA' = gA ∧ oA' = oA := by
            injection eA' with e1 _ _
            rw [eB] at e1
            injection e1 with e1
            injection e1 with e2 e3
            exact ⟨e2.symm, e3.symm⟩
          have cX := fun (X : World) => headsNext_any G[k] (A.getD k 0) (nxF G C A I W M k) X (nxk k klt)
          have eAk : A[k]'(by rw [lA'.out]; exact klt) = A.getD k 0 := by
            have : k < A.length := by rw [lA'.out]; exact klt
            simp [List.getD_eq_getElem?_getD, this]
          rw [eAk] at hA
          have hR := own_cell T7.o1 klt
          have gr := own_lt T7.o1 r' rfl
          have hQ : ∀ (X : World), Below y7.heap.size y7 X → X.cell? ⟨w.heap.size, 0, none⟩ = some (.slice (some ⟨g, o, none⟩) G.length cg) ∧ (X.cell? ⟨g, o + k * 5, none⟩ = some (.string G[k].name) ∧ X.cell? ⟨g, o + k * 5 + 1, none⟩ = some (.int .i64 G[k].sort) ∧ X.cell? ⟨g, o + k * 5 + 2, none⟩ = some (.int .i64 G[k].min) ∧ X.cell? ⟨g, o + k * 5 + 3, none⟩ = some (.int .i64 G[k].amber) ∧ X.cell? ⟨g, o + k * 5 + 4, none⟩ = some (.int .i64 G[k].lead)) ∧ X.cell? ⟨w.heap.size + 1, 0, none⟩ = some (.slice (some ⟨gA', oA', none⟩) A.length eA) ∧ X.cell? ⟨gA', oA' + k, none⟩ = some (.int .i64 (A.getD k 0)) ∧ X.cell? ⟨Nb, 0, none⟩ = some (.slice (some ⟨r', 0, none⟩) G.length G.length) ∧ X.cell? ⟨r', k, none⟩ = some (.int .i64 (nxF G C A I W M k)) := fun X hX => by
            have hX0 := bel_after b7 b7.size hX
            exact ⟨(B7.below hX).2.1 0, ⟨(hX0.cell (p := ⟨g, _, none⟩) hgG).trans (PG k klt 0 _ rfl), (hX0.cell (p := ⟨g, _, none⟩) hgG).trans (PG k klt 1 _ rfl), (hX0.cell (p := ⟨g, _, none⟩) hgG).trans (PG k klt 2 _ rfl), (hX0.cell (p := ⟨g, _, none⟩) hgG).trans (PG k klt 3 _ rfl), (hX0.cell (p := ⟨g, _, none⟩) hgG).trans (PG k klt 4 _ rfl)⟩, (H7.below hX).2.1 0, (hX.cell (p := ⟨gA', _, none⟩) hgA).trans hA, (N7.below hX).2.1 0, (hX.cell (p := ⟨r', k, none⟩) gr.2).trans hR⟩
          have u1 : (k : Int) < (G.length : Int) := by omega
          have u0 : (0 : Int) ≤ (k : Int) := by omega
          have qB := (B7.below bX).2.1 0
          clear hA hR gr eAk eA' eB PA PG kG kA kSo kSd kSt nxk nxt km P
          generalize A.getD k 0 = ya at *
          generalize nxF G C A I W M k = yn at *
          generalize G[k].name = x0 at *
          generalize G[k].sort = x1 at *
          generalize G[k].min = x2 at *
          generalize G[k].amber = x3 at *
          generalize G[k].lead = x4 at *
          go_upto_region 16 with fail
          clear qB
          refine wp_region_noPanic ?_
          refine wp_region_held_drew (S := fun w' => w'.cell? ⟨w.heap.size, 0, none⟩ = some (.slice (some ⟨g, o, none⟩) G.length cg) ∧ (w'.cell? ⟨g, o + k * 5, none⟩ = some (.string x0) ∧ w'.cell? ⟨g, o + k * 5 + 1, none⟩ = some (.int .i64 x1) ∧ w'.cell? ⟨g, o + k * 5 + 2, none⟩ = some (.int .i64 x2) ∧ w'.cell? ⟨g, o + k * 5 + 3, none⟩ = some (.int .i64 x3) ∧ w'.cell? ⟨g, o + k * 5 + 4, none⟩ = some (.int .i64 x4)) ∧ w'.cell? ⟨w.heap.size + 1, 0, none⟩ = some (.slice (some ⟨gA', oA', none⟩) A.length eA) ∧ w'.cell? ⟨gA', oA' + k, none⟩ = some (.int .i64 ya) ∧ w'.cell? ⟨Nb, 0, none⟩ = some (.slice (some ⟨r', 0, none⟩) G.length G.length) ∧ w'.cell? ⟨r', k, none⟩ = some (.int .i64 yn)) (by kernel_rfl) ?_ (fun hHeld => ?_)
          · (try dsimp only)
            exact hQ _ bX.drew
          refine wpAnyH_take (i := 0) (oi := { dst := some 91, op := Op.fieldAddr 25 (Operand.tmp 3) 0, type := 0, pos := "headssafe.go:230", after := #[], guard := none }) (v := ?_) rfl (by kernel_rfl) (by kernel_rfl) (by kernel_rfl) (fun _ _ _ h => h) (Or.inl ⟨by rfl, ?_⟩) (by assumption) ?_
          rotate_left
          · intro wz hSz; (try dsimp only at hSz); go_simp; all_goals (with_reducible rfl)
          (try simp only [Act.put, List.setIfInBounds_toArray, List.set_cons_zero, List.set_cons_succ])
          refine wpAnyH_take (i := 1) (oi := { dst := some 92, op := Op.load 22 (Operand.tmp 91), type := 22, pos := "headssafe.go:230", after := #[{ on := 0, ground := Ground.data }], guard := none }) (v := ?_) rfl (by kernel_rfl) (by kernel_rfl) (by kernel_rfl) (fun _ _ _ h => h) (Or.inl ⟨by rfl, ?_⟩) (by assumption) ?_
          rotate_left
          · intro wz hSz; (try dsimp only at hSz); go_simp; all_goals (with_reducible rfl)
          (try simp only [Act.put, List.setIfInBounds_toArray, List.set_cons_zero, List.set_cons_succ])
          refine wpAnyH_take (i := 2) (oi := { dst := some 93, op := Op.move (Operand.tmp 11), type := 3, pos := "headssafe.go:230", after := #[], guard := none }) (v := ?_) rfl (by kernel_rfl) (by kernel_rfl) (by kernel_rfl) (fun _ _ _ h => h) (Or.inl ⟨by rfl, ?_⟩) (by assumption) ?_
          rotate_left
          · intro wz hSz; (try dsimp only at hSz); go_simp; all_goals (with_reducible rfl)
          (try simp only [Act.put, List.setIfInBounds_toArray, List.set_cons_zero, List.set_cons_succ])
          refine wpAnyH_take (i := 3) (oi := { dst := some 94, op := Op.indexAddr 22 (Operand.tmp 92) (Operand.tmp 93), type := 0, pos := "headssafe.go:230", after := #[{ on := 1, ground := Ground.data }, { on := 2, ground := Ground.data }], guard := none }) (v := ?_) rfl (by kernel_rfl) (by kernel_rfl) (by kernel_rfl) (fun _ _ _ h => h) (Or.inl ⟨by rfl, ?_⟩) (by assumption) ?_
          rotate_left
          · intro wz hSz; (try dsimp only at hSz); go_simp; all_goals (with_reducible rfl)
          (try simp only [Act.put, List.setIfInBounds_toArray, List.set_cons_zero, List.set_cons_succ])
          refine wpAnyH_take (i := 4) (oi := { dst := some 95, op := Op.load 58 (Operand.tmp 94), type := 58, pos := "headssafe.go:230", after := #[{ on := 3, ground := Ground.data }], guard := none }) (v := ?_) rfl (by kernel_rfl) (by kernel_rfl) (by kernel_rfl) (fun _ _ _ h => h) (Or.inl ⟨by rfl, ?_⟩) (by assumption) ?_
          rotate_left
          · intro wz hSz; (try dsimp only at hSz); go_simp; all_goals (with_reducible rfl)
          (try simp only [Act.put, List.setIfInBounds_toArray, List.set_cons_zero, List.set_cons_succ])
          refine wpAnyH_take (i := 5) (oi := { dst := some 96, op := Op.fieldAddr 37 (Operand.tmp 4) 0, type := 0, pos := "headssafe.go:230", after := #[], guard := none }) (v := ?_) rfl (by kernel_rfl) (by kernel_rfl) (by kernel_rfl) (fun _ _ _ h => h) (Or.inl ⟨by rfl, ?_⟩) (by assumption) ?_
          rotate_left
          · intro wz hSz; (try dsimp only at hSz); go_simp; all_goals (with_reducible rfl)
          (try simp only [Act.put, List.setIfInBounds_toArray, List.set_cons_zero, List.set_cons_succ])
          refine wpAnyH_take (i := 6) (oi := { dst := some 97, op := Op.load 34 (Operand.tmp 96), type := 34, pos := "headssafe.go:230", after := #[{ on := 5, ground := Ground.data }], guard := none }) (v := ?_) rfl (by kernel_rfl) (by kernel_rfl) (by kernel_rfl) (fun _ _ _ h => h) (Or.inl ⟨by rfl, ?_⟩) (by assumption) ?_
          rotate_left
          · intro wz hSz; (try dsimp only at hSz); go_simp; all_goals (with_reducible rfl)
          (try simp only [Act.put, List.setIfInBounds_toArray, List.set_cons_zero, List.set_cons_succ])
          refine wpAnyH_take (i := 7) (oi := { dst := some 98, op := Op.move (Operand.tmp 11), type := 3, pos := "headssafe.go:230", after := #[], guard := none }) (v := ?_) rfl (by kernel_rfl) (by kernel_rfl) (by kernel_rfl) (fun _ _ _ h => h) (Or.inl ⟨by rfl, ?_⟩) (by assumption) ?_
          rotate_left
          · intro wz hSz; (try dsimp only at hSz); go_simp; all_goals (with_reducible rfl)
          (try simp only [Act.put, List.setIfInBounds_toArray, List.set_cons_zero, List.set_cons_succ])
          refine wpAnyH_take (i := 8) (oi := { dst := some 99, op := Op.indexAddr 34 (Operand.tmp 97) (Operand.tmp 98), type := 0, pos := "headssafe.go:230", after := #[{ on := 6, ground := Ground.data }, { on := 7, ground := Ground.data }], guard := none }) (v := ?_) rfl (by kernel_rfl) (by kernel_rfl) (by kernel_rfl) (fun _ _ _ h => h) (Or.inl ⟨by rfl, ?_⟩) (by assumption) ?_
          rotate_left
          · intro wz hSz; (try dsimp only at hSz); go_simp; all_goals (with_reducible rfl)
          (try simp only [Act.put, List.setIfInBounds_toArray, List.set_cons_zero, List.set_cons_succ])
          refine wpAnyH_take (i := 9) (oi := { dst := some 100, op := Op.load 3 (Operand.tmp 99), type := 3, pos := "headssafe.go:230", after := #[{ on := 8, ground := Ground.data }], guard := none }) (v := ?_) rfl (by kernel_rfl) (by kernel_rfl) (by kernel_rfl) (fun _ _ _ h => h) (Or.inl ⟨by rfl, ?_⟩) (by assumption) ?_
          rotate_left
          · intro wz hSz; (try dsimp only at hSz); go_simp; all_goals (with_reducible rfl)
          (try simp only [Act.put, List.setIfInBounds_toArray, List.set_cons_zero, List.set_cons_succ])
          refine wpAnyH_take (i := 10) (oi := { dst := some 101, op := Op.fieldAddr 37 (Operand.tmp 8) 0, type := 0, pos := "headssafe.go:230", after := #[], guard := none }) (v := ?_) rfl (by kernel_rfl) (by kernel_rfl) (by kernel_rfl) (fun _ _ _ h => h) (Or.inl ⟨by rfl, ?_⟩) (by assumption) ?_
          rotate_left
          · intro wz hSz; (try dsimp only at hSz); go_simp; all_goals (with_reducible rfl)
          (try simp only [Act.put, List.setIfInBounds_toArray, List.set_cons_zero, List.set_cons_succ])
          refine wpAnyH_take (i := 11) (oi := { dst := some 102, op := Op.load 34 (Operand.tmp 101), type := 34, pos := "headssafe.go:230", after := #[{ on := 10, ground := Ground.data }], guard := none }) (v := ?_) rfl (by kernel_rfl) (by kernel_rfl) (by kernel_rfl) (fun _ _ _ h => h) (Or.inl ⟨by rfl, ?_⟩) (by assumption) ?_
          rotate_left
          · intro wz hSz; (try dsimp only at hSz); go_simp; all_goals (with_reducible rfl)
          (try simp only [Act.put, List.setIfInBounds_toArray, List.set_cons_zero, List.set_cons_succ])
          refine wpAnyH_take (i := 12) (oi := { dst := some 103, op := Op.move (Operand.tmp 11), type := 3, pos := "headssafe.go:230", after := #[], guard := none }) (v := ?_) rfl (by kernel_rfl) (by kernel_rfl) (by kernel_rfl) (fun _ _ _ h => h) (Or.inl ⟨by rfl, ?_⟩) (by assumption) ?_
          rotate_left
          · intro wz hSz; (try dsimp only at hSz); go_simp; all_goals (with_reducible rfl)
          (try simp only [Act.put, List.setIfInBounds_toArray, List.set_cons_zero, List.set_cons_succ])
          refine wpAnyH_take (i := 13) (oi := { dst := some 104, op := Op.indexAddr 34 (Operand.tmp 102) (Operand.tmp 103), type := 0, pos := "headssafe.go:230", after := #[{ on := 11, ground := Ground.data }, { on := 12, ground := Ground.data }], guard := none }) (v := ?_) rfl (by kernel_rfl) (by kernel_rfl) (by kernel_rfl) (fun _ _ _ h => h) (Or.inl ⟨by rfl, ?_⟩) (by assumption) ?_
          rotate_left
          · intro wz hSz; (try dsimp only at hSz); go_simp; all_goals (with_reducible rfl)
          (try simp only [Act.put, List.setIfInBounds_toArray, List.set_cons_zero, List.set_cons_succ])
          refine wpAnyH_take (i := 14) (oi := { dst := some 105, op := Op.load 3 (Operand.tmp 104), type := 3, pos := "headssafe.go:230", after := #[{ on := 13, ground := Ground.data }], guard := none }) (v := ?_) rfl (by kernel_rfl) (by kernel_rfl) (by kernel_rfl) (fun _ _ _ h => h) (Or.inl ⟨by rfl, ?_⟩) (by assumption) ?_
          rotate_left
          · intro wz hSz; (try dsimp only at hSz); go_simp; all_goals (with_reducible rfl)
          (try simp only [Act.put, List.setIfInBounds_toArray, List.set_cons_zero, List.set_cons_succ])
          refine wpAnyH_ready (rs := [15]) (by kernel_rfl) (by simp) ?_
          refine AllReadyH.cons (o := { dst := some 106, op := Op.call { callee := Callee.value (Operand.func 25), args := #[Operand.tmp 95, Operand.tmp 100, Operand.tmp 105], argTypes := #[58, 3, 3] }, type := 4, pos := "headssafe.go:230", after := #[{ on := 4, ground := Ground.data }, { on := 9, ground := Ground.data }, { on := 14, ground := Ground.data }], guard := none }) rfl (fun K hK => ?_) AllReadyH.nil
          go_simp
          (go_at_call 25; (with_reducible refine Calls.mono (cX _) ?_); rintro e y9 ⟨rfl, hy9⟩; have bZ := bel_after bX.drew bX.drew.size hy9; clear hy9)
          go_wp2_with fail
          refine hK.out _ _ ?_ (fun hHeld => ?_)
          · (try dsimp only)
            exact hQ _ bZ
          clear hK K
          (try simp only [Act.put, List.setIfInBounds_toArray, List.set_cons_zero, List.set_cons_succ])
          refine wpAnyH_take (i := 16) (oi := { dst := some 107, op := Op.unOp UnOp.not 4 (Operand.tmp 106), type := 4, pos := "headssafe.go:230", after := #[{ on := 15, ground := Ground.data }], guard := none }) (v := ?_) rfl (by kernel_rfl) (by kernel_rfl) (by kernel_rfl) (fun _ _ _ h => h) (Or.inl ⟨by rfl, ?_⟩) (by assumption) ?_
          rotate_left
          · intro wz hSz; (try dsimp only at hSz); go_simp; all_goals (with_reducible rfl)
          (try simp only [Act.put, List.setIfInBounds_toArray, List.set_cons_zero, List.set_cons_succ])
          refine wpAnyH_done (by kernel_rfl) ?_ _
          refine NoPanic.normal ?_
          go_wp2_with fail
          go_roundw
          case rel => exact ⟨k + 1, by omega, by go_num, bZ⟩
          case measure => simp [intOf]; omega
        · have u1 : ¬ (k : Int) < (G.length : Int) := by omega
          have B8 := B7.below bX
          have H8 := H7.below bX
          have N8 := N7.below bX
          have T8 := T7.below bX
          have b8 := bel_after b7 b7.size bX
          obtain ⟨_, o1, _⟩ := id B8
          obtain ⟨_, o2, o3⟩ := id H8
          obtain ⟨_, o4, _⟩ := id N8
          have O8 : Only (fun q => q = w.heap.size + 1) wr (((wr.setCell ⟨w.heap.size + 1, 0, none⟩ (.slice (some ⟨r', 0, none⟩) G.length G.length)).setCell ⟨w.heap.size + 1, 1, none⟩ (.slice (some ⟨s0, 0, none⟩) G.length G.length)).setCell ⟨w.heap.size + 1, 2, none⟩ (.slice (some ⟨s1, 0, none⟩) G.length G.length)) := ((only_of_set _ _ _ _).trans (only_of_set _ _ _ _)).trans (only_of_set _ _ _ _)
          have H9 : Has (((wr.setCell ⟨w.heap.size + 1, 0, none⟩ (.slice (some ⟨r', 0, none⟩) G.length G.length)).setCell ⟨w.heap.size + 1, 1, none⟩ (.slice (some ⟨s0, 0, none⟩) G.length G.length)).setCell ⟨w.heap.size + 1, 2, none⟩ (.slice (some ⟨s1, 0, none⟩) G.length G.length)) (w.heap.size + 1) #[.slice (some ⟨r', 0, none⟩) G.length G.length, .slice (some ⟨s0, 0, none⟩) G.length G.length, .slice (some ⟨s1, 0, none⟩) G.length G.length] := by simpa using ((H8.set 0 (by simp) (.slice (some ⟨r', 0, none⟩) G.length G.length)).set 1 (by simp) (.slice (some ⟨s0, 0, none⟩) G.length G.length)).set 2 (by simp) (.slice (some ⟨s1, 0, none⟩) G.length G.length)
          have B9 := B8.only O8 (by omega)
          have N9 := N8.only O8 (by omega)
          have T9 := T8.spared O8 (fun q h _ _ e => by omega)
          have b9 := bel_only b8 O8 (Nat.le_refl _) (fun q hq h => by omega)
          have D9 : Hd3 (((wr.setCell ⟨w.heap.size + 1, 0, none⟩ (.slice (some ⟨r', 0, none⟩) G.length G.length)).setCell ⟨w.heap.size + 1, 1, none⟩ (.slice (some ⟨s0, 0, none⟩) G.length G.length)).setCell ⟨w.heap.size + 1, 2, none⟩ (.slice (some ⟨s1, 0, none⟩) G.length G.length)) (.slice (some ⟨r', 0, none⟩) G.length G.length) (.slice (some ⟨s0, 0, none⟩) G.length G.length) (.slice (some ⟨s1, 0, none⟩) G.length G.length) (lst64 G.length (nxF G C A I W M)) (lst64 G.length (inF A I (nxF G C A I W M))) (lst64 G.length (awF W (nxF G C A I W M))) (w.heap.size + 1) Nb :=
            ⟨T9.f1, T9.f2, T9.f3, fun _ q hq => by have := own_lt T9.o1 q hq; omega, fun _ q hq => by have := own_lt T9.o2 q hq; omega, fun _ q hq => by have := own_lt T9.o3 q hq; omega⟩
          clear B7 H7 N7 D7 T7 kSo kSd kSt nxk km P kG kA
          go_wp2_with fail
          go_roundw
          case rel => exact ⟨i + 1, _, _, _, _, _, _, _, _, _, by omega, by go_num, B9, H9, N9, D9, nxt, b9⟩
          case measure => simp [intOf]; omega
    · have t1 : ¬ (i : Int) < (Ms.length : Int) := by omega
      clear kSo kSd kSt
      go_wp2_with fail
      go_ret
      exact ⟨rfl, hb⟩
end Go.Proofs.Ytbonmajnkbggcaa
