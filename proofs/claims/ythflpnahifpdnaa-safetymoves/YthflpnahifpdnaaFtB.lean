import Derived.Test.YthflpnahifpdnaaFtA
import Derived.Deep.RegionHeld3
namespace Go.Proofs.Ythflpnahifpdnaa
open Go.RowKit
set_option linter.unusedVariables false

set_option maxRecDepth 100000 in
set_option maxHeartbeats 4000000 in
theorem fits_any (G : List Gp) (C : List Cf) (A I W : List Int) (vg vc v1 v2 v3 : Value) (w : World) (h1 : Fl 5 Gp.cs w vg G) (h2 : Fl 4 Cf.cs w vc C) (h3 : Fl 1 n64 w v1 A) (h4 : Fl 1 n32 w v2 I) (h5 : Fl 1 n32 w v3 W) (lG : G.length ≤ 2932031007317) (lC : C.length ≤ 4398046511000) (lA : A.length ≤ 17592186044000) (lI : I.length ≤ 35184372088000) (lW : W.length ≤ 35184372088000) (okI : ∀ x ∈ I, inI32 x) (hgrid : gridB G C = true) :
    Calls Try.prog 38 #[.agg #[vg, vc], .agg #[v1, v2, v3]] w fun e w' => e = .returned (.bool (fitsB G C A I W)) ∧ Below w.heap.size w w' := by
  obtain ⟨va, cg, rfl, kG⟩ := h1.any
  obtain ⟨vb, cc, rfl, kC⟩ := h2.any
  obtain ⟨vA, cA, rfl, kA⟩ := h3.nums
  obtain ⟨vI, cI, rfl, kI⟩ := h4.nums
  obtain ⟨vW, cW, rfl, kW⟩ := h5.nums
  clear h1 h2 h3 h4 h5
  have hcf := grid_cf hgrid
  have B0 : Has ((w.alloc (.cells #[.slice va G.length cg, .slice vb C.length cc] 25)).alloc (.cells #[.slice vA A.length cA, .slice vI I.length cI, .slice vW W.length cW] 37)) w.heap.size #[.slice va G.length cg, .slice vb C.length cc] := (Has.new _ _ _ rfl).alloc _
  have B1 : Has ((w.alloc (.cells #[.slice va G.length cg, .slice vb C.length cc] 25)).alloc (.cells #[.slice vA A.length cA, .slice vI I.length cI, .slice vW W.length cW] 37)) (w.heap.size + 1) #[.slice vA A.length cA, .slice vI I.length cI, .slice vW W.length cW] := Has.new _ _ _ (by simp)
  have hb0 : Below w.heap.size w ((w.alloc (.cells #[.slice va G.length cg, .slice vb C.length cc] 25)).alloc (.cells #[.slice vA A.length cA, .slice vI I.length cI, .slice vW W.length cW] 37)) := belA
  generalize hA : fitsB G C A I W = R
  unfold fitsB at hA
  by_cases e1 : A.length = G.length
  case neg =>
    have hR : R = false := by rw [← hA]; simp [e1]
    subst hR
    have i1 : ¬ (A.length : Int) = (G.length : Int) := by omega
    clear hA
    go_enter Try.func38, Try.ntmps38
    go_wp2
    go_ret
    exact ⟨rfl, hb0⟩
  by_cases e2 : I.length = G.length
  case neg =>
    have hR : R = false := by rw [← hA]; simp [e2]
    subst hR
    have i1 : (A.length : Int) = (G.length : Int) := by omega
    have i2 : ¬ (I.length : Int) = (G.length : Int) := by omega
    clear hA
    replace e1 : Hid (A.length = G.length) := e1
    go_enter Try.func38, Try.ntmps38
    go_wp2
    go_ret
    exact ⟨rfl, hb0⟩
  by_cases e3 : W.length = G.length
  case neg =>
    have hR : R = false := by rw [← hA]; simp [e3]
    subst hR
    have i1 : (A.length : Int) = (G.length : Int) := by omega
    have i2 : (I.length : Int) = (G.length : Int) := by omega
    have i3 : ¬ (W.length : Int) = (G.length : Int) := by omega
    clear hA
    replace e1 : Hid (A.length = G.length) := e1
    replace e2 : Hid (I.length = G.length) := e2
    go_enter Try.func38, Try.ntmps38
    go_wp2
    go_ret
    exact ⟨rfl, hb0⟩
  have hA0 : (fitsF G A I W && clearF A C) = R := by rw [← hA]; simp [e1, e2, e3]
  clear hA
  have i1 : (A.length : Int) = (G.length : Int) := by omega
  have i2 : (I.length : Int) = (G.length : Int) := by omega
  have i3 : (W.length : Int) = (G.length : Int) := by omega
  replace e1 : Hid (A.length = G.length) := e1
  replace e2 : Hid (I.length = G.length) := e2
  replace e3 : Hid (W.length = G.length) := e3
  go_enter Try.func38, Try.ntmps38
  go_wp2
  generalize ((w.alloc (.cells #[.slice va G.length cg, .slice vb C.length cc] 25)).alloc (.cells #[.slice vA A.length cA, .slice vI I.length cI, .slice vW W.length cW] 37)) = W0 at *
  go_loopw [35] (fun t wr => ∃ k : Nat, k ≤ G.length ∧ t = .int .i64 (k : Int) ∧ Hid ((fitsF (G.drop k) (A.drop k) (I.drop k) (W.drop k) && clearF A C) = R) ∧ Hid (Has wr w.heap.size #[.slice va G.length cg, .slice vb C.length cc]) ∧ Hid (Has wr (w.heap.size + 1) #[.slice vA A.length cA, .slice vI I.length cI, .slice vW W.length cW]) ∧ Hid (Below w.heap.size w wr)) (fun t _ => G.length - (intOf t).toNat)
  case atStart => exact ⟨0, by omega, rfl, hA0, B0, B1, hb0⟩
  case round =>
    clear B0 B1 hb0
    obtain ⟨k, hkl, rfl, hs, B, B1, hb⟩ := hrel
    obtain ⟨_, b1, _⟩ := id B.out
    by_cases hlt : k < G.length
    · obtain ⟨g, o, rfl, hg, P⟩ := kG.resolve_left (by intro e; rw [e] at hlt; simp at hlt)
      obtain ⟨gA, oA, rfl, hgA, PA⟩ := kA.resolve_left (by intro e; have := e1.out; rw [e] at this; simp at this; omega)
      obtain ⟨gI, oI, rfl, hgI, PI⟩ := kI.resolve_left (by intro e; have := e2.out; rw [e] at this; simp at this; omega)
      obtain ⟨gW, oW, rfl, hgW, PW⟩ := kW.resolve_left (by intro e; have := e3.out; rw [e] at this; simp at this; omega)
      have p0 := (hb.out.cell (p := ⟨g, _, none⟩) hg).trans (P k hlt 0 _ rfl)
      have p1 := (hb.out.cell (p := ⟨g, _, none⟩) hg).trans (P k hlt 1 _ rfl)
      have p2 := (hb.out.cell (p := ⟨g, _, none⟩) hg).trans (P k hlt 2 _ rfl)
      have p3 := (hb.out.cell (p := ⟨g, _, none⟩) hg).trans (P k hlt 3 _ rfl)
      have p4 := (hb.out.cell (p := ⟨g, _, none⟩) hg).trans (P k hlt 4 _ rfl)
      simp only [Nat.add_zero] at p0
      have lA' : k < A.length := by omega
      have lI' : k < I.length := by omega
      have lW' : k < W.length := by omega
      have hP : ∀ (X : World), Below w.heap.size w X → X.cell? ⟨gA, oA + k, none⟩ = some (.int .i64 A[k]) ∧ X.cell? ⟨gI, oI + k, none⟩ = some (.int .i32 I[k]) ∧ X.cell? ⟨gW, oW + k, none⟩ = some (.int .i32 W[k]) := fun X hX => ⟨(hX.cell (p := ⟨gA, _, none⟩) hgA).trans (PA k lA' _ rfl), (hX.cell (p := ⟨gI, _, none⟩) hgI).trans (PI k lI' _ rfl), (hX.cell (p := ⟨gW, _, none⟩) hgW).trans (PW k lW' _ rfl)⟩
      have hF := fun (X : World) => fitsGroup_any G[k].name G[k].sort G[k].min G[k].amber G[k].lead A[k] I[k] W[k] X (okI _ (List.getElem_mem lI'))
      have eG : fitB ⟨G[k].name, G[k].sort, G[k].min, G[k].amber, G[k].lead⟩ A[k] I[k] W[k] = fitB G[k] A[k] I[k] W[k] := rfl
      rw [eG] at hF
      have hs' := hs.out
      rw [fitsF_step G A I W k hlt lA' lI' lW'] at hs'
      have t0 : (0 : Int) ≤ (k : Int) := by omega
      have t1 : (k : Int) < (G.length : Int) := by omega
      have t2 : k + 1 ≤ G.length := hlt
      have tA : (k : Int) < (A.length : Int) := by omega
      have tI : (k : Int) < (I.length : Int) := by omega
      have tW : (k : Int) < (W.length : Int) := by omega
      generalize fitB G[k] A[k] I[k] W[k] = v at *
      generalize A[k] = ya at *
      generalize I[k] = yi at *
      generalize W[k] = yw at *
      generalize G[k].name = x0 at *
      generalize G[k].sort = x1 at *
      generalize G[k].min = x2 at *
      generalize G[k].amber = x3 at *
      generalize G[k].lead = x4 at *
      clear P PA PI PW kG kA kI kW eG hs hcf okI
      have hbN : Below w.heap.size w (wr.alloc (.cells #[.string x0, .int .i64 x1, .int .i64 x2, .int .i64 x3, .int .i64 x4] 58)) := hb.out.alloc hb.out.size _
      have BN := B.out.alloc (.cells #[.string x0, .int .i64 x1, .int .i64 x2, .int .i64 x3, .int .i64 x4] 58)
      have B1N := B1.out.alloc (.cells #[.string x0, .int .i64 x1, .int .i64 x2, .int .i64 x3, .int .i64 x4] 58)
      have GN : Has (wr.alloc (.cells #[.string x0, .int .i64 x1, .int .i64 x2, .int .i64 x3, .int .i64 x4] 58)) wr.heap.size #[.string x0, .int .i64 x1, .int .i64 x2, .int .i64 x3, .int .i64 x4] := Has.new _ _ _ rfl
      go_upto_region 7 with fail
      generalize (wr.alloc (.cells #[.string x0, .int .i64 x1, .int .i64 x2, .int .i64 x3, .int .i64 x4] 58)) = W1 at *
      clear p0 p1 p2 p3 p4 b1
      refine wp_region_noPanic ?_
      refine wp_region_held_drew (S := fun w' => (w'.cell? ⟨w.heap.size + 1, 0, none⟩ = some (.slice (some ⟨gA, oA, none⟩) A.length cA) ∧ w'.cell? ⟨w.heap.size + 1, 1, none⟩ = some (.slice (some ⟨gI, oI, none⟩) I.length cI) ∧ w'.cell? ⟨w.heap.size + 1, 2, none⟩ = some (.slice (some ⟨gW, oW, none⟩) W.length cW)) ∧ (w'.cell? ⟨wr.heap.size, 0, none⟩ = some (.string x0) ∧ w'.cell? ⟨wr.heap.size, 1, none⟩ = some (.int .i64 x1) ∧ w'.cell? ⟨wr.heap.size, 2, none⟩ = some (.int .i64 x2) ∧ w'.cell? ⟨wr.heap.size, 3, none⟩ = some (.int .i64 x3) ∧ w'.cell? ⟨wr.heap.size, 4, none⟩ = some (.int .i64 x4)) ∧ w'.cell? ⟨gA, oA + k, none⟩ = some (.int .i64 ya) ∧ w'.cell? ⟨gI, oI + k, none⟩ = some (.int .i32 yi) ∧ w'.cell? ⟨gW, oW + k, none⟩ = some (.int .i32 yw)) (by kernel_rfl) ?_ (fun hHeld => ?_)
      · (try dsimp only)
        exact ⟨has3 B1N.drew, has5 GN.drew, hP _ hbN.drew⟩
      refine wpAnyH_take (i := 0) (oi := { dst := some 40, op := Op.load 58 (Operand.tmp 7), type := 58, pos := "picture.go:31", after := #[], guard := none }) (v := ?_) rfl (by kernel_rfl) (by kernel_rfl) (by kernel_rfl) (fun _ _ _ h => h) (Or.inl ⟨by rfl, ?_⟩) (by assumption) ?_
      rotate_left
      · intro wz hSz; (try dsimp only at hSz); go_simp; all_goals (with_reducible rfl)
      (try simp only [Act.put, List.setIfInBounds_toArray, List.set_cons_zero, List.set_cons_succ])
      refine wpAnyH_take (i := 1) (oi := { dst := some 41, op := Op.fieldAddr 37 (Operand.tmp 3) 0, type := 0, pos := "picture.go:31", after := #[], guard := none }) (v := ?_) rfl (by kernel_rfl) (by kernel_rfl) (by kernel_rfl) (fun _ _ _ h => h) (Or.inl ⟨by rfl, ?_⟩) (by assumption) ?_
      rotate_left
      · intro wz hSz; (try dsimp only at hSz); go_simp; all_goals (with_reducible rfl)
      (try simp only [Act.put, List.setIfInBounds_toArray, List.set_cons_zero, List.set_cons_succ])
      refine wpAnyH_take (i := 2) (oi := { dst := some 42, op := Op.load 34 (Operand.tmp 41), type := 34, pos := "picture.go:31", after := #[{ on := 1, ground := Ground.data }], guard := none }) (v := ?_) rfl (by kernel_rfl) (by kernel_rfl) (by kernel_rfl) (fun _ _ _ h => h) (Or.inl ⟨by rfl, ?_⟩) (by assumption) ?_
      rotate_left
      · intro wz hSz; (try dsimp only at hSz); go_simp; all_goals (with_reducible rfl)
      (try simp only [Act.put, List.setIfInBounds_toArray, List.set_cons_zero, List.set_cons_succ])
      refine wpAnyH_take (i := 3) (oi := { dst := some 43, op := Op.move (Operand.tmp 6), type := 3, pos := "picture.go:31", after := #[], guard := none }) (v := ?_) rfl (by kernel_rfl) (by kernel_rfl) (by kernel_rfl) (fun _ _ _ h => h) (Or.inl ⟨by rfl, ?_⟩) (by assumption) ?_
      rotate_left
      · intro wz hSz; (try dsimp only at hSz); go_simp; all_goals (with_reducible rfl)
      (try simp only [Act.put, List.setIfInBounds_toArray, List.set_cons_zero, List.set_cons_succ])
      refine wpAnyH_take (i := 4) (oi := { dst := some 44, op := Op.indexAddr 34 (Operand.tmp 42) (Operand.tmp 43), type := 0, pos := "picture.go:31", after := #[{ on := 2, ground := Ground.data }, { on := 3, ground := Ground.data }], guard := none }) (v := ?_) rfl (by kernel_rfl) (by kernel_rfl) (by kernel_rfl) (fun _ _ _ h => h) (Or.inl ⟨by rfl, ?_⟩) (by assumption) ?_
      rotate_left
      · intro wz hSz; (try dsimp only at hSz); go_simp; all_goals (with_reducible rfl)
      (try simp only [Act.put, List.setIfInBounds_toArray, List.set_cons_zero, List.set_cons_succ])
      refine wpAnyH_take (i := 5) (oi := { dst := some 45, op := Op.load 3 (Operand.tmp 44), type := 3, pos := "picture.go:31", after := #[{ on := 4, ground := Ground.data }], guard := none }) (v := ?_) rfl (by kernel_rfl) (by kernel_rfl) (by kernel_rfl) (fun _ _ _ h => h) (Or.inl ⟨by rfl, ?_⟩) (by assumption) ?_
      rotate_left
      · intro wz hSz; (try dsimp only at hSz); go_simp; all_goals (with_reducible rfl)
      (try simp only [Act.put, List.setIfInBounds_toArray, List.set_cons_zero, List.set_cons_succ])
      refine wpAnyH_take (i := 6) (oi := { dst := some 46, op := Op.fieldAddr 37 (Operand.tmp 3) 1, type := 0, pos := "picture.go:31", after := #[], guard := none }) (v := ?_) rfl (by kernel_rfl) (by kernel_rfl) (by kernel_rfl) (fun _ _ _ h => h) (Or.inl ⟨by rfl, ?_⟩) (by assumption) ?_
      rotate_left
      · intro wz hSz; (try dsimp only at hSz); go_simp; all_goals (with_reducible rfl)
      (try simp only [Act.put, List.setIfInBounds_toArray, List.set_cons_zero, List.set_cons_succ])
      refine wpAnyH_take (i := 7) (oi := { dst := some 47, op := Op.load 35 (Operand.tmp 46), type := 35, pos := "picture.go:31", after := #[{ on := 6, ground := Ground.data }], guard := none }) (v := ?_) rfl (by kernel_rfl) (by kernel_rfl) (by kernel_rfl) (fun _ _ _ h => h) (Or.inl ⟨by rfl, ?_⟩) (by assumption) ?_
      rotate_left
      · intro wz hSz; (try dsimp only at hSz); go_simp; all_goals (with_reducible rfl)
      (try simp only [Act.put, List.setIfInBounds_toArray, List.set_cons_zero, List.set_cons_succ])
      refine wpAnyH_take (i := 8) (oi := { dst := some 48, op := Op.move (Operand.tmp 6), type := 3, pos := "picture.go:31", after := #[], guard := none }) (v := ?_) rfl (by kernel_rfl) (by kernel_rfl) (by kernel_rfl) (fun _ _ _ h => h) (Or.inl ⟨by rfl, ?_⟩) (by assumption) ?_
      rotate_left
      · intro wz hSz; (try dsimp only at hSz); go_simp; all_goals (with_reducible rfl)
      (try simp only [Act.put, List.setIfInBounds_toArray, List.set_cons_zero, List.set_cons_succ])
      refine wpAnyH_take (i := 9) (oi := { dst := some 49, op := Op.indexAddr 35 (Operand.tmp 47) (Operand.tmp 48), type := 0, pos := "picture.go:31", after := #[{ on := 7, ground := Ground.data }, { on := 8, ground := Ground.data }], guard := none }) (v := ?_) rfl (by kernel_rfl) (by kernel_rfl) (by kernel_rfl) (fun _ _ _ h => h) (Or.inl ⟨by rfl, ?_⟩) (by assumption) ?_
      rotate_left
      · intro wz hSz; (try dsimp only at hSz); go_simp; all_goals (with_reducible rfl)
      (try simp only [Act.put, List.setIfInBounds_toArray, List.set_cons_zero, List.set_cons_succ])
      refine wpAnyH_take (i := 10) (oi := { dst := some 50, op := Op.load 21 (Operand.tmp 49), type := 21, pos := "picture.go:31", after := #[{ on := 9, ground := Ground.data }], guard := none }) (v := ?_) rfl (by kernel_rfl) (by kernel_rfl) (by kernel_rfl) (fun _ _ _ h => h) (Or.inl ⟨by rfl, ?_⟩) (by assumption) ?_
      rotate_left
      · intro wz hSz; (try dsimp only at hSz); go_simp; all_goals (with_reducible rfl)
      (try simp only [Act.put, List.setIfInBounds_toArray, List.set_cons_zero, List.set_cons_succ])
      refine wpAnyH_take (i := 11) (oi := { dst := some 51, op := Op.fieldAddr 37 (Operand.tmp 3) 2, type := 0, pos := "picture.go:31", after := #[], guard := none }) (v := ?_) rfl (by kernel_rfl) (by kernel_rfl) (by kernel_rfl) (fun _ _ _ h => h) (Or.inl ⟨by rfl, ?_⟩) (by assumption) ?_
      rotate_left
      · intro wz hSz; (try dsimp only at hSz); go_simp; all_goals (with_reducible rfl)
      (try simp only [Act.put, List.setIfInBounds_toArray, List.set_cons_zero, List.set_cons_succ])
      refine wpAnyH_take (i := 12) (oi := { dst := some 52, op := Op.load 35 (Operand.tmp 51), type := 35, pos := "picture.go:31", after := #[{ on := 11, ground := Ground.data }], guard := none }) (v := ?_) rfl (by kernel_rfl) (by kernel_rfl) (by kernel_rfl) (fun _ _ _ h => h) (Or.inl ⟨by rfl, ?_⟩) (by assumption) ?_
      rotate_left
      · intro wz hSz; (try dsimp only at hSz); go_simp; all_goals (with_reducible rfl)
      (try simp only [Act.put, List.setIfInBounds_toArray, List.set_cons_zero, List.set_cons_succ])
      refine wpAnyH_take (i := 13) (oi := { dst := some 53, op := Op.move (Operand.tmp 6), type := 3, pos := "picture.go:31", after := #[], guard := none }) (v := ?_) rfl (by kernel_rfl) (by kernel_rfl) (by kernel_rfl) (fun _ _ _ h => h) (Or.inl ⟨by rfl, ?_⟩) (by assumption) ?_
      rotate_left
      · intro wz hSz; (try dsimp only at hSz); go_simp; all_goals (with_reducible rfl)
      (try simp only [Act.put, List.setIfInBounds_toArray, List.set_cons_zero, List.set_cons_succ])
      refine wpAnyH_take (i := 14) (oi := { dst := some 54, op := Op.indexAddr 35 (Operand.tmp 52) (Operand.tmp 53), type := 0, pos := "picture.go:31", after := #[{ on := 12, ground := Ground.data }, { on := 13, ground := Ground.data }], guard := none }) (v := ?_) rfl (by kernel_rfl) (by kernel_rfl) (by kernel_rfl) (fun _ _ _ h => h) (Or.inl ⟨by rfl, ?_⟩) (by assumption) ?_
      rotate_left
      · intro wz hSz; (try dsimp only at hSz); go_simp; all_goals (with_reducible rfl)
      (try simp only [Act.put, List.setIfInBounds_toArray, List.set_cons_zero, List.set_cons_succ])
      refine wpAnyH_take (i := 15) (oi := { dst := some 55, op := Op.load 21 (Operand.tmp 54), type := 21, pos := "picture.go:31", after := #[{ on := 14, ground := Ground.data }], guard := none }) (v := ?_) rfl (by kernel_rfl) (by kernel_rfl) (by kernel_rfl) (fun _ _ _ h => h) (Or.inl ⟨by rfl, ?_⟩) (by assumption) ?_
      rotate_left
      · intro wz hSz; (try dsimp only at hSz); go_simp; all_goals (with_reducible rfl)
      (try simp only [Act.put, List.setIfInBounds_toArray, List.set_cons_zero, List.set_cons_succ])
      refine wpAnyH_ready (rs := [16]) (by kernel_rfl) (by simp) ?_
      refine AllReadyH.cons (o := { dst := some 56, op := Op.call { callee := Callee.value (Operand.func 48), args := #[Operand.tmp 40, Operand.tmp 45, Operand.tmp 50, Operand.tmp 55], argTypes := #[58, 3, 21, 21] }, type := 4, pos := "picture.go:31", after := #[{ on := 0, ground := Ground.data }, { on := 5, ground := Ground.data }, { on := 10, ground := Ground.data }, { on := 15, ground := Ground.data }], guard := none }) rfl (fun K hK => ?_) AllReadyH.nil
      go_simp
      (go_at_call 48; (with_reducible refine Calls.mono (hF _) ?_); rintro e w2 ⟨rfl, hb2⟩; have hbM := bel_after hbN.drew hbN.size hb2; have BM := BN.drew.below hb2; have B1M := B1N.drew.below hb2; have GM := GN.drew.below hb2; clear hb2)
      go_wp2_with fail
      refine hK.out _ _ ?_ (fun hHeld => ?_)
      · (try dsimp only)
        exact ⟨has3 B1M, has5 GM, hP _ hbM⟩
      clear hK K
      (try simp only [Act.put, List.setIfInBounds_toArray, List.set_cons_zero, List.set_cons_succ])
      refine wpAnyH_take (i := 17) (oi := { dst := some 57, op := Op.unOp UnOp.not 4 (Operand.tmp 56), type := 4, pos := "picture.go:31", after := #[{ on := 16, ground := Ground.data }], guard := none }) (v := ?_) rfl (by kernel_rfl) (by kernel_rfl) (by kernel_rfl) (fun _ _ _ h => h) (Or.inl ⟨by rfl, ?_⟩) (by assumption) ?_
      rotate_left
      · intro wz hSz; (try dsimp only at hSz); go_simp; all_goals (with_reducible rfl)
      (try simp only [Act.put, List.setIfInBounds_toArray, List.set_cons_zero, List.set_cons_succ])
      refine wpAnyH_done (by kernel_rfl) ?_ _
      refine NoPanic.normal ?_
      cases v with
      | true =>
        have hs2 : Hid ((fitsF (G.drop (k + 1)) (A.drop (k + 1)) (I.drop (k + 1)) (W.drop (k + 1)) && clearF A C) = R) := by show _ = _; rw [← hs']; simp
        clear hs'
        go_wp2_with fail
        go_roundw
        case rel => exact ⟨k + 1, by omega, by go_num, hs2, BM, B1M, hbM⟩
        case measure => simp [intOf]; omega
      | false =>
        have hR : R = false := by rw [← hs']; simp
        subst hR
        clear hs'
        go_wp2_with fail
        go_ret
        exact ⟨rfl, hbM⟩
    · have t1 : ¬ (k : Int) < (G.length : Int) := by omega
      have hA1 : clearF A (C.drop 0) = R := by have := hs.out; rw [fitsF_end G A I W k (by omega)] at this; simpa using this
      clear kG hs
      obtain ⟨_, c1, _⟩ := id B1.out
      go_wp2
      go_loopw [62] (fun t wr => ∃ k : Nat, k ≤ C.length ∧ t = .int .i64 (k : Int) ∧ Hid (clearF A (C.drop k) = R) ∧ Hid (Has wr w.heap.size #[.slice va G.length cg, .slice vb C.length cc]) ∧ Hid (Has wr (w.heap.size + 1) #[.slice vA A.length cA, .slice vI I.length cI, .slice vW W.length cW]) ∧ Hid (Below w.heap.size w wr)) (fun t _ => C.length - (intOf t).toNat)
      case atStart => exact ⟨0, by omega, rfl, hA1, B, B1, hb⟩
      case round =>
        clear b1 c1 hA1 B B1 hb t1
        obtain ⟨m, hml, rfl, hs, B, B1, hb⟩ := hrel
        obtain ⟨_, b1, _⟩ := id B.out
        by_cases hlt : m < C.length
        · obtain ⟨g, o, rfl, hg, P⟩ := kC.resolve_left (by intro e; rw [e] at hlt; simp at hlt)
          have p0 := (hb.out.cell (p := ⟨g, _, none⟩) hg).trans (P m hlt 0 _ rfl)
          have p1 := (hb.out.cell (p := ⟨g, _, none⟩) hg).trans (P m hlt 1 _ rfl)
          have p2 := (hb.out.cell (p := ⟨g, _, none⟩) hg).trans (P m hlt 2 _ rfl)
          have p3 := (hb.out.cell (p := ⟨g, _, none⟩) hg).trans (P m hlt 3 _ rfl)
          simp only [Nat.add_zero] at p0
          have hs' := hs.out
          rw [clearF_step A C m hlt] at hs'
          obtain ⟨ra, rb, rc, _, _⟩ := hcf m hlt
          obtain ⟨qa, ea⟩ := atI_get (A := A) (x := C[m].a) (by omega) (by omega)
          obtain ⟨qb, eb⟩ := atI_get (A := A) (x := C[m].b) (by omega) (by omega)
          rw [ea, eb] at hs'
          obtain ⟨gA, oA, rfl, hgA, PA⟩ := kA.resolve_left (by intro e; rw [e] at qa; simp at qa)
          have hbN : Below w.heap.size w (wr.alloc (.cells #[.int .i64 C[m].a, .int .i64 C[m].b, .int .i64 C[m].ab, .int .i64 C[m].ba] 49)) := hb.out.alloc hb.out.size _
          have fa := (hbN.cell (p := ⟨gA, _, none⟩) hgA).trans (PA _ qa _ rfl)
          have fb := (hbN.cell (p := ⟨gA, _, none⟩) hgA).trans (PA _ qb _ rfl)
          have ja : ((C[m].a.toNat : Nat) : Int) = C[m].a := by omega
          have jb : ((C[m].b.toNat : Nat) : Int) = C[m].b := by omega
          generalize hna : C[m].a.toNat = na at *
          generalize hnb : C[m].b.toNat = nb at *
          generalize A[na] = ya at *
          generalize A[nb] = yb at *
          have ta : (0 : Int) ≤ C[m].a := by omega
          have ta' : C[m].a < (A.length : Int) := by omega
          have tb : (0 : Int) ≤ C[m].b := by omega
          have tb' : C[m].b < (A.length : Int) := by omega
          have t1 : (m : Int) < (C.length : Int) := by omega
          have t0 : (0 : Int) ≤ (m : Int) := by omega
          have t2 : m + 1 ≤ C.length := hlt
          have BN := B.out.alloc (.cells #[.int .i64 C[m].a, .int .i64 C[m].b, .int .i64 C[m].ab, .int .i64 C[m].ba] 49)
          have B1N := B1.out.alloc (.cells #[.int .i64 C[m].a, .int .i64 C[m].b, .int .i64 C[m].ab, .int .i64 C[m].ba] 49)
          clear P PA kA kI kW hs hcf ea eb qa qb kC ra rb rc hna hnb
          generalize C[m].a = xa at *
          generalize C[m].b = xb at *
          generalize C[m].ab = xab at *
          generalize C[m].ba = xba at *
          subst ja jb
          obtain ⟨_, d1, _⟩ := id B1N
          by_cases f1 : ya = 0
          · have hs2 : Hid (clearF A (C.drop (m + 1)) = R) := by show _ = _; rw [← hs']; simp [f1]
            subst f1
            clear hs'
            go_wp2
            go_roundw
            case rel => exact ⟨m + 1, by omega, by go_num, hs2, BN, B1N, hbN⟩
            case measure => simp [intOf]; omega
          · have g1 : (ya != 0) = true := by simpa using f1
            by_cases f2 : yb = 0
            · have hs2 : Hid (clearF A (C.drop (m + 1)) = R) := by show _ = _; rw [← hs']; simp [f2]
              subst f2
              clear hs'
              go_wp2
              go_roundw
              case rel => exact ⟨m + 1, by omega, by go_num, hs2, BN, B1N, hbN⟩
              case measure => simp [intOf]; omega
            · have g2 : (yb != 0) = true := by simpa using f2
              have hR : R = false := by rw [← hs']; simp [f1, f2]
              subst hR
              clear hs'
              go_wp2
              go_ret
              exact ⟨rfl, hbN⟩
        · have t1 : ¬ (m : Int) < (C.length : Int) := by omega
          have hR : R = true := by rw [← hs.out]; exact clearF_end A C m (by omega)
          subst hR
          clear kC hs
          go_wp2
          go_ret
          exact ⟨rfl, hb.out⟩
end Go.Proofs.Ythflpnahifpdnaa
