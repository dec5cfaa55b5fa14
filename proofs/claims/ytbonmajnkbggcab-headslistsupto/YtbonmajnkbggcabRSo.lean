import Derived.Test.YtbonmajnkbggcabHdA
import Derived.Test.YtbonmajnkbggcabGrE
import Derived.Deep.RegionHeld3
namespace Go.Proofs.Ytbonmajnkbggcab
open Go.RowKit
set_option linter.unusedVariables false

theorem tkH {P : Program} {md : Region.Mode} {ops : Array Oper} {Q : Exit → Act → World → Prop} {S : World → Prop} {i : Nat} {oi : Oper} {v : Value} {fuel : Nat} {listed : Array Bool} {a : Act} {w : World} (hi : ops[i]? = some oi) (hb : (Region.noSelect ops && (Region.free md ops listed i && (Region.ready md ops listed).contains i)) = true) (hy : YieldsIf P ops S oi v a) (hS : S w)
    (h : wpAnyH P md ops (NoPanic Q) S fuel (listed.setIfInBounds i true) (a.put oi.dst v) w) : wpAnyH P md ops (NoPanic Q) S (fuel + 1) listed a w := by
  simp only [Bool.and_eq_true] at hb
  exact wpAnyH_take hi hb.1 hb.2.1 hb.2.2 (fun _ _ _ h => h) hy hS h
set_option maxRecDepth 100000 in
set_option maxHeartbeats 4000000 in
theorem refSound_any (G : List Gp) (C : List Cf) (A I W : List Int) (vg vc v1 v2 v3 : Value) (w : World) (h1 : Fl 5 Gp.cs w vg G) (h2 : Fl 4 Cf.cs w vc C) (h3 : Fl 1 n64 w v1 A) (h4 : Fl 1 n32 w v2 I) (h5 : Fl 1 n32 w v3 W) (lG : G.length ≤ 2932031007317) (lC : C.length ≤ 4398046511000) (lA : A.length ≤ 17592186044000) (lI : I.length ≤ 35184372088000) (lW : W.length ≤ 35184372088000) (okI : ∀ x ∈ I, inI32 x) :
    Calls Try.prog 13 #[.agg #[vg, vc], .agg #[v1, v2, v3]] w fun e w' => e = .returned (.bool (soundB G C A I W)) ∧ Below w.heap.size w w' := by
  have hGd := fun (X : World) (hX : Below w.heap.size w X) => ref7Grid_any G C vg vc X (h1.below hX) (h2.below hX) lG lC
  obtain ⟨va, cg, rfl, kG⟩ := h1.any
  obtain ⟨vb, cc, rfl, kC⟩ := h2.any
  obtain ⟨vA, cA, rfl, kA⟩ := h3.nums
  obtain ⟨vI, cI, rfl, kI⟩ := h4.nums
  obtain ⟨vW, cW, rfl, kW⟩ := h5.nums
  clear h1 h2 h3 h4 h5
  have B0 : Has ((w.alloc (.cells #[.slice va G.length cg, .slice vb C.length cc] 25)).alloc (.cells #[.slice vA A.length cA, .slice vI I.length cI, .slice vW W.length cW] 29)) w.heap.size #[.slice va G.length cg, .slice vb C.length cc] := (Has.new _ _ _ rfl).alloc _
  have B1 : Has ((w.alloc (.cells #[.slice va G.length cg, .slice vb C.length cc] 25)).alloc (.cells #[.slice vA A.length cA, .slice vI I.length cI, .slice vW W.length cW] 29)) (w.heap.size + 1) #[.slice vA A.length cA, .slice vI I.length cI, .slice vW W.length cW] := Has.new _ _ _ (by simp)
  have hb0 : Below w.heap.size w ((w.alloc (.cells #[.slice va G.length cg, .slice vb C.length cc] 25)).alloc (.cells #[.slice vA A.length cA, .slice vI I.length cI, .slice vW W.length cW] 29)) := belA
  unfold soundB
  cases hg : gridB G C with
  | false =>
    rw [hg] at hGd
    clear kG kC kA kI kW
    go_enter Try.func13, Try.ntmps13
    go_wp2_with (go_at_call 22; (with_reducible refine Calls.mono (hGd _ (by exact hb0)) ?_); rintro e w2 ⟨rfl, hb2⟩; have hbM := bel_after hb0 hb0.size hb2; clear hb2)
    go_ret
    exact ⟨rfl, hbM⟩
  | true =>
    rw [hg] at hGd
    have hcf := grid_cf hg
    clear hg
    rw [Bool.true_and]
    generalize hA : fitsB G C A I W = R
    unfold fitsB at hA
    by_cases e1 : A.length = G.length
    case neg =>
      have hR : R = false := by rw [← hA]; simp [e1]
      subst hR
      have i1 : ¬ (A.length : Int) = (G.length : Int) := by omega
      clear hA kG kC kA kI kW
      go_enter Try.func13, Try.ntmps13
      go_wp2_with (go_at_call 22; (with_reducible refine Calls.mono (hGd _ (by exact hb0)) ?_); rintro e w2 ⟨rfl, hb2⟩; have hbM := bel_after hb0 hb0.size hb2; have BM := B0.below hb2; have B1M := B1.below hb2; obtain ⟨_, m1, _⟩ := id BM; obtain ⟨_, m2, _⟩ := id B1M; clear hb2)
      go_ret
      exact ⟨rfl, hbM⟩
    by_cases e2 : I.length = G.length
    case neg =>
      have hR : R = false := by rw [← hA]; simp [e2]
      subst hR
      have i1 : (A.length : Int) = (G.length : Int) := by omega
      have i2 : ¬ (I.length : Int) = (G.length : Int) := by omega
      replace e1 : Hid (A.length = G.length) := e1
      clear hA kG kC kA kI kW
      go_enter Try.func13, Try.ntmps13
      go_wp2_with (go_at_call 22; (with_reducible refine Calls.mono (hGd _ (by exact hb0)) ?_); rintro e w2 ⟨rfl, hb2⟩; have hbM := bel_after hb0 hb0.size hb2; have BM := B0.below hb2; have B1M := B1.below hb2; obtain ⟨_, m1, _⟩ := id BM; obtain ⟨_, m2, _⟩ := id B1M; clear hb2)
      go_ret
      exact ⟨rfl, hbM⟩
    by_cases e3 : W.length = G.length
    case neg =>
      have hR : R = false := by rw [← hA]; simp [e3]
      subst hR
      have i1 : (A.length : Int) = (G.length : Int) := by omega
      have i2 : (I.length : Int) = (G.length : Int) := by omega
      have i3 : ¬ (W.length : Int) = (G.length : Int) := by omega
      replace e1 : Hid (A.length = G.length) := e1
      replace e2 : Hid (I.length = G.length) := e2
      clear hA kG kC kA kI kW
      go_enter Try.func13, Try.ntmps13
      go_wp2_with (go_at_call 22; (with_reducible refine Calls.mono (hGd _ (by exact hb0)) ?_); rintro e w2 ⟨rfl, hb2⟩; have hbM := bel_after hb0 hb0.size hb2; have BM := B0.below hb2; have B1M := B1.below hb2; obtain ⟨_, m1, _⟩ := id BM; obtain ⟨_, m2, _⟩ := id B1M; clear hb2)
      go_ret
      exact ⟨rfl, hbM⟩
    have hA0 : (fitsF G A I W && clearF A C) = R := by rw [← hA]; simp [e1, e2, e3]
    have i1 : (A.length : Int) = (G.length : Int) := by omega
    have i2 : (I.length : Int) = (G.length : Int) := by omega
    have i3 : (W.length : Int) = (G.length : Int) := by omega
    replace e1 : Hid (A.length = G.length) := e1
    replace e2 : Hid (I.length = G.length) := e2
    replace e3 : Hid (W.length = G.length) := e3
    clear hA
    go_enter Try.func13, Try.ntmps13
    go_wp2_with (go_at_call 22; (with_reducible refine Calls.mono (hGd _ (by exact hb0)) ?_); rintro e w2 ⟨rfl, hb2⟩; have hbM := bel_after hb0 hb0.size hb2; have BM := B0.below hb2; have B1M := B1.below hb2; obtain ⟨_, m1, _⟩ := id BM; obtain ⟨_, m2, _⟩ := id B1M; clear hb2)
    clear B0 B1 hb0 m1 m2
    go_loopw [6] (fun t wr => ∃ k : Nat, k ≤ G.length ∧ t = .int .i64 (k : Int) ∧ Hid ((fitsF (G.drop k) (A.drop k) (I.drop k) (W.drop k) && clearF A C) = R) ∧ Hid (Has wr w.heap.size #[.slice va G.length cg, .slice vb C.length cc]) ∧ Hid (Has wr (w.heap.size + 1) #[.slice vA A.length cA, .slice vI I.length cI, .slice vW W.length cW]) ∧ Hid (Below w.heap.size w wr)) (fun t _ => G.length - (intOf t).toNat)
    case atStart => exact ⟨0, by omega, rfl, hA0, BM, B1M, hbM⟩
    case round =>
      clear BM B1M hbM hA0
      obtain ⟨k, hkl, rfl, hs, B, B1, hb⟩ := hrel
      by_cases hlt : k < G.length
      · obtain ⟨g, o, rfl, hg, P⟩ := kG.resolve_left (by intro e; rw [e] at hlt; simp at hlt)
        obtain ⟨gA, oA, rfl, hgA, PA⟩ := kA.resolve_left (by intro e; have := e1.out; rw [e] at this; simp at this; omega)
        obtain ⟨gI, oI, rfl, hgI, PI⟩ := kI.resolve_left (by intro e; have := e2.out; rw [e] at this; simp at this; omega)
        obtain ⟨gW, oW, rfl, hgW, PW⟩ := kW.resolve_left (by intro e; have := e3.out; rw [e] at this; simp at this; omega)
        have lA' : k < A.length := by have := e1.out; omega
        have lI' : k < I.length := by have := e2.out; omega
        have lW' : k < W.length := by have := e3.out; omega
        have hP : ∀ (X : World), Below w.heap.size w X → X.cell? ⟨gA, oA + k, none⟩ = some (.int .i64 A[k]) ∧ X.cell? ⟨gI, oI + k, none⟩ = some (.int .i32 I[k]) ∧ X.cell? ⟨gW, oW + k, none⟩ = some (.int .i32 W[k]) := fun X hX => ⟨(hX.cell (p := ⟨gA, _, none⟩) hgA).trans (PA k lA' _ rfl), (hX.cell (p := ⟨gI, _, none⟩) hgI).trans (PI k lI' _ rfl), (hX.cell (p := ⟨gW, _, none⟩) hgW).trans (PW k lW' _ rfl)⟩
        have hQ : ∀ (X : World), Below w.heap.size w X → X.cell? ⟨g, o + k * 5, none⟩ = some (.string G[k].name) ∧ X.cell? ⟨g, o + k * 5 + 1, none⟩ = some (.int .i64 G[k].sort) ∧ X.cell? ⟨g, o + k * 5 + 2, none⟩ = some (.int .i64 G[k].min) ∧ X.cell? ⟨g, o + k * 5 + 3, none⟩ = some (.int .i64 G[k].amber) ∧ X.cell? ⟨g, o + k * 5 + 4, none⟩ = some (.int .i64 G[k].lead) := fun X hX => ⟨(hX.cell (p := ⟨g, _, none⟩) hg).trans (P k hlt 0 _ rfl), (hX.cell (p := ⟨g, _, none⟩) hg).trans (P k hlt 1 _ rfl), (hX.cell (p := ⟨g, _, none⟩) hg).trans (P k hlt 2 _ rfl), (hX.cell (p := ⟨g, _, none⟩) hg).trans (P k hlt 3 _ rfl), (hX.cell (p := ⟨g, _, none⟩) hg).trans (P k hlt 4 _ rfl)⟩
        have hW := fun (X : World) => within7_any A[k] 0 3 X
        have hs' := hs.out
        rw [fitsF_step G A I W k hlt lA' lI' lW', show fitB G[k] A[k] I[k] W[k] = fitB ⟨G[k].name, G[k].sort, G[k].min, G[k].amber, G[k].lead⟩ A[k] I[k] W[k] from rfl] at hs'
        have hc := conv32 (okI _ (List.getElem_mem lI'))
        have t0 : (0 : Int) ≤ (k : Int) := by omega
        have t1 : (k : Int) < (G.length : Int) := by omega
        have t2 : k + 1 ≤ G.length := hlt
        have tA : (k : Int) < (A.length : Int) := by omega
        have tI : (k : Int) < (I.length : Int) := by omega
        have tW : (k : Int) < (W.length : Int) := by omega
        generalize A[k] = ya at *
        generalize I[k] = yi at *
        generalize W[k] = yw at *
        generalize G[k].name = x0 at *
        generalize G[k].sort = x1 at *
        generalize G[k].min = x2 at *
        generalize G[k].amber = x3 at *
        generalize G[k].lead = x4 at *
        clear P PA PI PW kG kA kI kW hs hcf okI
        cases d0 : inB ya 0 3 with
        | false =>
          rw [d0] at hW
          have eV : fitB ⟨x0, x1, x2, x3, x4⟩ ya yi yw = false := by unfold inB at d0; simp at d0; unfold fitB; simp; omega
          have hR : R = false := by rw [← hs', eV]; simp
          subst hR
          clear hs' eV
          go_upto_region 7 with fail
          refine wp_region_noPanic ?_
          refine wp_region_held_drew (S := fun w' => (w'.cell? ⟨w.heap.size + 1, 0, none⟩ = some (.slice (some ⟨gA, oA, none⟩) A.length cA) ∧ w'.cell? ⟨w.heap.size + 1, 1, none⟩ = some (.slice (some ⟨gI, oI, none⟩) I.length cI) ∧ w'.cell? ⟨w.heap.size + 1, 2, none⟩ = some (.slice (some ⟨gW, oW, none⟩) W.length cW)) ∧ (w'.cell? ⟨gA, oA + k, none⟩ = some (.int .i64 ya) ∧ w'.cell? ⟨gI, oI + k, none⟩ = some (.int .i32 yi) ∧ w'.cell? ⟨gW, oW + k, none⟩ = some (.int .i32 yw))) (by kernel_rfl) ?_ (fun hHeld => ?_)
          · (try dsimp only)
            exact ⟨has3 B1.out.drew, hP _ hb.out.drew⟩
          (refine tkH (i := 0) (oi := { dst := some 41, op := Op.fieldAddr 29 (Operand.tmp 3) 0, type := 0, pos := "heads.go:88", after := #[], guard := none }) (v := ?_) rfl (by kernel_rfl) (Or.inl ⟨by rfl, ?_⟩) (by assumption) ?_; rotate_left; focus (intro wz hSz; (try dsimp only at hSz); go_simp; all_goals (with_reducible rfl)))
          (try simp only [Act.put, List.setIfInBounds_toArray, List.set_cons_zero, List.set_cons_succ])
          (refine tkH (i := 1) (oi := { dst := some 42, op := Op.load 26 (Operand.tmp 41), type := 26, pos := "heads.go:88", after := #[{ on := 0, ground := Ground.data }], guard := none }) (v := ?_) rfl (by kernel_rfl) (Or.inl ⟨by rfl, ?_⟩) (by assumption) ?_; rotate_left; focus (intro wz hSz; (try dsimp only at hSz); go_simp; all_goals (with_reducible rfl)))
          (try simp only [Act.put, List.setIfInBounds_toArray, List.set_cons_zero, List.set_cons_succ])
          (refine tkH (i := 2) (oi := { dst := some 43, op := Op.move (Operand.tmp 6), type := 3, pos := "heads.go:88", after := #[], guard := none }) (v := ?_) rfl (by kernel_rfl) (Or.inl ⟨by rfl, ?_⟩) (by assumption) ?_; rotate_left; focus (intro wz hSz; (try dsimp only at hSz); go_simp; all_goals (with_reducible rfl)))
          (try simp only [Act.put, List.setIfInBounds_toArray, List.set_cons_zero, List.set_cons_succ])
          (refine tkH (i := 3) (oi := { dst := some 44, op := Op.indexAddr 26 (Operand.tmp 42) (Operand.tmp 43), type := 0, pos := "heads.go:88", after := #[{ on := 1, ground := Ground.data }, { on := 2, ground := Ground.data }], guard := none }) (v := ?_) rfl (by kernel_rfl) (Or.inl ⟨by rfl, ?_⟩) (by assumption) ?_; rotate_left; focus (intro wz hSz; (try dsimp only at hSz); go_simp; all_goals (with_reducible rfl)))
          (try simp only [Act.put, List.setIfInBounds_toArray, List.set_cons_zero, List.set_cons_succ])
          (refine tkH (i := 4) (oi := { dst := some 45, op := Op.load 3 (Operand.tmp 44), type := 3, pos := "heads.go:88", after := #[{ on := 3, ground := Ground.data }], guard := none }) (v := ?_) rfl (by kernel_rfl) (Or.inl ⟨by rfl, ?_⟩) (by assumption) ?_; rotate_left; focus (intro wz hSz; (try dsimp only at hSz); go_simp; all_goals (with_reducible rfl)))
          (try simp only [Act.put, List.setIfInBounds_toArray, List.set_cons_zero, List.set_cons_succ])
          refine wpAnyH_ready (rs := [5]) (by kernel_rfl) (by simp) ?_
          refine AllReadyH.cons (o := { dst := some 46, op := Op.call { callee := Callee.value (Operand.func 39), args := #[Operand.tmp 45, Operand.const (Value.int IntKind.i64 0), Operand.const (Value.int IntKind.i64 3)], argTypes := #[3, 3, 3] }, type := 4, pos := "heads.go:88", after := #[{ on := 4, ground := Ground.data }], guard := none }) rfl (fun K hK => ?_) AllReadyH.nil
          go_simp
          (go_at_call 39; (with_reducible refine Calls.mono (hW _) ?_); rintro e w2 ⟨rfl, rfl⟩)
          go_wp2_with fail
          refine hK.out _ _ ?_ (fun hHeld => ?_)
          · (try dsimp only)
            exact ⟨has3 B1.out.drew, hP _ hb.out.drew⟩
          clear hK K
          (try simp only [Act.put, List.setIfInBounds_toArray, List.set_cons_zero, List.set_cons_succ])
          (refine tkH (i := 6) (oi := { dst := some 47, op := Op.unOp UnOp.not 4 (Operand.tmp 46), type := 4, pos := "heads.go:88", after := #[{ on := 5, ground := Ground.data }], guard := none }) (v := ?_) rfl (by kernel_rfl) (Or.inl ⟨by rfl, ?_⟩) (by assumption) ?_; rotate_left; focus (intro wz hSz; (try dsimp only at hSz); go_simp; all_goals (with_reducible rfl)))
          (try simp only [Act.put, List.setIfInBounds_toArray, List.set_cons_zero, List.set_cons_succ])
          (refine tkH (i := 7) (oi := { dst := some 48, op := Op.move (Operand.tmp 47), type := 4, pos := "heads.go:88", after := #[{ on := 6, ground := Ground.data }, { on := 5, ground := Ground.chain }], guard := none }) (v := ?_) rfl (by kernel_rfl) (Or.inl ⟨by rfl, ?_⟩) (by assumption) ?_; rotate_left; focus (intro wz hSz; (try dsimp only at hSz); go_simp; all_goals (with_reducible rfl)))
          (try simp only [Act.put, List.setIfInBounds_toArray, List.set_cons_zero, List.set_cons_succ])
          refine tkH (i := 8) (oi := { dst := some 49, op := Op.fieldAddr 29 (Operand.tmp 3) 1, type := 0, pos := "heads.go:88", after := #[{ on := 7, ground := Ground.guard }], guard := some (7, false) }) (v := undef) rfl (by kernel_rfl) (Or.inr ⟨by rfl, rfl⟩) (by assumption) ?_
          (try simp only [Act.put, List.setIfInBounds_toArray, List.set_cons_zero, List.set_cons_succ])
          refine tkH (i := 9) (oi := { dst := some 50, op := Op.load 27 (Operand.tmp 49), type := 27, pos := "heads.go:88", after := #[{ on := 8, ground := Ground.data }, { on := 7, ground := Ground.guard }], guard := some (7, false) }) (v := undef) rfl (by kernel_rfl) (Or.inr ⟨by rfl, rfl⟩) (by assumption) ?_
          (try simp only [Act.put, List.setIfInBounds_toArray, List.set_cons_zero, List.set_cons_succ])
          refine tkH (i := 10) (oi := { dst := some 51, op := Op.move (Operand.tmp 6), type := 3, pos := "heads.go:88", after := #[{ on := 7, ground := Ground.guard }], guard := some (7, false) }) (v := undef) rfl (by kernel_rfl) (Or.inr ⟨by rfl, rfl⟩) (by assumption) ?_
          (try simp only [Act.put, List.setIfInBounds_toArray, List.set_cons_zero, List.set_cons_succ])
          refine tkH (i := 11) (oi := { dst := some 52, op := Op.indexAddr 27 (Operand.tmp 50) (Operand.tmp 51), type := 0, pos := "heads.go:88", after := #[{ on := 9, ground := Ground.data }, { on := 10, ground := Ground.data }, { on := 7, ground := Ground.guard }], guard := some (7, false) }) (v := undef) rfl (by kernel_rfl) (Or.inr ⟨by rfl, rfl⟩) (by assumption) ?_
          (try simp only [Act.put, List.setIfInBounds_toArray, List.set_cons_zero, List.set_cons_succ])
          refine tkH (i := 12) (oi := { dst := some 53, op := Op.load 21 (Operand.tmp 52), type := 21, pos := "heads.go:88", after := #[{ on := 11, ground := Ground.data }, { on := 7, ground := Ground.guard }], guard := some (7, false) }) (v := undef) rfl (by kernel_rfl) (Or.inr ⟨by rfl, rfl⟩) (by assumption) ?_
          (try simp only [Act.put, List.setIfInBounds_toArray, List.set_cons_zero, List.set_cons_succ])
          refine tkH (i := 13) (oi := { dst := some 54, op := Op.binOp BinOp.lss 21 (Operand.tmp 53) (Operand.const (Value.int IntKind.i32 1)) 21, type := 4, pos := "heads.go:88", after := #[{ on := 12, ground := Ground.data }, { on := 7, ground := Ground.guard }], guard := some (7, false) }) (v := undef) rfl (by kernel_rfl) (Or.inr ⟨by rfl, rfl⟩) (by assumption) ?_
          (try simp only [Act.put, List.setIfInBounds_toArray, List.set_cons_zero, List.set_cons_succ])
          (refine tkH (i := 14) (oi := { dst := some 55, op := Op.pick (Operand.tmp 48) (Operand.const (Value.bool true)) (Operand.tmp 54), type := 4, pos := "heads.go:88", after := #[{ on := 7, ground := Ground.data }, { on := 13, ground := Ground.data }], guard := none }) (v := ?_) rfl (by kernel_rfl) (Or.inl ⟨by rfl, ?_⟩) (by assumption) ?_; rotate_left; focus (intro wz hSz; (try dsimp only at hSz); go_simp; all_goals (with_reducible rfl)))
          (try simp only [Act.put, List.setIfInBounds_toArray, List.set_cons_zero, List.set_cons_succ])
          (refine tkH (i := 15) (oi := { dst := some 56, op := Op.move (Operand.tmp 55), type := 4, pos := "heads.go:88", after := #[{ on := 14, ground := Ground.data }, { on := 7, ground := Ground.chain }], guard := none }) (v := ?_) rfl (by kernel_rfl) (Or.inl ⟨by rfl, ?_⟩) (by assumption) ?_; rotate_left; focus (intro wz hSz; (try dsimp only at hSz); go_simp; all_goals (with_reducible rfl)))
          (try simp only [Act.put, List.setIfInBounds_toArray, List.set_cons_zero, List.set_cons_succ])
          refine tkH (i := 16) (oi := { dst := some 57, op := Op.fieldAddr 29 (Operand.tmp 3) 2, type := 0, pos := "heads.go:88", after := #[{ on := 15, ground := Ground.guard }], guard := some (15, false) }) (v := undef) rfl (by kernel_rfl) (Or.inr ⟨by rfl, rfl⟩) (by assumption) ?_
          (try simp only [Act.put, List.setIfInBounds_toArray, List.set_cons_zero, List.set_cons_succ])
          refine tkH (i := 17) (oi := { dst := some 58, op := Op.load 27 (Operand.tmp 57), type := 27, pos := "heads.go:88", after := #[{ on := 16, ground := Ground.data }, { on := 15, ground := Ground.guard }], guard := some (15, false) }) (v := undef) rfl (by kernel_rfl) (Or.inr ⟨by rfl, rfl⟩) (by assumption) ?_
          (try simp only [Act.put, List.setIfInBounds_toArray, List.set_cons_zero, List.set_cons_succ])
          refine tkH (i := 18) (oi := { dst := some 59, op := Op.move (Operand.tmp 6), type := 3, pos := "heads.go:88", after := #[{ on := 15, ground := Ground.guard }], guard := some (15, false) }) (v := undef) rfl (by kernel_rfl) (Or.inr ⟨by rfl, rfl⟩) (by assumption) ?_
          (try simp only [Act.put, List.setIfInBounds_toArray, List.set_cons_zero, List.set_cons_succ])
          refine tkH (i := 19) (oi := { dst := some 60, op := Op.indexAddr 27 (Operand.tmp 58) (Operand.tmp 59), type := 0, pos := "heads.go:88", after := #[{ on := 17, ground := Ground.data }, { on := 18, ground := Ground.data }, { on := 15, ground := Ground.guard }], guard := some (15, false) }) (v := undef) rfl (by kernel_rfl) (Or.inr ⟨by rfl, rfl⟩) (by assumption) ?_
          (try simp only [Act.put, List.setIfInBounds_toArray, List.set_cons_zero, List.set_cons_succ])
          refine tkH (i := 20) (oi := { dst := some 61, op := Op.load 21 (Operand.tmp 60), type := 21, pos := "heads.go:88", after := #[{ on := 19, ground := Ground.data }, { on := 15, ground := Ground.guard }], guard := some (15, false) }) (v := undef) rfl (by kernel_rfl) (Or.inr ⟨by rfl, rfl⟩) (by assumption) ?_
          (try simp only [Act.put, List.setIfInBounds_toArray, List.set_cons_zero, List.set_cons_succ])
          refine tkH (i := 21) (oi := { dst := some 62, op := Op.binOp BinOp.lss 21 (Operand.tmp 61) (Operand.const (Value.int IntKind.i32 0)) 21, type := 4, pos := "heads.go:88", after := #[{ on := 20, ground := Ground.data }, { on := 15, ground := Ground.guard }], guard := some (15, false) }) (v := undef) rfl (by kernel_rfl) (Or.inr ⟨by rfl, rfl⟩) (by assumption) ?_
          (try simp only [Act.put, List.setIfInBounds_toArray, List.set_cons_zero, List.set_cons_succ])
          (refine tkH (i := 22) (oi := { dst := some 63, op := Op.pick (Operand.tmp 56) (Operand.const (Value.bool true)) (Operand.tmp 62), type := 4, pos := "heads.go:88", after := #[{ on := 15, ground := Ground.data }, { on := 21, ground := Ground.data }], guard := none }) (v := ?_) rfl (by kernel_rfl) (Or.inl ⟨by rfl, ?_⟩) (by assumption) ?_; rotate_left; focus (intro wz hSz; (try dsimp only at hSz); go_simp; all_goals (with_reducible rfl)))
          (try simp only [Act.put, List.setIfInBounds_toArray, List.set_cons_zero, List.set_cons_succ])
          (refine tkH (i := 23) (oi := { dst := some 64, op := Op.move (Operand.tmp 63), type := 4, pos := "heads.go:88", after := #[{ on := 22, ground := Ground.data }, { on := 15, ground := Ground.chain }], guard := none }) (v := ?_) rfl (by kernel_rfl) (Or.inl ⟨by rfl, ?_⟩) (by assumption) ?_; rotate_left; focus (intro wz hSz; (try dsimp only at hSz); go_simp; all_goals (with_reducible rfl)))
          (try simp only [Act.put, List.setIfInBounds_toArray, List.set_cons_zero, List.set_cons_succ])
          refine tkH (i := 24) (oi := { dst := some 65, op := Op.fieldAddr 29 (Operand.tmp 3) 2, type := 0, pos := "heads.go:88", after := #[{ on := 23, ground := Ground.guard }], guard := some (23, false) }) (v := undef) rfl (by kernel_rfl) (Or.inr ⟨by rfl, rfl⟩) (by assumption) ?_
          (try simp only [Act.put, List.setIfInBounds_toArray, List.set_cons_zero, List.set_cons_succ])
          refine tkH (i := 25) (oi := { dst := some 66, op := Op.load 27 (Operand.tmp 65), type := 27, pos := "heads.go:88", after := #[{ on := 24, ground := Ground.data }, { on := 23, ground := Ground.guard }], guard := some (23, false) }) (v := undef) rfl (by kernel_rfl) (Or.inr ⟨by rfl, rfl⟩) (by assumption) ?_
          (try simp only [Act.put, List.setIfInBounds_toArray, List.set_cons_zero, List.set_cons_succ])
          refine tkH (i := 26) (oi := { dst := some 67, op := Op.move (Operand.tmp 6), type := 3, pos := "heads.go:88", after := #[{ on := 23, ground := Ground.guard }], guard := some (23, false) }) (v := undef) rfl (by kernel_rfl) (Or.inr ⟨by rfl, rfl⟩) (by assumption) ?_
          (try simp only [Act.put, List.setIfInBounds_toArray, List.set_cons_zero, List.set_cons_succ])
          refine tkH (i := 27) (oi := { dst := some 68, op := Op.indexAddr 27 (Operand.tmp 66) (Operand.tmp 67), type := 0, pos := "heads.go:88", after := #[{ on := 25, ground := Ground.data }, { on := 26, ground := Ground.data }, { on := 23, ground := Ground.guard }], guard := some (23, false) }) (v := undef) rfl (by kernel_rfl) (Or.inr ⟨by rfl, rfl⟩) (by assumption) ?_
          (try simp only [Act.put, List.setIfInBounds_toArray, List.set_cons_zero, List.set_cons_succ])
          refine tkH (i := 28) (oi := { dst := some 69, op := Op.load 21 (Operand.tmp 68), type := 21, pos := "heads.go:88", after := #[{ on := 27, ground := Ground.data }, { on := 23, ground := Ground.guard }], guard := some (23, false) }) (v := undef) rfl (by kernel_rfl) (Or.inr ⟨by rfl, rfl⟩) (by assumption) ?_
          (try simp only [Act.put, List.setIfInBounds_toArray, List.set_cons_zero, List.set_cons_succ])
          refine tkH (i := 29) (oi := { dst := some 70, op := Op.binOp BinOp.eql 21 (Operand.tmp 69) (Operand.const (Value.int IntKind.i32 0)) 21, type := 4, pos := "heads.go:88", after := #[{ on := 28, ground := Ground.data }, { on := 23, ground := Ground.guard }], guard := some (23, false) }) (v := undef) rfl (by kernel_rfl) (Or.inr ⟨by rfl, rfl⟩) (by assumption) ?_
          (try simp only [Act.put, List.setIfInBounds_toArray, List.set_cons_zero, List.set_cons_succ])
          refine tkH (i := 30) (oi := { dst := some 71, op := Op.fieldAddr 29 (Operand.tmp 3) 0, type := 0, pos := "heads.go:88", after := #[{ on := 23, ground := Ground.guard }], guard := some (23, false) }) (v := undef) rfl (by kernel_rfl) (Or.inr ⟨by rfl, rfl⟩) (by assumption) ?_
          (try simp only [Act.put, List.setIfInBounds_toArray, List.set_cons_zero, List.set_cons_succ])
          refine tkH (i := 31) (oi := { dst := some 72, op := Op.load 26 (Operand.tmp 71), type := 26, pos := "heads.go:88", after := #[{ on := 30, ground := Ground.data }, { on := 23, ground := Ground.guard }], guard := some (23, false) }) (v := undef) rfl (by kernel_rfl) (Or.inr ⟨by rfl, rfl⟩) (by assumption) ?_
          (try simp only [Act.put, List.setIfInBounds_toArray, List.set_cons_zero, List.set_cons_succ])
          refine tkH (i := 32) (oi := { dst := some 73, op := Op.move (Operand.tmp 6), type := 3, pos := "heads.go:88", after := #[{ on := 23, ground := Ground.guard }], guard := some (23, false) }) (v := undef) rfl (by kernel_rfl) (Or.inr ⟨by rfl, rfl⟩) (by assumption) ?_
          (try simp only [Act.put, List.setIfInBounds_toArray, List.set_cons_zero, List.set_cons_succ])
          refine tkH (i := 33) (oi := { dst := some 74, op := Op.indexAddr 26 (Operand.tmp 72) (Operand.tmp 73), type := 0, pos := "heads.go:88", after := #[{ on := 31, ground := Ground.data }, { on := 32, ground := Ground.data }, { on := 23, ground := Ground.guard }], guard := some (23, false) }) (v := undef) rfl (by kernel_rfl) (Or.inr ⟨by rfl, rfl⟩) (by assumption) ?_
          (try simp only [Act.put, List.setIfInBounds_toArray, List.set_cons_zero, List.set_cons_succ])
          refine tkH (i := 34) (oi := { dst := some 75, op := Op.load 3 (Operand.tmp 74), type := 3, pos := "heads.go:88", after := #[{ on := 33, ground := Ground.data }, { on := 23, ground := Ground.guard }], guard := some (23, false) }) (v := undef) rfl (by kernel_rfl) (Or.inr ⟨by rfl, rfl⟩) (by assumption) ?_
          (try simp only [Act.put, List.setIfInBounds_toArray, List.set_cons_zero, List.set_cons_succ])
          refine tkH (i := 35) (oi := { dst := some 76, op := Op.binOp BinOp.eql 3 (Operand.tmp 75) (Operand.const (Value.int IntKind.i64 2)) 3, type := 4, pos := "heads.go:88", after := #[{ on := 34, ground := Ground.data }, { on := 23, ground := Ground.guard }], guard := some (23, false) }) (v := undef) rfl (by kernel_rfl) (Or.inr ⟨by rfl, rfl⟩) (by assumption) ?_
          (try simp only [Act.put, List.setIfInBounds_toArray, List.set_cons_zero, List.set_cons_succ])
          refine tkH (i := 36) (oi := { dst := some 77, op := Op.binOp BinOp.neq 4 (Operand.tmp 70) (Operand.tmp 76) 4, type := 4, pos := "heads.go:88", after := #[{ on := 29, ground := Ground.data }, { on := 35, ground := Ground.data }, { on := 23, ground := Ground.guard }], guard := some (23, false) }) (v := undef) rfl (by kernel_rfl) (Or.inr ⟨by rfl, rfl⟩) (by assumption) ?_
          (try simp only [Act.put, List.setIfInBounds_toArray, List.set_cons_zero, List.set_cons_succ])
          (refine tkH (i := 37) (oi := { dst := some 78, op := Op.pick (Operand.tmp 64) (Operand.const (Value.bool true)) (Operand.tmp 77), type := 4, pos := "heads.go:88", after := #[{ on := 23, ground := Ground.data }, { on := 36, ground := Ground.data }], guard := none }) (v := ?_) rfl (by kernel_rfl) (Or.inl ⟨by rfl, ?_⟩) (by assumption) ?_; rotate_left; focus (intro wz hSz; (try dsimp only at hSz); go_simp; all_goals (with_reducible rfl)))
          (try simp only [Act.put, List.setIfInBounds_toArray, List.set_cons_zero, List.set_cons_succ])
          refine wpAnyH_done (by kernel_rfl) ?_ _
          refine NoPanic.normal ?_
          go_wp2_with fail
          go_ret
          exact ⟨rfl, hb.out.drew⟩
        | true =>
          rw [d0] at hW
          unfold inB at d0
          simp only [Bool.and_eq_true, decide_eq_true_eq] at d0
          by_cases d1 : yi < 1
          · skip
            have eV : fitB ⟨x0, x1, x2, x3, x4⟩ ya yi yw = false := by unfold fitB; simp; omega
            have hR : R = false := by rw [← hs', eV]; simp
            subst hR
            clear hs' eV
            go_upto_region 7 with fail
            refine wp_region_noPanic ?_
            refine wp_region_held_drew (S := fun w' => (w'.cell? ⟨w.heap.size + 1, 0, none⟩ = some (.slice (some ⟨gA, oA, none⟩) A.length cA) ∧ w'.cell? ⟨w.heap.size + 1, 1, none⟩ = some (.slice (some ⟨gI, oI, none⟩) I.length cI) ∧ w'.cell? ⟨w.heap.size + 1, 2, none⟩ = some (.slice (some ⟨gW, oW, none⟩) W.length cW)) ∧ (w'.cell? ⟨gA, oA + k, none⟩ = some (.int .i64 ya) ∧ w'.cell? ⟨gI, oI + k, none⟩ = some (.int .i32 yi) ∧ w'.cell? ⟨gW, oW + k, none⟩ = some (.int .i32 yw))) (by kernel_rfl) ?_ (fun hHeld => ?_)
            · (try dsimp only)
              exact ⟨has3 B1.out.drew, hP _ hb.out.drew⟩
            (refine tkH (i := 0) (oi := { dst := some 41, op := Op.fieldAddr 29 (Operand.tmp 3) 0, type := 0, pos := "heads.go:88", after := #[], guard := none }) (v := ?_) rfl (by kernel_rfl) (Or.inl ⟨by rfl, ?_⟩) (by assumption) ?_; rotate_left; focus (intro wz hSz; (try dsimp only at hSz); go_simp; all_goals (with_reducible rfl)))
            (try simp only [Act.put, List.setIfInBounds_toArray, List.set_cons_zero, List.set_cons_succ])
            (refine tkH (i := 1) (oi := { dst := some 42, op := Op.load 26 (Operand.tmp 41), type := 26, pos := "heads.go:88", after := #[{ on := 0, ground := Ground.data }], guard := none }) (v := ?_) rfl (by kernel_rfl) (Or.inl ⟨by rfl, ?_⟩) (by assumption) ?_; rotate_left; focus (intro wz hSz; (try dsimp only at hSz); go_simp; all_goals (with_reducible rfl)))
            (try simp only [Act.put, List.setIfInBounds_toArray, List.set_cons_zero, List.set_cons_succ])
            (refine tkH (i := 2) (oi := { dst := some 43, op := Op.move (Operand.tmp 6), type := 3, pos := "heads.go:88", after := #[], guard := none }) (v := ?_) rfl (by kernel_rfl) (Or.inl ⟨by rfl, ?_⟩) (by assumption) ?_; rotate_left; focus (intro wz hSz; (try dsimp only at hSz); go_simp; all_goals (with_reducible rfl)))
            (try simp only [Act.put, List.setIfInBounds_toArray, List.set_cons_zero, List.set_cons_succ])
            (refine tkH (i := 3) (oi := { dst := some 44, op := Op.indexAddr 26 (Operand.tmp 42) (Operand.tmp 43), type := 0, pos := "heads.go:88", after := #[{ on := 1, ground := Ground.data }, { on := 2, ground := Ground.data }], guard := none }) (v := ?_) rfl (by kernel_rfl) (Or.inl ⟨by rfl, ?_⟩) (by assumption) ?_; rotate_left; focus (intro wz hSz; (try dsimp only at hSz); go_simp; all_goals (with_reducible rfl)))
            (try simp only [Act.put, List.setIfInBounds_toArray, List.set_cons_zero, List.set_cons_succ])
            (refine tkH (i := 4) (oi := { dst := some 45, op := Op.load 3 (Operand.tmp 44), type := 3, pos := "heads.go:88", after := #[{ on := 3, ground := Ground.data }], guard := none }) (v := ?_) rfl (by kernel_rfl) (Or.inl ⟨by rfl, ?_⟩) (by assumption) ?_; rotate_left; focus (intro wz hSz; (try dsimp only at hSz); go_simp; all_goals (with_reducible rfl)))
            (try simp only [Act.put, List.setIfInBounds_toArray, List.set_cons_zero, List.set_cons_succ])
            refine wpAnyH_ready (rs := [5]) (by kernel_rfl) (by simp) ?_
            refine AllReadyH.cons (o := { dst := some 46, op := Op.call { callee := Callee.value (Operand.func 39), args := #[Operand.tmp 45, Operand.const (Value.int IntKind.i64 0), Operand.const (Value.int IntKind.i64 3)], argTypes := #[3, 3, 3] }, type := 4, pos := "heads.go:88", after := #[{ on := 4, ground := Ground.data }], guard := none }) rfl (fun K hK => ?_) AllReadyH.nil
            go_simp
            (go_at_call 39; (with_reducible refine Calls.mono (hW _) ?_); rintro e w2 ⟨rfl, rfl⟩)
            go_wp2_with fail
            refine hK.out _ _ ?_ (fun hHeld => ?_)
            · (try dsimp only)
              exact ⟨has3 B1.out.drew, hP _ hb.out.drew⟩
            clear hK K
            (try simp only [Act.put, List.setIfInBounds_toArray, List.set_cons_zero, List.set_cons_succ])
            (refine tkH (i := 6) (oi := { dst := some 47, op := Op.unOp UnOp.not 4 (Operand.tmp 46), type := 4, pos := "heads.go:88", after := #[{ on := 5, ground := Ground.data }], guard := none }) (v := ?_) rfl (by kernel_rfl) (Or.inl ⟨by rfl, ?_⟩) (by assumption) ?_; rotate_left; focus (intro wz hSz; (try dsimp only at hSz); go_simp; all_goals (with_reducible rfl)))
            (try simp only [Act.put, List.setIfInBounds_toArray, List.set_cons_zero, List.set_cons_succ])
            (refine tkH (i := 7) (oi := { dst := some 48, op := Op.move (Operand.tmp 47), type := 4, pos := "heads.go:88", after := #[{ on := 6, ground := Ground.data }, { on := 5, ground := Ground.chain }], guard := none }) (v := ?_) rfl (by kernel_rfl) (Or.inl ⟨by rfl, ?_⟩) (by assumption) ?_; rotate_left; focus (intro wz hSz; (try dsimp only at hSz); go_simp; all_goals (with_reducible rfl)))
            (try simp only [Act.put, List.setIfInBounds_toArray, List.set_cons_zero, List.set_cons_succ])
            (refine tkH (i := 8) (oi := { dst := some 49, op := Op.fieldAddr 29 (Operand.tmp 3) 1, type := 0, pos := "heads.go:88", after := #[{ on := 7, ground := Ground.guard }], guard := some (7, false) }) (v := ?_) rfl (by kernel_rfl) (Or.inl ⟨by rfl, ?_⟩) (by assumption) ?_; rotate_left; focus (intro wz hSz; (try dsimp only at hSz); go_simp; all_goals (with_reducible rfl)))
            (try simp only [Act.put, List.setIfInBounds_toArray, List.set_cons_zero, List.set_cons_succ])
            (refine tkH (i := 9) (oi := { dst := some 50, op := Op.load 27 (Operand.tmp 49), type := 27, pos := "heads.go:88", after := #[{ on := 8, ground := Ground.data }, { on := 7, ground := Ground.guard }], guard := some (7, false) }) (v := ?_) rfl (by kernel_rfl) (Or.inl ⟨by rfl, ?_⟩) (by assumption) ?_; rotate_left; focus (intro wz hSz; (try dsimp only at hSz); go_simp; all_goals (with_reducible rfl)))
            (try simp only [Act.put, List.setIfInBounds_toArray, List.set_cons_zero, List.set_cons_succ])
            (refine tkH (i := 10) (oi := { dst := some 51, op := Op.move (Operand.tmp 6), type := 3, pos := "heads.go:88", after := #[{ on := 7, ground := Ground.guard }], guard := some (7, false) }) (v := ?_) rfl (by kernel_rfl) (Or.inl ⟨by rfl, ?_⟩) (by assumption) ?_; rotate_left; focus (intro wz hSz; (try dsimp only at hSz); go_simp; all_goals (with_reducible rfl)))
            (try simp only [Act.put, List.setIfInBounds_toArray, List.set_cons_zero, List.set_cons_succ])
            (refine tkH (i := 11) (oi := { dst := some 52, op := Op.indexAddr 27 (Operand.tmp 50) (Operand.tmp 51), type := 0, pos := "heads.go:88", after := #[{ on := 9, ground := Ground.data }, { on := 10, ground := Ground.data }, { on := 7, ground := Ground.guard }], guard := some (7, false) }) (v := ?_) rfl (by kernel_rfl) (Or.inl ⟨by rfl, ?_⟩) (by assumption) ?_; rotate_left; focus (intro wz hSz; (try dsimp only at hSz); go_simp; all_goals (with_reducible rfl)))
            (try simp only [Act.put, List.setIfInBounds_toArray, List.set_cons_zero, List.set_cons_succ])
            (refine tkH (i := 12) (oi := { dst := some 53, op := Op.load 21 (Operand.tmp 52), type := 21, pos := "heads.go:88", after := #[{ on := 11, ground := Ground.data }, { on := 7, ground := Ground.guard }], guard := some (7, false) }) (v := ?_) rfl (by kernel_rfl) (Or.inl ⟨by rfl, ?_⟩) (by assumption) ?_; rotate_left; focus (intro wz hSz; (try dsimp only at hSz); go_simp; all_goals (with_reducible rfl)))
            (try simp only [Act.put, List.setIfInBounds_toArray, List.set_cons_zero, List.set_cons_succ])
            (refine tkH (i := 13) (oi := { dst := some 54, op := Op.binOp BinOp.lss 21 (Operand.tmp 53) (Operand.const (Value.int IntKind.i32 1)) 21, type := 4, pos := "heads.go:88", after := #[{ on := 12, ground := Ground.data }, { on := 7, ground := Ground.guard }], guard := some (7, false) }) (v := ?_) rfl (by kernel_rfl) (Or.inl ⟨by rfl, ?_⟩) (by assumption) ?_; rotate_left; focus (intro wz hSz; (try dsimp only at hSz); go_simp; all_goals (with_reducible rfl)))
            (try simp only [Act.put, List.setIfInBounds_toArray, List.set_cons_zero, List.set_cons_succ])
            (refine tkH (i := 14) (oi := { dst := some 55, op := Op.pick (Operand.tmp 48) (Operand.const (Value.bool true)) (Operand.tmp 54), type := 4, pos := "heads.go:88", after := #[{ on := 7, ground := Ground.data }, { on := 13, ground := Ground.data }], guard := none }) (v := ?_) rfl (by kernel_rfl) (Or.inl ⟨by rfl, ?_⟩) (by assumption) ?_; rotate_left; focus (intro wz hSz; (try dsimp only at hSz); go_simp; all_goals (with_reducible rfl)))
            (try simp only [Act.put, List.setIfInBounds_toArray, List.set_cons_zero, List.set_cons_succ])
            (refine tkH (i := 15) (oi := { dst := some 56, op := Op.move (Operand.tmp 55), type := 4, pos := "heads.go:88", after := #[{ on := 14, ground := Ground.data }, { on := 7, ground := Ground.chain }], guard := none }) (v := ?_) rfl (by kernel_rfl) (Or.inl ⟨by rfl, ?_⟩) (by assumption) ?_; rotate_left; focus (intro wz hSz; (try dsimp only at hSz); go_simp; all_goals (with_reducible rfl)))
            (try simp only [Act.put, List.setIfInBounds_toArray, List.set_cons_zero, List.set_cons_succ])
            refine tkH (i := 16) (oi := { dst := some 57, op := Op.fieldAddr 29 (Operand.tmp 3) 2, type := 0, pos := "heads.go:88", after := #[{ on := 15, ground := Ground.guard }], guard := some (15, false) }) (v := undef) rfl (by kernel_rfl) (Or.inr ⟨by rfl, rfl⟩) (by assumption) ?_
            (try simp only [Act.put, List.setIfInBounds_toArray, List.set_cons_zero, List.set_cons_succ])
            refine tkH (i := 17) (oi := { dst := some 58, op := Op.load 27 (Operand.tmp 57), type := 27, pos := "heads.go:88", after := #[{ on := 16, ground := Ground.data }, { on := 15, ground := Ground.guard }], guard := some (15, false) }) (v := undef) rfl (by kernel_rfl) (Or.inr ⟨by rfl, rfl⟩) (by assumption) ?_
            (try simp only [Act.put, List.setIfInBounds_toArray, List.set_cons_zero, List.set_cons_succ])
            refine tkH (i := 18) (oi := { dst := some 59, op := Op.move (Operand.tmp 6), type := 3, pos := "heads.go:88", after := #[{ on := 15, ground := Ground.guard }], guard := some (15, false) }) (v := undef) rfl (by kernel_rfl) (Or.inr ⟨by rfl, rfl⟩) (by assumption) ?_
            (try simp only [Act.put, List.setIfInBounds_toArray, List.set_cons_zero, List.set_cons_succ])
            refine tkH (i := 19) (oi := { dst := some 60, op := Op.indexAddr 27 (Operand.tmp 58) (Operand.tmp 59), type := 0, pos := "heads.go:88", after := #[{ on := 17, ground := Ground.data }, { on := 18, ground := Ground.data }, { on := 15, ground := Ground.guard }], guard := some (15, false) }) (v := undef) rfl (by kernel_rfl) (Or.inr ⟨by rfl, rfl⟩) (by assumption) ?_
            (try simp only [Act.put, List.setIfInBounds_toArray, List.set_cons_zero, List.set_cons_succ])
            refine tkH (i := 20) (oi := { dst := some 61, op := Op.load 21 (Operand.tmp 60), type := 21, pos := "heads.go:88", after := #[{ on := 19, ground := Ground.data }, { on := 15, ground := Ground.guard }], guard := some (15, false) }) (v := undef) rfl (by kernel_rfl) (Or.inr ⟨by rfl, rfl⟩) (by assumption) ?_
            (try simp only [Act.put, List.setIfInBounds_toArray, List.set_cons_zero, List.set_cons_succ])
            refine tkH (i := 21) (oi := { dst := some 62, op := Op.binOp BinOp.lss 21 (Operand.tmp 61) (Operand.const (Value.int IntKind.i32 0)) 21, type := 4, pos := "heads.go:88", after := #[{ on := 20, ground := Ground.data }, { on := 15, ground := Ground.guard }], guard := some (15, false) }) (v := undef) rfl (by kernel_rfl) (Or.inr ⟨by rfl, rfl⟩) (by assumption) ?_
            (try simp only [Act.put, List.setIfInBounds_toArray, List.set_cons_zero, List.set_cons_succ])
            (refine tkH (i := 22) (oi := { dst := some 63, op := Op.pick (Operand.tmp 56) (Operand.const (Value.bool true)) (Operand.tmp 62), type := 4, pos := "heads.go:88", after := #[{ on := 15, ground := Ground.data }, { on := 21, ground := Ground.data }], guard := none }) (v := ?_) rfl (by kernel_rfl) (Or.inl ⟨by rfl, ?_⟩) (by assumption) ?_; rotate_left; focus (intro wz hSz; (try dsimp only at hSz); go_simp; all_goals (with_reducible rfl)))
            (try simp only [Act.put, List.setIfInBounds_toArray, List.set_cons_zero, List.set_cons_succ])
            (refine tkH (i := 23) (oi := { dst := some 64, op := Op.move (Operand.tmp 63), type := 4, pos := "heads.go:88", after := #[{ on := 22, ground := Ground.data }, { on := 15, ground := Ground.chain }], guard := none }) (v := ?_) rfl (by kernel_rfl) (Or.inl ⟨by rfl, ?_⟩) (by assumption) ?_; rotate_left; focus (intro wz hSz; (try dsimp only at hSz); go_simp; all_goals (with_reducible rfl)))
            (try simp only [Act.put, List.setIfInBounds_toArray, List.set_cons_zero, List.set_cons_succ])
            refine tkH (i := 24) (oi := { dst := some 65, op := Op.fieldAddr 29 (Operand.tmp 3) 2, type := 0, pos := "heads.go:88", after := #[{ on := 23, ground := Ground.guard }], guard := some (23, false) }) (v := undef) rfl (by kernel_rfl) (Or.inr ⟨by rfl, rfl⟩) (by assumption) ?_
            (try simp only [Act.put, List.setIfInBounds_toArray, List.set_cons_zero, List.set_cons_succ])
            refine tkH (i := 25) (oi := { dst := some 66, op := Op.load 27 (Operand.tmp 65), type := 27, pos := "heads.go:88", after := #[{ on := 24, ground := Ground.data }, { on := 23, ground := Ground.guard }], guard := some (23, false) }) (v := undef) rfl (by kernel_rfl) (Or.inr ⟨by rfl, rfl⟩) (by assumption) ?_
            (try simp only [Act.put, List.setIfInBounds_toArray, List.set_cons_zero, List.set_cons_succ])
            refine tkH (i := 26) (oi := { dst := some 67, op := Op.move (Operand.tmp 6), type := 3, pos := "heads.go:88", after := #[{ on := 23, ground := Ground.guard }], guard := some (23, false) }) (v := undef) rfl (by kernel_rfl) (Or.inr ⟨by rfl, rfl⟩) (by assumption) ?_
            (try simp only [Act.put, List.setIfInBounds_toArray, List.set_cons_zero, List.set_cons_succ])
            refine tkH (i := 27) (oi := { dst := some 68, op := Op.indexAddr 27 (Operand.tmp 66) (Operand.tmp 67), type := 0, pos := "heads.go:88", after := #[{ on := 25, ground := Ground.data }, { on := 26, ground := Ground.data }, { on := 23, ground := Ground.guard }], guard := some (23, false) }) (v := undef) rfl (by kernel_rfl) (Or.inr ⟨by rfl, rfl⟩) (by assumption) ?_
            (try simp only [Act.put, List.setIfInBounds_toArray, List.set_cons_zero, List.set_cons_succ])
            refine tkH (i := 28) (oi := { dst := some 69, op := Op.load 21 (Operand.tmp 68), type := 21, pos := "heads.go:88", after := #[{ on := 27, ground := Ground.data }, { on := 23, ground := Ground.guard }], guard := some (23, false) }) (v := undef) rfl (by kernel_rfl) (Or.inr ⟨by rfl, rfl⟩) (by assumption) ?_
            (try simp only [Act.put, List.setIfInBounds_toArray, List.set_cons_zero, List.set_cons_succ])
            refine tkH (i := 29) (oi := { dst := some 70, op := Op.binOp BinOp.eql 21 (Operand.tmp 69) (Operand.const (Value.int IntKind.i32 0)) 21, type := 4, pos := "heads.go:88", after := #[{ on := 28, ground := Ground.data }, { on := 23, ground := Ground.guard }], guard := some (23, false) }) (v := undef) rfl (by kernel_rfl) (Or.inr ⟨by rfl, rfl⟩) (by assumption) ?_
            (try simp only [Act.put, List.setIfInBounds_toArray, List.set_cons_zero, List.set_cons_succ])
            refine tkH (i := 30) (oi := { dst := some 71, op := Op.fieldAddr 29 (Operand.tmp 3) 0, type := 0, pos := "heads.go:88", after := #[{ on := 23, ground := Ground.guard }], guard := some (23, false) }) (v := undef) rfl (by kernel_rfl) (Or.inr ⟨by rfl, rfl⟩) (by assumption) ?_
            (try simp only [Act.put, List.setIfInBounds_toArray, List.set_cons_zero, List.set_cons_succ])
            refine tkH (i := 31) (oi := { dst := some 72, op := Op.load 26 (Operand.tmp 71), type := 26, pos := "heads.go:88", after := #[{ on := 30, ground := Ground.data }, { on := 23, ground := Ground.guard }], guard := some (23, false) }) (v := undef) rfl (by kernel_rfl) (Or.inr ⟨by rfl, rfl⟩) (by assumption) ?_
            (try simp only [Act.put, List.setIfInBounds_toArray, List.set_cons_zero, List.set_cons_succ])
            refine tkH (i := 32) (oi := { dst := some 73, op := Op.move (Operand.tmp 6), type := 3, pos := "heads.go:88", after := #[{ on := 23, ground := Ground.guard }], guard := some (23, false) }) (v := undef) rfl (by kernel_rfl) (Or.inr ⟨by rfl, rfl⟩) (by assumption) ?_
            (try simp only [Act.put, List.setIfInBounds_toArray, List.set_cons_zero, List.set_cons_succ])
            refine tkH (i := 33) (oi := { dst := some 74, op := Op.indexAddr 26 (Operand.tmp 72) (Operand.tmp 73), type := 0, pos := "heads.go:88", after := #[{ on := 31, ground := Ground.data }, { on := 32, ground := Ground.data }, { on := 23, ground := Ground.guard }], guard := some (23, false) }) (v := undef) rfl (by kernel_rfl) (Or.inr ⟨by rfl, rfl⟩) (by assumption) ?_
            (try simp only [Act.put, List.setIfInBounds_toArray, List.set_cons_zero, List.set_cons_succ])
            refine tkH (i := 34) (oi := { dst := some 75, op := Op.load 3 (Operand.tmp 74), type := 3, pos := "heads.go:88", after := #[{ on := 33, ground := Ground.data }, { on := 23, ground := Ground.guard }], guard := some (23, false) }) (v := undef) rfl (by kernel_rfl) (Or.inr ⟨by rfl, rfl⟩) (by assumption) ?_
            (try simp only [Act.put, List.setIfInBounds_toArray, List.set_cons_zero, List.set_cons_succ])
            refine tkH (i := 35) (oi := { dst := some 76, op := Op.binOp BinOp.eql 3 (Operand.tmp 75) (Operand.const (Value.int IntKind.i64 2)) 3, type := 4, pos := "heads.go:88", after := #[{ on := 34, ground := Ground.data }, { on := 23, ground := Ground.guard }], guard := some (23, false) }) (v := undef) rfl (by kernel_rfl) (Or.inr ⟨by rfl, rfl⟩) (by assumption) ?_
            (try simp only [Act.put, List.setIfInBounds_toArray, List.set_cons_zero, List.set_cons_succ])
            refine tkH (i := 36) (oi := { dst := some 77, op := Op.binOp BinOp.neq 4 (Operand.tmp 70) (Operand.tmp 76) 4, type := 4, pos := "heads.go:88", after := #[{ on := 29, ground := Ground.data }, { on := 35, ground := Ground.data }, { on := 23, ground := Ground.guard }], guard := some (23, false) }) (v := undef) rfl (by kernel_rfl) (Or.inr ⟨by rfl, rfl⟩) (by assumption) ?_
            (try simp only [Act.put, List.setIfInBounds_toArray, List.set_cons_zero, List.set_cons_succ])
            (refine tkH (i := 37) (oi := { dst := some 78, op := Op.pick (Operand.tmp 64) (Operand.const (Value.bool true)) (Operand.tmp 77), type := 4, pos := "heads.go:88", after := #[{ on := 23, ground := Ground.data }, { on := 36, ground := Ground.data }], guard := none }) (v := ?_) rfl (by kernel_rfl) (Or.inl ⟨by rfl, ?_⟩) (by assumption) ?_; rotate_left; focus (intro wz hSz; (try dsimp only at hSz); go_simp; all_goals (with_reducible rfl)))
            (try simp only [Act.put, List.setIfInBounds_toArray, List.set_cons_zero, List.set_cons_succ])
            refine wpAnyH_done (by kernel_rfl) ?_ _
            refine NoPanic.normal ?_
            go_wp2_with fail
            go_ret
            exact ⟨rfl, hb.out.drew⟩
          · have D1 : decide (yi < 1) = false := decide_eq_false d1
            have q1 : 1 ≤ yi := by omega
            by_cases d2 : yw < 0
            · skip
              have eV : fitB ⟨x0, x1, x2, x3, x4⟩ ya yi yw = false := by unfold fitB; simp; omega
              have hR : R = false := by rw [← hs', eV]; simp
              subst hR
              clear hs' eV
              go_upto_region 7 with fail
              refine wp_region_noPanic ?_
              refine wp_region_held_drew (S := fun w' => (w'.cell? ⟨w.heap.size + 1, 0, none⟩ = some (.slice (some ⟨gA, oA, none⟩) A.length cA) ∧ w'.cell? ⟨w.heap.size + 1, 1, none⟩ = some (.slice (some ⟨gI, oI, none⟩) I.length cI) ∧ w'.cell? ⟨w.heap.size + 1, 2, none⟩ = some (.slice (some ⟨gW, oW, none⟩) W.length cW)) ∧ (w'.cell? ⟨gA, oA + k, none⟩ = some (.int .i64 ya) ∧ w'.cell? ⟨gI, oI + k, none⟩ = some (.int .i32 yi) ∧ w'.cell? ⟨gW, oW + k, none⟩ = some (.int .i32 yw))) (by kernel_rfl) ?_ (fun hHeld => ?_)
              · (try dsimp only)
                exact ⟨has3 B1.out.drew, hP _ hb.out.drew⟩
              (refine tkH (i := 0) (oi := { dst := some 41, op := Op.fieldAddr 29 (Operand.tmp 3) 0, type := 0, pos := "heads.go:88", after := #[], guard := none }) (v := ?_) rfl (by kernel_rfl) (Or.inl ⟨by rfl, ?_⟩) (by assumption) ?_; rotate_left; focus (intro wz hSz; (try dsimp only at hSz); go_simp; all_goals (with_reducible rfl)))
              (try simp only [Act.put, List.setIfInBounds_toArray, List.set_cons_zero, List.set_cons_succ])
              (refine tkH (i := 1) (oi := { dst := some 42, op := Op.load 26 (Operand.tmp 41), type := 26, pos := "heads.go:88", after := #[{ on := 0, ground := Ground.data }], guard := none }) (v := ?_) rfl (by kernel_rfl) (Or.inl ⟨by rfl, ?_⟩) (by assumption) ?_; rotate_left; focus (intro wz hSz; (try dsimp only at hSz); go_simp; all_goals (with_reducible rfl)))
              (try simp only [Act.put, List.setIfInBounds_toArray, List.set_cons_zero, List.set_cons_succ])
              (refine tkH (i := 2) (oi := { dst := some 43, op := Op.move (Operand.tmp 6), type := 3, pos := "heads.go:88", after := #[], guard := none }) (v := ?_) rfl (by kernel_rfl) (Or.inl ⟨by rfl, ?_⟩) (by assumption) ?_; rotate_left; focus (intro wz hSz; (try dsimp only at hSz); go_simp; all_goals (with_reducible rfl)))
              (try simp only [Act.put, List.setIfInBounds_toArray, List.set_cons_zero, List.set_cons_succ])
              (refine tkH (i := 3) (oi := { dst := some 44, op := Op.indexAddr 26 (Operand.tmp 42) (Operand.tmp 43), type := 0, pos := "heads.go:88", after := #[{ on := 1, ground := Ground.data }, { on := 2, ground := Ground.data }], guard := none }) (v := ?_) rfl (by kernel_rfl) (Or.inl ⟨by rfl, ?_⟩) (by assumption) ?_; rotate_left; focus (intro wz hSz; (try dsimp only at hSz); go_simp; all_goals (with_reducible rfl)))
              (try simp only [Act.put, List.setIfInBounds_toArray, List.set_cons_zero, List.set_cons_succ])
              (refine tkH (i := 4) (oi := { dst := some 45, op := Op.load 3 (Operand.tmp 44), type := 3, pos := "heads.go:88", after := #[{ on := 3, ground := Ground.data }], guard := none }) (v := ?_) rfl (by kernel_rfl) (Or.inl ⟨by rfl, ?_⟩) (by assumption) ?_; rotate_left; focus (intro wz hSz; (try dsimp only at hSz); go_simp; all_goals (with_reducible rfl)))
              (try simp only [Act.put, List.setIfInBounds_toArray, List.set_cons_zero, List.set_cons_succ])
              refine wpAnyH_ready (rs := [5]) (by kernel_rfl) (by simp) ?_
              refine AllReadyH.cons (o := { dst := some 46, op := Op.call { callee := Callee.value (Operand.func 39), args := #[Operand.tmp 45, Operand.const (Value.int IntKind.i64 0), Operand.const (Value.int IntKind.i64 3)], argTypes := #[3, 3, 3] }, type := 4, pos := "heads.go:88", after := #[{ on := 4, ground := Ground.data }], guard := none }) rfl (fun K hK => ?_) AllReadyH.nil
              go_simp
              (go_at_call 39; (with_reducible refine Calls.mono (hW _) ?_); rintro e w2 ⟨rfl, rfl⟩)
              go_wp2_with fail
              refine hK.out _ _ ?_ (fun hHeld => ?_)
              · (try dsimp only)
                exact ⟨has3 B1.out.drew, hP _ hb.out.drew⟩
              clear hK K
              (try simp only [Act.put, List.setIfInBounds_toArray, List.set_cons_zero, List.set_cons_succ])
              (refine tkH (i := 6) (oi := { dst := some 47, op := Op.unOp UnOp.not 4 (Operand.tmp 46), type := 4, pos := "heads.go:88", after := #[{ on := 5, ground := Ground.data }], guard := none }) (v := ?_) rfl (by kernel_rfl) (Or.inl ⟨by rfl, ?_⟩) (by assumption) ?_; rotate_left; focus (intro wz hSz; (try dsimp only at hSz); go_simp; all_goals (with_reducible rfl)))
              (try simp only [Act.put, List.setIfInBounds_toArray, List.set_cons_zero, List.set_cons_succ])
              (refine tkH (i := 7) (oi := { dst := some 48, op := Op.move (Operand.tmp 47), type := 4, pos := "heads.go:88", after := #[{ on := 6, ground := Ground.data }, { on := 5, ground := Ground.chain }], guard := none }) (v := ?_) rfl (by kernel_rfl) (Or.inl ⟨by rfl, ?_⟩) (by assumption) ?_; rotate_left; focus (intro wz hSz; (try dsimp only at hSz); go_simp; all_goals (with_reducible rfl)))
              (try simp only [Act.put, List.setIfInBounds_toArray, List.set_cons_zero, List.set_cons_succ])
              (refine tkH (i := 8) (oi := { dst := some 49, op := Op.fieldAddr 29 (Operand.tmp 3) 1, type := 0, pos := "heads.go:88", after := #[{ on := 7, ground := Ground.guard }], guard := some (7, false) }) (v := ?_) rfl (by kernel_rfl) (Or.inl ⟨by rfl, ?_⟩) (by assumption) ?_; rotate_left; focus (intro wz hSz; (try dsimp only at hSz); go_simp; all_goals (with_reducible rfl)))
              (try simp only [Act.put, List.setIfInBounds_toArray, List.set_cons_zero, List.set_cons_succ])
              (refine tkH (i := 9) (oi := { dst := some 50, op := Op.load 27 (Operand.tmp 49), type := 27, pos := "heads.go:88", after := #[{ on := 8, ground := Ground.data }, { on := 7, ground := Ground.guard }], guard := some (7, false) }) (v := ?_) rfl (by kernel_rfl) (Or.inl ⟨by rfl, ?_⟩) (by assumption) ?_; rotate_left; focus (intro wz hSz; (try dsimp only at hSz); go_simp; all_goals (with_reducible rfl)))
              (try simp only [Act.put, List.setIfInBounds_toArray, List.set_cons_zero, List.set_cons_succ])
              (refine tkH (i := 10) (oi := { dst := some 51, op := Op.move (Operand.tmp 6), type := 3, pos := "heads.go:88", after := #[{ on := 7, ground := Ground.guard }], guard := some (7, false) }) (v := ?_) rfl (by kernel_rfl) (Or.inl ⟨by rfl, ?_⟩) (by assumption) ?_; rotate_left; focus (intro wz hSz; (try dsimp only at hSz); go_simp; all_goals (with_reducible rfl)))
              (try simp only [Act.put, List.setIfInBounds_toArray, List.set_cons_zero, List.set_cons_succ])
              (refine tkH (i := 11) (oi := { dst := some 52, op := Op.indexAddr 27 (Operand.tmp 50) (Operand.tmp 51), type := 0, pos := "heads.go:88", after := #[{ on := 9, ground := Ground.data }, { on := 10, ground := Ground.data }, { on := 7, ground := Ground.guard }], guard := some (7, false) }) (v := ?_) rfl (by kernel_rfl) (Or.inl ⟨by rfl, ?_⟩) (by assumption) ?_; rotate_left; focus (intro wz hSz; (try dsimp only at hSz); go_simp; all_goals (with_reducible rfl)))
              (try simp only [Act.put, List.setIfInBounds_toArray, List.set_cons_zero, List.set_cons_succ])
              (refine tkH (i := 12) (oi := { dst := some 53, op := Op.load 21 (Operand.tmp 52), type := 21, pos := "heads.go:88", after := #[{ on := 11, ground := Ground.data }, { on := 7, ground := Ground.guard }], guard := some (7, false) }) (v := ?_) rfl (by kernel_rfl) (Or.inl ⟨by rfl, ?_⟩) (by assumption) ?_; rotate_left; focus (intro wz hSz; (try dsimp only at hSz); go_simp; all_goals (with_reducible rfl)))
              (try simp only [Act.put, List.setIfInBounds_toArray, List.set_cons_zero, List.set_cons_succ])
              (refine tkH (i := 13) (oi := { dst := some 54, op := Op.binOp BinOp.lss 21 (Operand.tmp 53) (Operand.const (Value.int IntKind.i32 1)) 21, type := 4, pos := "heads.go:88", after := #[{ on := 12, ground := Ground.data }, { on := 7, ground := Ground.guard }], guard := some (7, false) }) (v := ?_) rfl (by kernel_rfl) (Or.inl ⟨by rfl, ?_⟩) (by assumption) ?_; rotate_left; focus (intro wz hSz; (try dsimp only at hSz); go_simp; all_goals (with_reducible rfl)))
              (try simp only [Act.put, List.setIfInBounds_toArray, List.set_cons_zero, List.set_cons_succ])
              (refine tkH (i := 14) (oi := { dst := some 55, op := Op.pick (Operand.tmp 48) (Operand.const (Value.bool true)) (Operand.tmp 54), type := 4, pos := "heads.go:88", after := #[{ on := 7, ground := Ground.data }, { on := 13, ground := Ground.data }], guard := none }) (v := ?_) rfl (by kernel_rfl) (Or.inl ⟨by rfl, ?_⟩) (by assumption) ?_; rotate_left; focus (intro wz hSz; (try dsimp only at hSz); go_simp; all_goals (with_reducible rfl)))
              (try simp only [Act.put, List.setIfInBounds_toArray, List.set_cons_zero, List.set_cons_succ])
              (refine tkH (i := 15) (oi := { dst := some 56, op := Op.move (Operand.tmp 55), type := 4, pos := "heads.go:88", after := #[{ on := 14, ground := Ground.data }, { on := 7, ground := Ground.chain }], guard := none }) (v := ?_) rfl (by kernel_rfl) (Or.inl ⟨by rfl, ?_⟩) (by assumption) ?_; rotate_left; focus (intro wz hSz; (try dsimp only at hSz); go_simp; all_goals (with_reducible rfl)))
              (try simp only [Act.put, List.setIfInBounds_toArray, List.set_cons_zero, List.set_cons_succ])
              (refine tkH (i := 16) (oi := { dst := some 57, op := Op.fieldAddr 29 (Operand.tmp 3) 2, type := 0, pos := "heads.go:88", after := #[{ on := 15, ground := Ground.guard }], guard := some (15, false) }) (v := ?_) rfl (by kernel_rfl) (Or.inl ⟨by rfl, ?_⟩) (by assumption) ?_; rotate_left; focus (intro wz hSz; (try dsimp only at hSz); go_simp; all_goals (with_reducible rfl)))
              (try simp only [Act.put, List.setIfInBounds_toArray, List.set_cons_zero, List.set_cons_succ])
              (refine tkH (i := 17) (oi := { dst := some 58, op := Op.load 27 (Operand.tmp 57), type := 27, pos := "heads.go:88", after := #[{ on := 16, ground := Ground.data }, { on := 15, ground := Ground.guard }], guard := some (15, false) }) (v := ?_) rfl (by kernel_rfl) (Or.inl ⟨by rfl, ?_⟩) (by assumption) ?_; rotate_left; focus (intro wz hSz; (try dsimp only at hSz); go_simp; all_goals (with_reducible rfl)))
              (try simp only [Act.put, List.setIfInBounds_toArray, List.set_cons_zero, List.set_cons_succ])
              (refine tkH (i := 18) (oi := { dst := some 59, op := Op.move (Operand.tmp 6), type := 3, pos := "heads.go:88", after := #[{ on := 15, ground := Ground.guard }], guard := some (15, false) }) (v := ?_) rfl (by kernel_rfl) (Or.inl ⟨by rfl, ?_⟩) (by assumption) ?_; rotate_left; focus (intro wz hSz; (try dsimp only at hSz); go_simp; all_goals (with_reducible rfl)))
              (try simp only [Act.put, List.setIfInBounds_toArray, List.set_cons_zero, List.set_cons_succ])
              (refine tkH (i := 19) (oi := { dst := some 60, op := Op.indexAddr 27 (Operand.tmp 58) (Operand.tmp 59), type := 0, pos := "heads.go:88", after := #[{ on := 17, ground := Ground.data }, { on := 18, ground := Ground.data }, { on := 15, ground := Ground.guard }], guard := some (15, false) }) (v := ?_) rfl (by kernel_rfl) (Or.inl ⟨by rfl, ?_⟩) (by assumption) ?_; rotate_left; focus (intro wz hSz; (try dsimp only at hSz); go_simp; all_goals (with_reducible rfl)))
              (try simp only [Act.put, List.setIfInBounds_toArray, List.set_cons_zero, List.set_cons_succ])
              (refine tkH (i := 20) (oi := { dst := some 61, op := Op.load 21 (Operand.tmp 60), type := 21, pos := "heads.go:88", after := #[{ on := 19, ground := Ground.data }, { on := 15, ground := Ground.guard }], guard := some (15, false) }) (v := ?_) rfl (by kernel_rfl) (Or.inl ⟨by rfl, ?_⟩) (by assumption) ?_; rotate_left; focus (intro wz hSz; (try dsimp only at hSz); go_simp; all_goals (with_reducible rfl)))
              (try simp only [Act.put, List.setIfInBounds_toArray, List.set_cons_zero, List.set_cons_succ])
              (refine tkH (i := 21) (oi := { dst := some 62, op := Op.binOp BinOp.lss 21 (Operand.tmp 61) (Operand.const (Value.int IntKind.i32 0)) 21, type := 4, pos := "heads.go:88", after := #[{ on := 20, ground := Ground.data }, { on := 15, ground := Ground.guard }], guard := some (15, false) }) (v := ?_) rfl (by kernel_rfl) (Or.inl ⟨by rfl, ?_⟩) (by assumption) ?_; rotate_left; focus (intro wz hSz; (try dsimp only at hSz); go_simp; all_goals (with_reducible rfl)))
              (try simp only [Act.put, List.setIfInBounds_toArray, List.set_cons_zero, List.set_cons_succ])
              (refine tkH (i := 22) (oi := { dst := some 63, op := Op.pick (Operand.tmp 56) (Operand.const (Value.bool true)) (Operand.tmp 62), type := 4, pos := "heads.go:88", after := #[{ on := 15, ground := Ground.data }, { on := 21, ground := Ground.data }], guard := none }) (v := ?_) rfl (by kernel_rfl) (Or.inl ⟨by rfl, ?_⟩) (by assumption) ?_; rotate_left; focus (intro wz hSz; (try dsimp only at hSz); go_simp; all_goals (with_reducible rfl)))
              (try simp only [Act.put, List.setIfInBounds_toArray, List.set_cons_zero, List.set_cons_succ])
              (refine tkH (i := 23) (oi := { dst := some 64, op := Op.move (Operand.tmp 63), type := 4, pos := "heads.go:88", after := #[{ on := 22, ground := Ground.data }, { on := 15, ground := Ground.chain }], guard := none }) (v := ?_) rfl (by kernel_rfl) (Or.inl ⟨by rfl, ?_⟩) (by assumption) ?_; rotate_left; focus (intro wz hSz; (try dsimp only at hSz); go_simp; all_goals (with_reducible rfl)))
              (try simp only [Act.put, List.setIfInBounds_toArray, List.set_cons_zero, List.set_cons_succ])
              refine tkH (i := 24) (oi := { dst := some 65, op := Op.fieldAddr 29 (Operand.tmp 3) 2, type := 0, pos := "heads.go:88", after := #[{ on := 23, ground := Ground.guard }], guard := some (23, false) }) (v := undef) rfl (by kernel_rfl) (Or.inr ⟨by rfl, rfl⟩) (by assumption) ?_
              (try simp only [Act.put, List.setIfInBounds_toArray, List.set_cons_zero, List.set_cons_succ])
              refine tkH (i := 25) (oi := { dst := some 66, op := Op.load 27 (Operand.tmp 65), type := 27, pos := "heads.go:88", after := #[{ on := 24, ground := Ground.data }, { on := 23, ground := Ground.guard }], guard := some (23, false) }) (v := undef) rfl (by kernel_rfl) (Or.inr ⟨by rfl, rfl⟩) (by assumption) ?_
              (try simp only [Act.put, List.setIfInBounds_toArray, List.set_cons_zero, List.set_cons_succ])
              refine tkH (i := 26) (oi := { dst := some 67, op := Op.move (Operand.tmp 6), type := 3, pos := "heads.go:88", after := #[{ on := 23, ground := Ground.guard }], guard := some (23, false) }) (v := undef) rfl (by kernel_rfl) (Or.inr ⟨by rfl, rfl⟩) (by assumption) ?_
              (try simp only [Act.put, List.setIfInBounds_toArray, List.set_cons_zero, List.set_cons_succ])
              refine tkH (i := 27) (oi := { dst := some 68, op := Op.indexAddr 27 (Operand.tmp 66) (Operand.tmp 67), type := 0, pos := "heads.go:88", after := #[{ on := 25, ground := Ground.data }, { on := 26, ground := Ground.data }, { on := 23, ground := Ground.guard }], guard := some (23, false) }) (v := undef) rfl (by kernel_rfl) (Or.inr ⟨by rfl, rfl⟩) (by assumption) ?_
              (try simp only [Act.put, List.setIfInBounds_toArray, List.set_cons_zero, List.set_cons_succ])
              refine tkH (i := 28) (oi := { dst := some 69, op := Op.load 21 (Operand.tmp 68), type := 21, pos := "heads.go:88", after := #[{ on := 27, ground := Ground.data }, { on := 23, ground := Ground.guard }], guard := some (23, false) }) (v := undef) rfl (by kernel_rfl) (Or.inr ⟨by rfl, rfl⟩) (by assumption) ?_
              (try simp only [Act.put, List.setIfInBounds_toArray, List.set_cons_zero, List.set_cons_succ])
              refine tkH (i := 29) (oi := { dst := some 70, op := Op.binOp BinOp.eql 21 (Operand.tmp 69) (Operand.const (Value.int IntKind.i32 0)) 21, type := 4, pos := "heads.go:88", after := #[{ on := 28, ground := Ground.data }, { on := 23, ground := Ground.guard }], guard := some (23, false) }) (v := undef) rfl (by kernel_rfl) (Or.inr ⟨by rfl, rfl⟩) (by assumption) ?_
              (try simp only [Act.put, List.setIfInBounds_toArray, List.set_cons_zero, List.set_cons_succ])
              refine tkH (i := 30) (oi := { dst := some 71, op := Op.fieldAddr 29 (Operand.tmp 3) 0, type := 0, pos := "heads.go:88", after := #[{ on := 23, ground := Ground.guard }], guard := some (23, false) }) (v := undef) rfl (by kernel_rfl) (Or.inr ⟨by rfl, rfl⟩) (by assumption) ?_
              (try simp only [Act.put, List.setIfInBounds_toArray, List.set_cons_zero, List.set_cons_succ])
              refine tkH (i := 31) (oi := { dst := some 72, op := Op.load 26 (Operand.tmp 71), type := 26, pos := "heads.go:88", after := #[{ on := 30, ground := Ground.data }, { on := 23, ground := Ground.guard }], guard := some (23, false) }) (v := undef) rfl (by kernel_rfl) (Or.inr ⟨by rfl, rfl⟩) (by assumption) ?_
              (try simp only [Act.put, List.setIfInBounds_toArray, List.set_cons_zero, List.set_cons_succ])
              refine tkH (i := 32) (oi := { dst := some 73, op := Op.move (Operand.tmp 6), type := 3, pos := "heads.go:88", after := #[{ on := 23, ground := Ground.guard }], guard := some (23, false) }) (v := undef) rfl (by kernel_rfl) (Or.inr ⟨by rfl, rfl⟩) (by assumption) ?_
              (try simp only [Act.put, List.setIfInBounds_toArray, List.set_cons_zero, List.set_cons_succ])
              refine tkH (i := 33) (oi := { dst := some 74, op := Op.indexAddr 26 (Operand.tmp 72) (Operand.tmp 73), type := 0, pos := "heads.go:88", after := #[{ on := 31, ground := Ground.data }, { on := 32, ground := Ground.data }, { on := 23, ground := Ground.guard }], guard := some (23, false) }) (v := undef) rfl (by kernel_rfl) (Or.inr ⟨by rfl, rfl⟩) (by assumption) ?_
              (try simp only [Act.put, List.setIfInBounds_toArray, List.set_cons_zero, List.set_cons_succ])
              refine tkH (i := 34) (oi := { dst := some 75, op := Op.load 3 (Operand.tmp 74), type := 3, pos := "heads.go:88", after := #[{ on := 33, ground := Ground.data }, { on := 23, ground := Ground.guard }], guard := some (23, false) }) (v := undef) rfl (by kernel_rfl) (Or.inr ⟨by rfl, rfl⟩) (by assumption) ?_
              (try simp only [Act.put, List.setIfInBounds_toArray, List.set_cons_zero, List.set_cons_succ])
              refine tkH (i := 35) (oi := { dst := some 76, op := Op.binOp BinOp.eql 3 (Operand.tmp 75) (Operand.const (Value.int IntKind.i64 2)) 3, type := 4, pos := "heads.go:88", after := #[{ on := 34, ground := Ground.data }, { on := 23, ground := Ground.guard }], guard := some (23, false) }) (v := undef) rfl (by kernel_rfl) (Or.inr ⟨by rfl, rfl⟩) (by assumption) ?_
              (try simp only [Act.put, List.setIfInBounds_toArray, List.set_cons_zero, List.set_cons_succ])
              refine tkH (i := 36) (oi := { dst := some 77, op := Op.binOp BinOp.neq 4 (Operand.tmp 70) (Operand.tmp 76) 4, type := 4, pos := "heads.go:88", after := #[{ on := 29, ground := Ground.data }, { on := 35, ground := Ground.data }, { on := 23, ground := Ground.guard }], guard := some (23, false) }) (v := undef) rfl (by kernel_rfl) (Or.inr ⟨by rfl, rfl⟩) (by assumption) ?_
              (try simp only [Act.put, List.setIfInBounds_toArray, List.set_cons_zero, List.set_cons_succ])
              (refine tkH (i := 37) (oi := { dst := some 78, op := Op.pick (Operand.tmp 64) (Operand.const (Value.bool true)) (Operand.tmp 77), type := 4, pos := "heads.go:88", after := #[{ on := 23, ground := Ground.data }, { on := 36, ground := Ground.data }], guard := none }) (v := ?_) rfl (by kernel_rfl) (Or.inl ⟨by rfl, ?_⟩) (by assumption) ?_; rotate_left; focus (intro wz hSz; (try dsimp only at hSz); go_simp; all_goals (with_reducible rfl)))
              (try simp only [Act.put, List.setIfInBounds_toArray, List.set_cons_zero, List.set_cons_succ])
              refine wpAnyH_done (by kernel_rfl) ?_ _
              refine NoPanic.normal ?_
              go_wp2_with fail
              go_ret
              exact ⟨rfl, hb.out.drew⟩
            · have D2 : decide (yw < 0) = false := decide_eq_false d2
              have q2 : 0 ≤ yw := by omega
              go_upto_region 7 with fail
              refine wp_region_noPanic ?_
              refine wp_region_held_drew (S := fun w' => (w'.cell? ⟨w.heap.size + 1, 0, none⟩ = some (.slice (some ⟨gA, oA, none⟩) A.length cA) ∧ w'.cell? ⟨w.heap.size + 1, 1, none⟩ = some (.slice (some ⟨gI, oI, none⟩) I.length cI) ∧ w'.cell? ⟨w.heap.size + 1, 2, none⟩ = some (.slice (some ⟨gW, oW, none⟩) W.length cW)) ∧ (w'.cell? ⟨gA, oA + k, none⟩ = some (.int .i64 ya) ∧ w'.cell? ⟨gI, oI + k, none⟩ = some (.int .i32 yi) ∧ w'.cell? ⟨gW, oW + k, none⟩ = some (.int .i32 yw))) (by kernel_rfl) ?_ (fun hHeld => ?_)
              · (try dsimp only)
                exact ⟨has3 B1.out.drew, hP _ hb.out.drew⟩
              (refine tkH (i := 0) (oi := { dst := some 41, op := Op.fieldAddr 29 (Operand.tmp 3) 0, type := 0, pos := "heads.go:88", after := #[], guard := none }) (v := ?_) rfl (by kernel_rfl) (Or.inl ⟨by rfl, ?_⟩) (by assumption) ?_; rotate_left; focus (intro wz hSz; (try dsimp only at hSz); go_simp; all_goals (with_reducible rfl)))
              (try simp only [Act.put, List.setIfInBounds_toArray, List.set_cons_zero, List.set_cons_succ])
              (refine tkH (i := 1) (oi := { dst := some 42, op := Op.load 26 (Operand.tmp 41), type := 26, pos := "heads.go:88", after := #[{ on := 0, ground := Ground.data }], guard := none }) (v := ?_) rfl (by kernel_rfl) (Or.inl ⟨by rfl, ?_⟩) (by assumption) ?_; rotate_left; focus (intro wz hSz; (try dsimp only at hSz); go_simp; all_goals (with_reducible rfl)))
              (try simp only [Act.put, List.setIfInBounds_toArray, List.set_cons_zero, List.set_cons_succ])
              (refine tkH (i := 2) (oi := { dst := some 43, op := Op.move (Operand.tmp 6), type := 3, pos := "heads.go:88", after := #[], guard := none }) (v := ?_) rfl (by kernel_rfl) (Or.inl ⟨by rfl, ?_⟩) (by assumption) ?_; rotate_left; focus (intro wz hSz; (try dsimp only at hSz); go_simp; all_goals (with_reducible rfl)))
              (try simp only [Act.put, List.setIfInBounds_toArray, List.set_cons_zero, List.set_cons_succ])
              (refine tkH (i := 3) (oi := { dst := some 44, op := Op.indexAddr 26 (Operand.tmp 42) (Operand.tmp 43), type := 0, pos := "heads.go:88", after := #[{ on := 1, ground := Ground.data }, { on := 2, ground := Ground.data }], guard := none }) (v := ?_) rfl (by kernel_rfl) (Or.inl ⟨by rfl, ?_⟩) (by assumption) ?_; rotate_left; focus (intro wz hSz; (try dsimp only at hSz); go_simp; all_goals (with_reducible rfl)))
              (try simp only [Act.put, List.setIfInBounds_toArray, List.set_cons_zero, List.set_cons_succ])
              (refine tkH (i := 4) (oi := { dst := some 45, op := Op.load 3 (Operand.tmp 44), type := 3, pos := "heads.go:88", after := #[{ on := 3, ground := Ground.data }], guard := none }) (v := ?_) rfl (by kernel_rfl) (Or.inl ⟨by rfl, ?_⟩) (by assumption) ?_; rotate_left; focus (intro wz hSz; (try dsimp only at hSz); go_simp; all_goals (with_reducible rfl)))
              (try simp only [Act.put, List.setIfInBounds_toArray, List.set_cons_zero, List.set_cons_succ])
              refine wpAnyH_ready (rs := [5]) (by kernel_rfl) (by simp) ?_
              refine AllReadyH.cons (o := { dst := some 46, op := Op.call { callee := Callee.value (Operand.func 39), args := #[Operand.tmp 45, Operand.const (Value.int IntKind.i64 0), Operand.const (Value.int IntKind.i64 3)], argTypes := #[3, 3, 3] }, type := 4, pos := "heads.go:88", after := #[{ on := 4, ground := Ground.data }], guard := none }) rfl (fun K hK => ?_) AllReadyH.nil
              go_simp
              (go_at_call 39; (with_reducible refine Calls.mono (hW _) ?_); rintro e w2 ⟨rfl, rfl⟩)
              go_wp2_with fail
              refine hK.out _ _ ?_ (fun hHeld => ?_)
              · (try dsimp only)
                exact ⟨has3 B1.out.drew, hP _ hb.out.drew⟩
              clear hK K
              (try simp only [Act.put, List.setIfInBounds_toArray, List.set_cons_zero, List.set_cons_succ])
              (refine tkH (i := 6) (oi := { dst := some 47, op := Op.unOp UnOp.not 4 (Operand.tmp 46), type := 4, pos := "heads.go:88", after := #[{ on := 5, ground := Ground.data }], guard := none }) (v := ?_) rfl (by kernel_rfl) (Or.inl ⟨by rfl, ?_⟩) (by assumption) ?_; rotate_left; focus (intro wz hSz; (try dsimp only at hSz); go_simp; all_goals (with_reducible rfl)))
              (try simp only [Act.put, List.setIfInBounds_toArray, List.set_cons_zero, List.set_cons_succ])
              (refine tkH (i := 7) (oi := { dst := some 48, op := Op.move (Operand.tmp 47), type := 4, pos := "heads.go:88", after := #[{ on := 6, ground := Ground.data }, { on := 5, ground := Ground.chain }], guard := none }) (v := ?_) rfl (by kernel_rfl) (Or.inl ⟨by rfl, ?_⟩) (by assumption) ?_; rotate_left; focus (intro wz hSz; (try dsimp only at hSz); go_simp; all_goals (with_reducible rfl)))
              (try simp only [Act.put, List.setIfInBounds_toArray, List.set_cons_zero, List.set_cons_succ])
              (refine tkH (i := 8) (oi := { dst := some 49, op := Op.fieldAddr 29 (Operand.tmp 3) 1, type := 0, pos := "heads.go:88", after := #[{ on := 7, ground := Ground.guard }], guard := some (7, false) }) (v := ?_) rfl (by kernel_rfl) (Or.inl ⟨by rfl, ?_⟩) (by assumption) ?_; rotate_left; focus (intro wz hSz; (try dsimp only at hSz); go_simp; all_goals (with_reducible rfl)))
              (try simp only [Act.put, List.setIfInBounds_toArray, List.set_cons_zero, List.set_cons_succ])
              (refine tkH (i := 9) (oi := { dst := some 50, op := Op.load 27 (Operand.tmp 49), type := 27, pos := "heads.go:88", after := #[{ on := 8, ground := Ground.data }, { on := 7, ground := Ground.guard }], guard := some (7, false) }) (v := ?_) rfl (by kernel_rfl) (Or.inl ⟨by rfl, ?_⟩) (by assumption) ?_; rotate_left; focus (intro wz hSz; (try dsimp only at hSz); go_simp; all_goals (with_reducible rfl)))
              (try simp only [Act.put, List.setIfInBounds_toArray, List.set_cons_zero, List.set_cons_succ])
              (refine tkH (i := 10) (oi := { dst := some 51, op := Op.move (Operand.tmp 6), type := 3, pos := "heads.go:88", after := #[{ on := 7, ground := Ground.guard }], guard := some (7, false) }) (v := ?_) rfl (by kernel_rfl) (Or.inl ⟨by rfl, ?_⟩) (by assumption) ?_; rotate_left; focus (intro wz hSz; (try dsimp only at hSz); go_simp; all_goals (with_reducible rfl)))
              (try simp only [Act.put, List.setIfInBounds_toArray, List.set_cons_zero, List.set_cons_succ])
              (refine tkH (i := 11) (oi := { dst := some 52, op := Op.indexAddr 27 (Operand.tmp 50) (Operand.tmp 51), type := 0, pos := "heads.go:88", after := #[{ on := 9, ground := Ground.data }, { on := 10, ground := Ground.data }, { on := 7, ground := Ground.guard }], guard := some (7, false) }) (v := ?_) rfl (by kernel_rfl) (Or.inl ⟨by rfl, ?_⟩) (by assumption) ?_; rotate_left; focus (intro wz hSz; (try dsimp only at hSz); go_simp; all_goals (with_reducible rfl)))
              (try simp only [Act.put, List.setIfInBounds_toArray, List.set_cons_zero, List.set_cons_succ])
              (refine tkH (i := 12) (oi := { dst := some 53, op := Op.load 21 (Operand.tmp 52), type := 21, pos := "heads.go:88", after := #[{ on := 11, ground := Ground.data }, { on := 7, ground := Ground.guard }], guard := some (7, false) }) (v := ?_) rfl (by kernel_rfl) (Or.inl ⟨by rfl, ?_⟩) (by assumption) ?_; rotate_left; focus (intro wz hSz; (try dsimp only at hSz); go_simp; all_goals (with_reducible rfl)))
              (try simp only [Act.put, List.setIfInBounds_toArray, List.set_cons_zero, List.set_cons_succ])
              (refine tkH (i := 13) (oi := { dst := some 54, op := Op.binOp BinOp.lss 21 (Operand.tmp 53) (Operand.const (Value.int IntKind.i32 1)) 21, type := 4, pos := "heads.go:88", after := #[{ on := 12, ground := Ground.data }, { on := 7, ground := Ground.guard }], guard := some (7, false) }) (v := ?_) rfl (by kernel_rfl) (Or.inl ⟨by rfl, ?_⟩) (by assumption) ?_; rotate_left; focus (intro wz hSz; (try dsimp only at hSz); go_simp; all_goals (with_reducible rfl)))
              (try simp only [Act.put, List.setIfInBounds_toArray, List.set_cons_zero, List.set_cons_succ])
              (refine tkH (i := 14) (oi := { dst := some 55, op := Op.pick (Operand.tmp 48) (Operand.const (Value.bool true)) (Operand.tmp 54), type := 4, pos := "heads.go:88", after := #[{ on := 7, ground := Ground.data }, { on := 13, ground := Ground.data }], guard := none }) (v := ?_) rfl (by kernel_rfl) (Or.inl ⟨by rfl, ?_⟩) (by assumption) ?_; rotate_left; focus (intro wz hSz; (try dsimp only at hSz); go_simp; all_goals (with_reducible rfl)))
              (try simp only [Act.put, List.setIfInBounds_toArray, List.set_cons_zero, List.set_cons_succ])
              (refine tkH (i := 15) (oi := { dst := some 56, op := Op.move (Operand.tmp 55), type := 4, pos := "heads.go:88", after := #[{ on := 14, ground := Ground.data }, { on := 7, ground := Ground.chain }], guard := none }) (v := ?_) rfl (by kernel_rfl) (Or.inl ⟨by rfl, ?_⟩) (by assumption) ?_; rotate_left; focus (intro wz hSz; (try dsimp only at hSz); go_simp; all_goals (with_reducible rfl)))
              (try simp only [Act.put, List.setIfInBounds_toArray, List.set_cons_zero, List.set_cons_succ])
              (refine tkH (i := 16) (oi := { dst := some 57, op := Op.fieldAddr 29 (Operand.tmp 3) 2, type := 0, pos := "heads.go:88", after := #[{ on := 15, ground := Ground.guard }], guard := some (15, false) }) (v := ?_) rfl (by kernel_rfl) (Or.inl ⟨by rfl, ?_⟩) (by assumption) ?_; rotate_left; focus (intro wz hSz; (try dsimp only at hSz); go_simp; all_goals (with_reducible rfl)))
              (try simp only [Act.put, List.setIfInBounds_toArray, List.set_cons_zero, List.set_cons_succ])
              (refine tkH (i := 17) (oi := { dst := some 58, op := Op.load 27 (Operand.tmp 57), type := 27, pos := "heads.go:88", after := #[{ on := 16, ground := Ground.data }, { on := 15, ground := Ground.guard }], guard := some (15, false) }) (v := ?_) rfl (by kernel_rfl) (Or.inl ⟨by rfl, ?_⟩) (by assumption) ?_; rotate_left; focus (intro wz hSz; (try dsimp only at hSz); go_simp; all_goals (with_reducible rfl)))
              (try simp only [Act.put, List.setIfInBounds_toArray, List.set_cons_zero, List.set_cons_succ])
              (refine tkH (i := 18) (oi := { dst := some 59, op := Op.move (Operand.tmp 6), type := 3, pos := "heads.go:88", after := #[{ on := 15, ground := Ground.guard }], guard := some (15, false) }) (v := ?_) rfl (by kernel_rfl) (Or.inl ⟨by rfl, ?_⟩) (by assumption) ?_; rotate_left; focus (intro wz hSz; (try dsimp only at hSz); go_simp; all_goals (with_reducible rfl)))
              (try simp only [Act.put, List.setIfInBounds_toArray, List.set_cons_zero, List.set_cons_succ])
              (refine tkH (i := 19) (oi := { dst := some 60, op := Op.indexAddr 27 (Operand.tmp 58) (Operand.tmp 59), type := 0, pos := "heads.go:88", after := #[{ on := 17, ground := Ground.data }, { on := 18, ground := Ground.data }, { on := 15, ground := Ground.guard }], guard := some (15, false) }) (v := ?_) rfl (by kernel_rfl) (Or.inl ⟨by rfl, ?_⟩) (by assumption) ?_; rotate_left; focus (intro wz hSz; (try dsimp only at hSz); go_simp; all_goals (with_reducible rfl)))
              (try simp only [Act.put, List.setIfInBounds_toArray, List.set_cons_zero, List.set_cons_succ])
              (refine tkH (i := 20) (oi := { dst := some 61, op := Op.load 21 (Operand.tmp 60), type := 21, pos := "heads.go:88", after := #[{ on := 19, ground := Ground.data }, { on := 15, ground := Ground.guard }], guard := some (15, false) }) (v := ?_) rfl (by kernel_rfl) (Or.inl ⟨by rfl, ?_⟩) (by assumption) ?_; rotate_left; focus (intro wz hSz; (try dsimp only at hSz); go_simp; all_goals (with_reducible rfl)))
              (try simp only [Act.put, List.setIfInBounds_toArray, List.set_cons_zero, List.set_cons_succ])
              (refine tkH (i := 21) (oi := { dst := some 62, op := Op.binOp BinOp.lss 21 (Operand.tmp 61) (Operand.const (Value.int IntKind.i32 0)) 21, type := 4, pos := "heads.go:88", after := #[{ on := 20, ground := Ground.data }, { on := 15, ground := Ground.guard }], guard := some (15, false) }) (v := ?_) rfl (by kernel_rfl) (Or.inl ⟨by rfl, ?_⟩) (by assumption) ?_; rotate_left; focus (intro wz hSz; (try dsimp only at hSz); go_simp; all_goals (with_reducible rfl)))
              (try simp only [Act.put, List.setIfInBounds_toArray, List.set_cons_zero, List.set_cons_succ])
              (refine tkH (i := 22) (oi := { dst := some 63, op := Op.pick (Operand.tmp 56) (Operand.const (Value.bool true)) (Operand.tmp 62), type := 4, pos := "heads.go:88", after := #[{ on := 15, ground := Ground.data }, { on := 21, ground := Ground.data }], guard := none }) (v := ?_) rfl (by kernel_rfl) (Or.inl ⟨by rfl, ?_⟩) (by assumption) ?_; rotate_left; focus (intro wz hSz; (try dsimp only at hSz); go_simp; all_goals (with_reducible rfl)))
              (try simp only [Act.put, List.setIfInBounds_toArray, List.set_cons_zero, List.set_cons_succ])
              (refine tkH (i := 23) (oi := { dst := some 64, op := Op.move (Operand.tmp 63), type := 4, pos := "heads.go:88", after := #[{ on := 22, ground := Ground.data }, { on := 15, ground := Ground.chain }], guard := none }) (v := ?_) rfl (by kernel_rfl) (Or.inl ⟨by rfl, ?_⟩) (by assumption) ?_; rotate_left; focus (intro wz hSz; (try dsimp only at hSz); go_simp; all_goals (with_reducible rfl)))
              (try simp only [Act.put, List.setIfInBounds_toArray, List.set_cons_zero, List.set_cons_succ])
              (refine tkH (i := 24) (oi := { dst := some 65, op := Op.fieldAddr 29 (Operand.tmp 3) 2, type := 0, pos := "heads.go:88", after := #[{ on := 23, ground := Ground.guard }], guard := some (23, false) }) (v := ?_) rfl (by kernel_rfl) (Or.inl ⟨by rfl, ?_⟩) (by assumption) ?_; rotate_left; focus (intro wz hSz; (try dsimp only at hSz); go_simp; all_goals (with_reducible rfl)))
              (try simp only [Act.put, List.setIfInBounds_toArray, List.set_cons_zero, List.set_cons_succ])
              (refine tkH (i := 25) (oi := { dst := some 66, op := Op.load 27 (Operand.tmp 65), type := 27, pos := "heads.go:88", after := #[{ on := 24, ground := Ground.data }, { on := 23, ground := Ground.guard }], guard := some (23, false) }) (v := ?_) rfl (by kernel_rfl) (Or.inl ⟨by rfl, ?_⟩) (by assumption) ?_; rotate_left; focus (intro wz hSz; (try dsimp only at hSz); go_simp; all_goals (with_reducible rfl)))
              (try simp only [Act.put, List.setIfInBounds_toArray, List.set_cons_zero, List.set_cons_succ])
              (refine tkH (i := 26) (oi := { dst := some 67, op := Op.move (Operand.tmp 6), type := 3, pos := "heads.go:88", after := #[{ on := 23, ground := Ground.guard }], guard := some (23, false) }) (v := ?_) rfl (by kernel_rfl) (Or.inl ⟨by rfl, ?_⟩) (by assumption) ?_; rotate_left; focus (intro wz hSz; (try dsimp only at hSz); go_simp; all_goals (with_reducible rfl)))
              (try simp only [Act.put, List.setIfInBounds_toArray, List.set_cons_zero, List.set_cons_succ])
              (refine tkH (i := 27) (oi := { dst := some 68, op := Op.indexAddr 27 (Operand.tmp 66) (Operand.tmp 67), type := 0, pos := "heads.go:88", after := #[{ on := 25, ground := Ground.data }, { on := 26, ground := Ground.data }, { on := 23, ground := Ground.guard }], guard := some (23, false) }) (v := ?_) rfl (by kernel_rfl) (Or.inl ⟨by rfl, ?_⟩) (by assumption) ?_; rotate_left; focus (intro wz hSz; (try dsimp only at hSz); go_simp; all_goals (with_reducible rfl)))
              (try simp only [Act.put, List.setIfInBounds_toArray, List.set_cons_zero, List.set_cons_succ])
              (refine tkH (i := 28) (oi := { dst := some 69, op := Op.load 21 (Operand.tmp 68), type := 21, pos := "heads.go:88", after := #[{ on := 27, ground := Ground.data }, { on := 23, ground := Ground.guard }], guard := some (23, false) }) (v := ?_) rfl (by kernel_rfl) (Or.inl ⟨by rfl, ?_⟩) (by assumption) ?_; rotate_left; focus (intro wz hSz; (try dsimp only at hSz); go_simp; all_goals (with_reducible rfl)))
              (try simp only [Act.put, List.setIfInBounds_toArray, List.set_cons_zero, List.set_cons_succ])
              (refine tkH (i := 29) (oi := { dst := some 70, op := Op.binOp BinOp.eql 21 (Operand.tmp 69) (Operand.const (Value.int IntKind.i32 0)) 21, type := 4, pos := "heads.go:88", after := #[{ on := 28, ground := Ground.data }, { on := 23, ground := Ground.guard }], guard := some (23, false) }) (v := ?_) rfl (by kernel_rfl) (Or.inl ⟨by rfl, ?_⟩) (by assumption) ?_; rotate_left; focus (intro wz hSz; (try dsimp only at hSz); go_simp; all_goals (with_reducible rfl)))
              (try simp only [Act.put, List.setIfInBounds_toArray, List.set_cons_zero, List.set_cons_succ])
              (refine tkH (i := 30) (oi := { dst := some 71, op := Op.fieldAddr 29 (Operand.tmp 3) 0, type := 0, pos := "heads.go:88", after := #[{ on := 23, ground := Ground.guard }], guard := some (23, false) }) (v := ?_) rfl (by kernel_rfl) (Or.inl ⟨by rfl, ?_⟩) (by assumption) ?_; rotate_left; focus (intro wz hSz; (try dsimp only at hSz); go_simp; all_goals (with_reducible rfl)))
              (try simp only [Act.put, List.setIfInBounds_toArray, List.set_cons_zero, List.set_cons_succ])
              (refine tkH (i := 31) (oi := { dst := some 72, op := Op.load 26 (Operand.tmp 71), type := 26, pos := "heads.go:88", after := #[{ on := 30, ground := Ground.data }, { on := 23, ground := Ground.guard }], guard := some (23, false) }) (v := ?_) rfl (by kernel_rfl) (Or.inl ⟨by rfl, ?_⟩) (by assumption) ?_; rotate_left; focus (intro wz hSz; (try dsimp only at hSz); go_simp; all_goals (with_reducible rfl)))
              (try simp only [Act.put, List.setIfInBounds_toArray, List.set_cons_zero, List.set_cons_succ])
              (refine tkH (i := 32) (oi := { dst := some 73, op := Op.move (Operand.tmp 6), type := 3, pos := "heads.go:88", after := #[{ on := 23, ground := Ground.guard }], guard := some (23, false) }) (v := ?_) rfl (by kernel_rfl) (Or.inl ⟨by rfl, ?_⟩) (by assumption) ?_; rotate_left; focus (intro wz hSz; (try dsimp only at hSz); go_simp; all_goals (with_reducible rfl)))
              (try simp only [Act.put, List.setIfInBounds_toArray, List.set_cons_zero, List.set_cons_succ])
              (refine tkH (i := 33) (oi := { dst := some 74, op := Op.indexAddr 26 (Operand.tmp 72) (Operand.tmp 73), type := 0, pos := "heads.go:88", after := #[{ on := 31, ground := Ground.data }, { on := 32, ground := Ground.data }, { on := 23, ground := Ground.guard }], guard := some (23, false) }) (v := ?_) rfl (by kernel_rfl) (Or.inl ⟨by rfl, ?_⟩) (by assumption) ?_; rotate_left; focus (intro wz hSz; (try dsimp only at hSz); go_simp; all_goals (with_reducible rfl)))
              (try simp only [Act.put, List.setIfInBounds_toArray, List.set_cons_zero, List.set_cons_succ])
              (refine tkH (i := 34) (oi := { dst := some 75, op := Op.load 3 (Operand.tmp 74), type := 3, pos := "heads.go:88", after := #[{ on := 33, ground := Ground.data }, { on := 23, ground := Ground.guard }], guard := some (23, false) }) (v := ?_) rfl (by kernel_rfl) (Or.inl ⟨by rfl, ?_⟩) (by assumption) ?_; rotate_left; focus (intro wz hSz; (try dsimp only at hSz); go_simp; all_goals (with_reducible rfl)))
              (try simp only [Act.put, List.setIfInBounds_toArray, List.set_cons_zero, List.set_cons_succ])
              (refine tkH (i := 35) (oi := { dst := some 76, op := Op.binOp BinOp.eql 3 (Operand.tmp 75) (Operand.const (Value.int IntKind.i64 2)) 3, type := 4, pos := "heads.go:88", after := #[{ on := 34, ground := Ground.data }, { on := 23, ground := Ground.guard }], guard := some (23, false) }) (v := ?_) rfl (by kernel_rfl) (Or.inl ⟨by rfl, ?_⟩) (by assumption) ?_; rotate_left; focus (intro wz hSz; (try dsimp only at hSz); go_simp; all_goals (with_reducible rfl)))
              (try simp only [Act.put, List.setIfInBounds_toArray, List.set_cons_zero, List.set_cons_succ])
              (refine tkH (i := 36) (oi := { dst := some 77, op := Op.binOp BinOp.neq 4 (Operand.tmp 70) (Operand.tmp 76) 4, type := 4, pos := "heads.go:88", after := #[{ on := 29, ground := Ground.data }, { on := 35, ground := Ground.data }, { on := 23, ground := Ground.guard }], guard := some (23, false) }) (v := ?_) rfl (by kernel_rfl) (Or.inl ⟨by rfl, ?_⟩) (by assumption) ?_; rotate_left; focus (intro wz hSz; (try dsimp only at hSz); go_simp; all_goals (with_reducible rfl)))
              (try simp only [Act.put, List.setIfInBounds_toArray, List.set_cons_zero, List.set_cons_succ])
              (refine tkH (i := 37) (oi := { dst := some 78, op := Op.pick (Operand.tmp 64) (Operand.const (Value.bool true)) (Operand.tmp 77), type := 4, pos := "heads.go:88", after := #[{ on := 23, ground := Ground.data }, { on := 36, ground := Ground.data }], guard := none }) (v := ?_) rfl (by kernel_rfl) (Or.inl ⟨by rfl, ?_⟩) (by assumption) ?_; rotate_left; focus (intro wz hSz; (try dsimp only at hSz); go_simp; all_goals (with_reducible rfl)))
              (try simp only [Act.put, List.setIfInBounds_toArray, List.set_cons_zero, List.set_cons_succ])
              refine wpAnyH_done (by kernel_rfl) ?_ _
              refine NoPanic.normal ?_
              by_cases c1 : yw = 0
              · subst c1
                by_cases c2 : ya = 2
                · subst c2
                  have V : (!((0 : Int) == 0) == ((2 : Int) == 2)) = false := by decide
                  rw [V]
                  clear V
                  go_upto_region 9 with fail
                  have eV : fitB ⟨x0, x1, x2, x3, x4⟩ 2 yi 0 = true := by unfold fitB; simp [q1]
                  have hs2 : Hid ((fitsF (G.drop (k + 1)) (A.drop (k + 1)) (I.drop (k + 1)) (W.drop (k + 1)) && clearF A C) = R) := by show _ = _; rw [← hs', eV]; simp
                  clear hs' eV
                  refine wp_region_noPanic ?_
                  refine wp_region_held_drew (S := fun w' => (w'.cell? ⟨w.heap.size, 0, none⟩ = some (.slice (some ⟨g, o, none⟩) G.length cg) ∧ w'.cell? ⟨w.heap.size, 1, none⟩ = some (.slice vb C.length cc)) ∧ (w'.cell? ⟨w.heap.size + 1, 0, none⟩ = some (.slice (some ⟨gA, oA, none⟩) A.length cA) ∧ w'.cell? ⟨w.heap.size + 1, 1, none⟩ = some (.slice (some ⟨gI, oI, none⟩) I.length cI) ∧ w'.cell? ⟨w.heap.size + 1, 2, none⟩ = some (.slice (some ⟨gW, oW, none⟩) W.length cW)) ∧ (w'.cell? ⟨gA, oA + k, none⟩ = some (.int .i64 2) ∧ w'.cell? ⟨gI, oI + k, none⟩ = some (.int .i32 yi) ∧ w'.cell? ⟨gW, oW + k, none⟩ = some (.int .i32 0)) ∧ (w'.cell? ⟨g, o + k * 5, none⟩ = some (.string x0) ∧ w'.cell? ⟨g, o + k * 5 + 1, none⟩ = some (.int .i64 x1) ∧ w'.cell? ⟨g, o + k * 5 + 2, none⟩ = some (.int .i64 x2) ∧ w'.cell? ⟨g, o + k * 5 + 3, none⟩ = some (.int .i64 x3) ∧ w'.cell? ⟨g, o + k * 5 + 4, none⟩ = some (.int .i64 x4))) (by kernel_rfl) ?_ (fun hHeld => ?_)
                  · (try dsimp only)
                    exact ⟨has2b B.out.drew.drew, has3 B1.out.drew.drew, hP _ hb.out.drew.drew, hQ _ hb.out.drew.drew⟩
                  (refine tkH (i := 0) (oi := { dst := some 79, op := Op.fieldAddr 29 (Operand.tmp 3) 0, type := 0, pos := "heads.go:91", after := #[], guard := none }) (v := ?_) rfl (by kernel_rfl) (Or.inl ⟨by rfl, ?_⟩) (by assumption) ?_; rotate_left; focus (intro wz hSz; (try dsimp only at hSz); go_simp; all_goals (with_reducible rfl)))
                  (try simp only [Act.put, List.setIfInBounds_toArray, List.set_cons_zero, List.set_cons_succ])
                  (refine tkH (i := 1) (oi := { dst := some 80, op := Op.load 26 (Operand.tmp 79), type := 26, pos := "heads.go:91", after := #[{ on := 0, ground := Ground.data }], guard := none }) (v := ?_) rfl (by kernel_rfl) (Or.inl ⟨by rfl, ?_⟩) (by assumption) ?_; rotate_left; focus (intro wz hSz; (try dsimp only at hSz); go_simp; all_goals (with_reducible rfl)))
                  (try simp only [Act.put, List.setIfInBounds_toArray, List.set_cons_zero, List.set_cons_succ])
                  (refine tkH (i := 2) (oi := { dst := some 81, op := Op.move (Operand.tmp 6), type := 3, pos := "heads.go:91", after := #[], guard := none }) (v := ?_) rfl (by kernel_rfl) (Or.inl ⟨by rfl, ?_⟩) (by assumption) ?_; rotate_left; focus (intro wz hSz; (try dsimp only at hSz); go_simp; all_goals (with_reducible rfl)))
                  (try simp only [Act.put, List.setIfInBounds_toArray, List.set_cons_zero, List.set_cons_succ])
                  (refine tkH (i := 3) (oi := { dst := some 82, op := Op.indexAddr 26 (Operand.tmp 80) (Operand.tmp 81), type := 0, pos := "heads.go:91", after := #[{ on := 1, ground := Ground.data }, { on := 2, ground := Ground.data }], guard := none }) (v := ?_) rfl (by kernel_rfl) (Or.inl ⟨by rfl, ?_⟩) (by assumption) ?_; rotate_left; focus (intro wz hSz; (try dsimp only at hSz); go_simp; all_goals (with_reducible rfl)))
                  (try simp only [Act.put, List.setIfInBounds_toArray, List.set_cons_zero, List.set_cons_succ])
                  (refine tkH (i := 4) (oi := { dst := some 83, op := Op.load 3 (Operand.tmp 82), type := 3, pos := "heads.go:91", after := #[{ on := 3, ground := Ground.data }], guard := none }) (v := ?_) rfl (by kernel_rfl) (Or.inl ⟨by rfl, ?_⟩) (by assumption) ?_; rotate_left; focus (intro wz hSz; (try dsimp only at hSz); go_simp; all_goals (with_reducible rfl)))
                  (try simp only [Act.put, List.setIfInBounds_toArray, List.set_cons_zero, List.set_cons_succ])
                  (refine tkH (i := 5) (oi := { dst := some 84, op := Op.binOp BinOp.eql 3 (Operand.tmp 83) (Operand.const (Value.int IntKind.i64 1)) 3, type := 4, pos := "heads.go:91", after := #[{ on := 4, ground := Ground.data }], guard := none }) (v := ?_) rfl (by kernel_rfl) (Or.inl ⟨by rfl, ?_⟩) (by assumption) ?_; rotate_left; focus (intro wz hSz; (try dsimp only at hSz); go_simp; all_goals (with_reducible rfl)))
                  (try simp only [Act.put, List.setIfInBounds_toArray, List.set_cons_zero, List.set_cons_succ])
                  (refine tkH (i := 6) (oi := { dst := some 85, op := Op.move (Operand.tmp 84), type := 4, pos := "heads.go:91", after := #[{ on := 5, ground := Ground.data }], guard := none }) (v := ?_) rfl (by kernel_rfl) (Or.inl ⟨by rfl, ?_⟩) (by assumption) ?_; rotate_left; focus (intro wz hSz; (try dsimp only at hSz); go_simp; all_goals (with_reducible rfl)))
                  (try simp only [Act.put, List.setIfInBounds_toArray, List.set_cons_zero, List.set_cons_succ])
                  refine tkH (i := 7) (oi := { dst := some 86, op := Op.fieldAddr 29 (Operand.tmp 3) 1, type := 0, pos := "heads.go:91", after := #[{ on := 6, ground := Ground.guard }], guard := some (6, true) }) (v := undef) rfl (by kernel_rfl) (Or.inr ⟨by rfl, rfl⟩) (by assumption) ?_
                  (try simp only [Act.put, List.setIfInBounds_toArray, List.set_cons_zero, List.set_cons_succ])
                  refine tkH (i := 8) (oi := { dst := some 87, op := Op.load 27 (Operand.tmp 86), type := 27, pos := "heads.go:91", after := #[{ on := 7, ground := Ground.data }, { on := 6, ground := Ground.guard }], guard := some (6, true) }) (v := undef) rfl (by kernel_rfl) (Or.inr ⟨by rfl, rfl⟩) (by assumption) ?_
                  (try simp only [Act.put, List.setIfInBounds_toArray, List.set_cons_zero, List.set_cons_succ])
                  refine tkH (i := 9) (oi := { dst := some 88, op := Op.move (Operand.tmp 6), type := 3, pos := "heads.go:91", after := #[{ on := 6, ground := Ground.guard }], guard := some (6, true) }) (v := undef) rfl (by kernel_rfl) (Or.inr ⟨by rfl, rfl⟩) (by assumption) ?_
                  (try simp only [Act.put, List.setIfInBounds_toArray, List.set_cons_zero, List.set_cons_succ])
                  refine tkH (i := 10) (oi := { dst := some 89, op := Op.indexAddr 27 (Operand.tmp 87) (Operand.tmp 88), type := 0, pos := "heads.go:91", after := #[{ on := 8, ground := Ground.data }, { on := 9, ground := Ground.data }, { on := 6, ground := Ground.guard }], guard := some (6, true) }) (v := undef) rfl (by kernel_rfl) (Or.inr ⟨by rfl, rfl⟩) (by assumption) ?_
                  (try simp only [Act.put, List.setIfInBounds_toArray, List.set_cons_zero, List.set_cons_succ])
                  refine tkH (i := 11) (oi := { dst := some 90, op := Op.load 21 (Operand.tmp 89), type := 21, pos := "heads.go:91", after := #[{ on := 10, ground := Ground.data }, { on := 6, ground := Ground.guard }], guard := some (6, true) }) (v := undef) rfl (by kernel_rfl) (Or.inr ⟨by rfl, rfl⟩) (by assumption) ?_
                  (try simp only [Act.put, List.setIfInBounds_toArray, List.set_cons_zero, List.set_cons_succ])
                  refine tkH (i := 12) (oi := { dst := some 91, op := Op.convert 21 3 (Operand.tmp 90), type := 3, pos := "heads.go:91", after := #[{ on := 11, ground := Ground.data }, { on := 6, ground := Ground.guard }], guard := some (6, true) }) (v := undef) rfl (by kernel_rfl) (Or.inr ⟨by rfl, rfl⟩) (by assumption) ?_
                  (try simp only [Act.put, List.setIfInBounds_toArray, List.set_cons_zero, List.set_cons_succ])
                  refine tkH (i := 13) (oi := { dst := some 92, op := Op.fieldAddr 25 (Operand.tmp 2) 0, type := 0, pos := "heads.go:91", after := #[{ on := 6, ground := Ground.guard }], guard := some (6, true) }) (v := undef) rfl (by kernel_rfl) (Or.inr ⟨by rfl, rfl⟩) (by assumption) ?_
                  (try simp only [Act.put, List.setIfInBounds_toArray, List.set_cons_zero, List.set_cons_succ])
                  refine tkH (i := 14) (oi := { dst := some 93, op := Op.load 22 (Operand.tmp 92), type := 22, pos := "heads.go:91", after := #[{ on := 13, ground := Ground.data }, { on := 6, ground := Ground.guard }], guard := some (6, true) }) (v := undef) rfl (by kernel_rfl) (Or.inr ⟨by rfl, rfl⟩) (by assumption) ?_
                  (try simp only [Act.put, List.setIfInBounds_toArray, List.set_cons_zero, List.set_cons_succ])
                  refine tkH (i := 15) (oi := { dst := some 94, op := Op.move (Operand.tmp 6), type := 3, pos := "heads.go:91", after := #[{ on := 6, ground := Ground.guard }], guard := some (6, true) }) (v := undef) rfl (by kernel_rfl) (Or.inr ⟨by rfl, rfl⟩) (by assumption) ?_
                  (try simp only [Act.put, List.setIfInBounds_toArray, List.set_cons_zero, List.set_cons_succ])
                  refine tkH (i := 16) (oi := { dst := some 95, op := Op.indexAddr 22 (Operand.tmp 93) (Operand.tmp 94), type := 0, pos := "heads.go:91", after := #[{ on := 14, ground := Ground.data }, { on := 15, ground := Ground.data }, { on := 6, ground := Ground.guard }], guard := some (6, true) }) (v := undef) rfl (by kernel_rfl) (Or.inr ⟨by rfl, rfl⟩) (by assumption) ?_
                  (try simp only [Act.put, List.setIfInBounds_toArray, List.set_cons_zero, List.set_cons_succ])
                  refine tkH (i := 17) (oi := { dst := some 96, op := Op.fieldAddr 58 (Operand.tmp 95) 4, type := 0, pos := "heads.go:91", after := #[{ on := 16, ground := Ground.data }, { on := 6, ground := Ground.guard }], guard := some (6, true) }) (v := undef) rfl (by kernel_rfl) (Or.inr ⟨by rfl, rfl⟩) (by assumption) ?_
                  (try simp only [Act.put, List.setIfInBounds_toArray, List.set_cons_zero, List.set_cons_succ])
                  refine tkH (i := 18) (oi := { dst := some 97, op := Op.load 3 (Operand.tmp 96), type := 3, pos := "heads.go:91", after := #[{ on := 17, ground := Ground.data }, { on := 6, ground := Ground.guard }], guard := some (6, true) }) (v := undef) rfl (by kernel_rfl) (Or.inr ⟨by rfl, rfl⟩) (by assumption) ?_
                  (try simp only [Act.put, List.setIfInBounds_toArray, List.set_cons_zero, List.set_cons_succ])
                  refine tkH (i := 19) (oi := { dst := some 98, op := Op.binOp BinOp.gtr 3 (Operand.tmp 91) (Operand.tmp 97) 3, type := 4, pos := "heads.go:91", after := #[{ on := 12, ground := Ground.data }, { on := 18, ground := Ground.data }, { on := 6, ground := Ground.guard }], guard := some (6, true) }) (v := undef) rfl (by kernel_rfl) (Or.inr ⟨by rfl, rfl⟩) (by assumption) ?_
                  (try simp only [Act.put, List.setIfInBounds_toArray, List.set_cons_zero, List.set_cons_succ])
                  (refine tkH (i := 20) (oi := { dst := some 99, op := Op.pick (Operand.tmp 85) (Operand.tmp 98) (Operand.const (Value.bool false)), type := 4, pos := "heads.go:91", after := #[{ on := 6, ground := Ground.data }, { on := 19, ground := Ground.data }], guard := none }) (v := ?_) rfl (by kernel_rfl) (Or.inl ⟨by rfl, ?_⟩) (by assumption) ?_; rotate_left; focus (intro wz hSz; (try dsimp only at hSz); go_simp; all_goals (with_reducible rfl)))
                  (try simp only [Act.put, List.setIfInBounds_toArray, List.set_cons_zero, List.set_cons_succ])
                  (refine tkH (i := 21) (oi := { dst := some 100, op := Op.move (Operand.tmp 99), type := 4, pos := "heads.go:91", after := #[{ on := 20, ground := Ground.data }, { on := 6, ground := Ground.chain }], guard := none }) (v := ?_) rfl (by kernel_rfl) (Or.inl ⟨by rfl, ?_⟩) (by assumption) ?_; rotate_left; focus (intro wz hSz; (try dsimp only at hSz); go_simp; all_goals (with_reducible rfl)))
                  (try simp only [Act.put, List.setIfInBounds_toArray, List.set_cons_zero, List.set_cons_succ])
                  (refine tkH (i := 22) (oi := { dst := some 101, op := Op.fieldAddr 29 (Operand.tmp 3) 0, type := 0, pos := "heads.go:91", after := #[{ on := 21, ground := Ground.guard }], guard := some (21, false) }) (v := ?_) rfl (by kernel_rfl) (Or.inl ⟨by rfl, ?_⟩) (by assumption) ?_; rotate_left; focus (intro wz hSz; (try dsimp only at hSz); go_simp; all_goals (with_reducible rfl)))
                  (try simp only [Act.put, List.setIfInBounds_toArray, List.set_cons_zero, List.set_cons_succ])
                  (refine tkH (i := 23) (oi := { dst := some 102, op := Op.load 26 (Operand.tmp 101), type := 26, pos := "heads.go:91", after := #[{ on := 22, ground := Ground.data }, { on := 21, ground := Ground.guard }], guard := some (21, false) }) (v := ?_) rfl (by kernel_rfl) (Or.inl ⟨by rfl, ?_⟩) (by assumption) ?_; rotate_left; focus (intro wz hSz; (try dsimp only at hSz); go_simp; all_goals (with_reducible rfl)))
                  (try simp only [Act.put, List.setIfInBounds_toArray, List.set_cons_zero, List.set_cons_succ])
                  (refine tkH (i := 24) (oi := { dst := some 103, op := Op.move (Operand.tmp 6), type := 3, pos := "heads.go:91", after := #[{ on := 21, ground := Ground.guard }], guard := some (21, false) }) (v := ?_) rfl (by kernel_rfl) (Or.inl ⟨by rfl, ?_⟩) (by assumption) ?_; rotate_left; focus (intro wz hSz; (try dsimp only at hSz); go_simp; all_goals (with_reducible rfl)))
                  (try simp only [Act.put, List.setIfInBounds_toArray, List.set_cons_zero, List.set_cons_succ])
                  (refine tkH (i := 25) (oi := { dst := some 104, op := Op.indexAddr 26 (Operand.tmp 102) (Operand.tmp 103), type := 0, pos := "heads.go:91", after := #[{ on := 23, ground := Ground.data }, { on := 24, ground := Ground.data }, { on := 21, ground := Ground.guard }], guard := some (21, false) }) (v := ?_) rfl (by kernel_rfl) (Or.inl ⟨by rfl, ?_⟩) (by assumption) ?_; rotate_left; focus (intro wz hSz; (try dsimp only at hSz); go_simp; all_goals (with_reducible rfl)))
                  (try simp only [Act.put, List.setIfInBounds_toArray, List.set_cons_zero, List.set_cons_succ])
                  (refine tkH (i := 26) (oi := { dst := some 105, op := Op.load 3 (Operand.tmp 104), type := 3, pos := "heads.go:91", after := #[{ on := 25, ground := Ground.data }, { on := 21, ground := Ground.guard }], guard := some (21, false) }) (v := ?_) rfl (by kernel_rfl) (Or.inl ⟨by rfl, ?_⟩) (by assumption) ?_; rotate_left; focus (intro wz hSz; (try dsimp only at hSz); go_simp; all_goals (with_reducible rfl)))
                  (try simp only [Act.put, List.setIfInBounds_toArray, List.set_cons_zero, List.set_cons_succ])
                  (refine tkH (i := 27) (oi := { dst := some 106, op := Op.binOp BinOp.eql 3 (Operand.tmp 105) (Operand.const (Value.int IntKind.i64 3)) 3, type := 4, pos := "heads.go:91", after := #[{ on := 26, ground := Ground.data }, { on := 21, ground := Ground.guard }], guard := some (21, false) }) (v := ?_) rfl (by kernel_rfl) (Or.inl ⟨by rfl, ?_⟩) (by assumption) ?_; rotate_left; focus (intro wz hSz; (try dsimp only at hSz); go_simp; all_goals (with_reducible rfl)))
                  (try simp only [Act.put, List.setIfInBounds_toArray, List.set_cons_zero, List.set_cons_succ])
                  (refine tkH (i := 28) (oi := { dst := some 107, op := Op.move (Operand.tmp 106), type := 4, pos := "heads.go:91", after := #[{ on := 27, ground := Ground.data }, { on := 21, ground := Ground.chain }, { on := 21, ground := Ground.guard }], guard := some (21, false) }) (v := ?_) rfl (by kernel_rfl) (Or.inl ⟨by rfl, ?_⟩) (by assumption) ?_; rotate_left; focus (intro wz hSz; (try dsimp only at hSz); go_simp; all_goals (with_reducible rfl)))
                  (try simp only [Act.put, List.setIfInBounds_toArray, List.set_cons_zero, List.set_cons_succ])
                  refine tkH (i := 29) (oi := { dst := some 108, op := Op.fieldAddr 29 (Operand.tmp 3) 1, type := 0, pos := "heads.go:91", after := #[{ on := 28, ground := Ground.guard }], guard := some (28, true) }) (v := undef) rfl (by kernel_rfl) (Or.inr ⟨by rfl, rfl⟩) (by assumption) ?_
                  (try simp only [Act.put, List.setIfInBounds_toArray, List.set_cons_zero, List.set_cons_succ])
                  refine tkH (i := 30) (oi := { dst := some 109, op := Op.load 27 (Operand.tmp 108), type := 27, pos := "heads.go:91", after := #[{ on := 29, ground := Ground.data }, { on := 28, ground := Ground.guard }], guard := some (28, true) }) (v := undef) rfl (by kernel_rfl) (Or.inr ⟨by rfl, rfl⟩) (by assumption) ?_
                  (try simp only [Act.put, List.setIfInBounds_toArray, List.set_cons_zero, List.set_cons_succ])
                  refine tkH (i := 31) (oi := { dst := some 110, op := Op.move (Operand.tmp 6), type := 3, pos := "heads.go:91", after := #[{ on := 28, ground := Ground.guard }], guard := some (28, true) }) (v := undef) rfl (by kernel_rfl) (Or.inr ⟨by rfl, rfl⟩) (by assumption) ?_
                  (try simp only [Act.put, List.setIfInBounds_toArray, List.set_cons_zero, List.set_cons_succ])
                  refine tkH (i := 32) (oi := { dst := some 111, op := Op.indexAddr 27 (Operand.tmp 109) (Operand.tmp 110), type := 0, pos := "heads.go:91", after := #[{ on := 30, ground := Ground.data }, { on := 31, ground := Ground.data }, { on := 28, ground := Ground.guard }], guard := some (28, true) }) (v := undef) rfl (by kernel_rfl) (Or.inr ⟨by rfl, rfl⟩) (by assumption) ?_
                  (try simp only [Act.put, List.setIfInBounds_toArray, List.set_cons_zero, List.set_cons_succ])
                  refine tkH (i := 33) (oi := { dst := some 112, op := Op.load 21 (Operand.tmp 111), type := 21, pos := "heads.go:91", after := #[{ on := 32, ground := Ground.data }, { on := 28, ground := Ground.guard }], guard := some (28, true) }) (v := undef) rfl (by kernel_rfl) (Or.inr ⟨by rfl, rfl⟩) (by assumption) ?_
                  (try simp only [Act.put, List.setIfInBounds_toArray, List.set_cons_zero, List.set_cons_succ])
                  refine tkH (i := 34) (oi := { dst := some 113, op := Op.convert 21 3 (Operand.tmp 112), type := 3, pos := "heads.go:91", after := #[{ on := 33, ground := Ground.data }, { on := 28, ground := Ground.guard }], guard := some (28, true) }) (v := undef) rfl (by kernel_rfl) (Or.inr ⟨by rfl, rfl⟩) (by assumption) ?_
                  (try simp only [Act.put, List.setIfInBounds_toArray, List.set_cons_zero, List.set_cons_succ])
                  refine tkH (i := 35) (oi := { dst := some 114, op := Op.fieldAddr 25 (Operand.tmp 2) 0, type := 0, pos := "heads.go:91", after := #[{ on := 28, ground := Ground.guard }], guard := some (28, true) }) (v := undef) rfl (by kernel_rfl) (Or.inr ⟨by rfl, rfl⟩) (by assumption) ?_
                  (try simp only [Act.put, List.setIfInBounds_toArray, List.set_cons_zero, List.set_cons_succ])
                  refine tkH (i := 36) (oi := { dst := some 115, op := Op.load 22 (Operand.tmp 114), type := 22, pos := "heads.go:91", after := #[{ on := 35, ground := Ground.data }, { on := 28, ground := Ground.guard }], guard := some (28, true) }) (v := undef) rfl (by kernel_rfl) (Or.inr ⟨by rfl, rfl⟩) (by assumption) ?_
                  (try simp only [Act.put, List.setIfInBounds_toArray, List.set_cons_zero, List.set_cons_succ])
                  refine tkH (i := 37) (oi := { dst := some 116, op := Op.move (Operand.tmp 6), type := 3, pos := "heads.go:91", after := #[{ on := 28, ground := Ground.guard }], guard := some (28, true) }) (v := undef) rfl (by kernel_rfl) (Or.inr ⟨by rfl, rfl⟩) (by assumption) ?_
                  (try simp only [Act.put, List.setIfInBounds_toArray, List.set_cons_zero, List.set_cons_succ])
                  refine tkH (i := 38) (oi := { dst := some 117, op := Op.indexAddr 22 (Operand.tmp 115) (Operand.tmp 116), type := 0, pos := "heads.go:91", after := #[{ on := 36, ground := Ground.data }, { on := 37, ground := Ground.data }, { on := 28, ground := Ground.guard }], guard := some (28, true) }) (v := undef) rfl (by kernel_rfl) (Or.inr ⟨by rfl, rfl⟩) (by assumption) ?_
                  (try simp only [Act.put, List.setIfInBounds_toArray, List.set_cons_zero, List.set_cons_succ])
                  refine tkH (i := 39) (oi := { dst := some 118, op := Op.fieldAddr 58 (Operand.tmp 117) 3, type := 0, pos := "heads.go:91", after := #[{ on := 38, ground := Ground.data }, { on := 28, ground := Ground.guard }], guard := some (28, true) }) (v := undef) rfl (by kernel_rfl) (Or.inr ⟨by rfl, rfl⟩) (by assumption) ?_
                  (try simp only [Act.put, List.setIfInBounds_toArray, List.set_cons_zero, List.set_cons_succ])
                  refine tkH (i := 40) (oi := { dst := some 119, op := Op.load 3 (Operand.tmp 118), type := 3, pos := "heads.go:91", after := #[{ on := 39, ground := Ground.data }, { on := 28, ground := Ground.guard }], guard := some (28, true) }) (v := undef) rfl (by kernel_rfl) (Or.inr ⟨by rfl, rfl⟩) (by assumption) ?_
                  (try simp only [Act.put, List.setIfInBounds_toArray, List.set_cons_zero, List.set_cons_succ])
                  refine tkH (i := 41) (oi := { dst := some 120, op := Op.binOp BinOp.gtr 3 (Operand.tmp 113) (Operand.tmp 119) 3, type := 4, pos := "heads.go:91", after := #[{ on := 34, ground := Ground.data }, { on := 40, ground := Ground.data }, { on := 28, ground := Ground.guard }], guard := some (28, true) }) (v := undef) rfl (by kernel_rfl) (Or.inr ⟨by rfl, rfl⟩) (by assumption) ?_
                  (try simp only [Act.put, List.setIfInBounds_toArray, List.set_cons_zero, List.set_cons_succ])
                  (refine tkH (i := 42) (oi := { dst := some 121, op := Op.pick (Operand.tmp 107) (Operand.tmp 120) (Operand.const (Value.bool false)), type := 4, pos := "heads.go:91", after := #[{ on := 28, ground := Ground.data }, { on := 41, ground := Ground.data }, { on := 21, ground := Ground.guard }], guard := some (21, false) }) (v := ?_) rfl (by kernel_rfl) (Or.inl ⟨by rfl, ?_⟩) (by assumption) ?_; rotate_left; focus (intro wz hSz; (try dsimp only at hSz); go_simp; all_goals (with_reducible rfl)))
                  (try simp only [Act.put, List.setIfInBounds_toArray, List.set_cons_zero, List.set_cons_succ])
                  (refine tkH (i := 43) (oi := { dst := some 122, op := Op.pick (Operand.tmp 100) (Operand.const (Value.bool true)) (Operand.tmp 121), type := 4, pos := "heads.go:91", after := #[{ on := 21, ground := Ground.data }, { on := 42, ground := Ground.data }], guard := none }) (v := ?_) rfl (by kernel_rfl) (Or.inl ⟨by rfl, ?_⟩) (by assumption) ?_; rotate_left; focus (intro wz hSz; (try dsimp only at hSz); go_simp; all_goals (with_reducible rfl)))
                  (try simp only [Act.put, List.setIfInBounds_toArray, List.set_cons_zero, List.set_cons_succ])
                  refine wpAnyH_done (by kernel_rfl) ?_ _
                  refine NoPanic.normal ?_
                  go_wp2_with fail
                  go_roundw
                  case rel => exact ⟨k + 1, by omega, by go_num, hs2, B.out.drew.drew, B1.out.drew.drew, hb.out.drew.drew⟩
                  case measure => simp [intOf]; omega
                · have C2 : (ya == 2) = false := by simpa using c2
                  have V : (!((0 : Int) == 0) == (ya == 2)) = true := by rw [C2]; rfl
                  rw [V]
                  clear V
                  have eV : fitB ⟨x0, x1, x2, x3, x4⟩ ya yi 0 = false := by unfold fitB; simp [c2]
                  have hR : R = false := by rw [← hs', eV]; simp
                  subst hR
                  clear hs' eV
                  go_wp2_with fail
                  go_ret
                  exact ⟨rfl, hb.out.drew⟩
              · have C1 : (yw == 0) = false := by simpa using c1
                by_cases c2 : ya = 2
                · subst c2
                  have V : (!(yw == 0) == ((2 : Int) == 2)) = true := by rw [C1]; rfl
                  rw [V]
                  clear V
                  have eV : fitB ⟨x0, x1, x2, x3, x4⟩ 2 yi yw = false := by unfold fitB; simp [c1]
                  have hR : R = false := by rw [← hs', eV]; simp
                  subst hR
                  clear hs' eV
                  go_wp2_with fail
                  go_ret
                  exact ⟨rfl, hb.out.drew⟩
                · have C2 : (ya == 2) = false := by simpa using c2
                  have V : (!(yw == 0) == (ya == 2)) = false := by rw [C1, C2]; rfl
                  rw [V]
                  clear V
                  go_upto_region 9 with fail
                  by_cases f1 : ya = 1
                  · subst f1
                    by_cases f2 : yi > x4
                    · skip
                      have eV : fitB ⟨x0, x1, x2, x3, x4⟩ 1 yi yw = false := by unfold fitB; simp; omega
                      have hR : R = false := by rw [← hs', eV]; simp
                      subst hR
                      clear hs' eV
                      refine wp_region_noPanic ?_
                      refine wp_region_held_drew (S := fun w' => (w'.cell? ⟨w.heap.size, 0, none⟩ = some (.slice (some ⟨g, o, none⟩) G.length cg) ∧ w'.cell? ⟨w.heap.size, 1, none⟩ = some (.slice vb C.length cc)) ∧ (w'.cell? ⟨w.heap.size + 1, 0, none⟩ = some (.slice (some ⟨gA, oA, none⟩) A.length cA) ∧ w'.cell? ⟨w.heap.size + 1, 1, none⟩ = some (.slice (some ⟨gI, oI, none⟩) I.length cI) ∧ w'.cell? ⟨w.heap.size + 1, 2, none⟩ = some (.slice (some ⟨gW, oW, none⟩) W.length cW)) ∧ (w'.cell? ⟨gA, oA + k, none⟩ = some (.int .i64 1) ∧ w'.cell? ⟨gI, oI + k, none⟩ = some (.int .i32 yi) ∧ w'.cell? ⟨gW, oW + k, none⟩ = some (.int .i32 yw)) ∧ (w'.cell? ⟨g, o + k * 5, none⟩ = some (.string x0) ∧ w'.cell? ⟨g, o + k * 5 + 1, none⟩ = some (.int .i64 x1) ∧ w'.cell? ⟨g, o + k * 5 + 2, none⟩ = some (.int .i64 x2) ∧ w'.cell? ⟨g, o + k * 5 + 3, none⟩ = some (.int .i64 x3) ∧ w'.cell? ⟨g, o + k * 5 + 4, none⟩ = some (.int .i64 x4))) (by kernel_rfl) ?_ (fun hHeld => ?_)
                      · (try dsimp only)
                        exact ⟨has2b B.out.drew.drew, has3 B1.out.drew.drew, hP _ hb.out.drew.drew, hQ _ hb.out.drew.drew⟩
                      (refine tkH (i := 0) (oi := { dst := some 79, op := Op.fieldAddr 29 (Operand.tmp 3) 0, type := 0, pos := "heads.go:91", after := #[], guard := none }) (v := ?_) rfl (by kernel_rfl) (Or.inl ⟨by rfl, ?_⟩) (by assumption) ?_; rotate_left; focus (intro wz hSz; (try dsimp only at hSz); go_simp; all_goals (with_reducible rfl)))
                      (try simp only [Act.put, List.setIfInBounds_toArray, List.set_cons_zero, List.set_cons_succ])
                      (refine tkH (i := 1) (oi := { dst := some 80, op := Op.load 26 (Operand.tmp 79), type := 26, pos := "heads.go:91", after := #[{ on := 0, ground := Ground.data }], guard := none }) (v := ?_) rfl (by kernel_rfl) (Or.inl ⟨by rfl, ?_⟩) (by assumption) ?_; rotate_left; focus (intro wz hSz; (try dsimp only at hSz); go_simp; all_goals (with_reducible rfl)))
                      (try simp only [Act.put, List.setIfInBounds_toArray, List.set_cons_zero, List.set_cons_succ])
                      (refine tkH (i := 2) (oi := { dst := some 81, op := Op.move (Operand.tmp 6), type := 3, pos := "heads.go:91", after := #[], guard := none }) (v := ?_) rfl (by kernel_rfl) (Or.inl ⟨by rfl, ?_⟩) (by assumption) ?_; rotate_left; focus (intro wz hSz; (try dsimp only at hSz); go_simp; all_goals (with_reducible rfl)))
                      (try simp only [Act.put, List.setIfInBounds_toArray, List.set_cons_zero, List.set_cons_succ])
                      (refine tkH (i := 3) (oi := { dst := some 82, op := Op.indexAddr 26 (Operand.tmp 80) (Operand.tmp 81), type := 0, pos := "heads.go:91", after := #[{ on := 1, ground := Ground.data }, { on := 2, ground := Ground.data }], guard := none }) (v := ?_) rfl (by kernel_rfl) (Or.inl ⟨by rfl, ?_⟩) (by assumption) ?_; rotate_left; focus (intro wz hSz; (try dsimp only at hSz); go_simp; all_goals (with_reducible rfl)))
                      (try simp only [Act.put, List.setIfInBounds_toArray, List.set_cons_zero, List.set_cons_succ])
                      (refine tkH (i := 4) (oi := { dst := some 83, op := Op.load 3 (Operand.tmp 82), type := 3, pos := "heads.go:91", after := #[{ on := 3, ground := Ground.data }], guard := none }) (v := ?_) rfl (by kernel_rfl) (Or.inl ⟨by rfl, ?_⟩) (by assumption) ?_; rotate_left; focus (intro wz hSz; (try dsimp only at hSz); go_simp; all_goals (with_reducible rfl)))
                      (try simp only [Act.put, List.setIfInBounds_toArray, List.set_cons_zero, List.set_cons_succ])
                      (refine tkH (i := 5) (oi := { dst := some 84, op := Op.binOp BinOp.eql 3 (Operand.tmp 83) (Operand.const (Value.int IntKind.i64 1)) 3, type := 4, pos := "heads.go:91", after := #[{ on := 4, ground := Ground.data }], guard := none }) (v := ?_) rfl (by kernel_rfl) (Or.inl ⟨by rfl, ?_⟩) (by assumption) ?_; rotate_left; focus (intro wz hSz; (try dsimp only at hSz); go_simp; all_goals (with_reducible rfl)))
                      (try simp only [Act.put, List.setIfInBounds_toArray, List.set_cons_zero, List.set_cons_succ])
                      (refine tkH (i := 6) (oi := { dst := some 85, op := Op.move (Operand.tmp 84), type := 4, pos := "heads.go:91", after := #[{ on := 5, ground := Ground.data }], guard := none }) (v := ?_) rfl (by kernel_rfl) (Or.inl ⟨by rfl, ?_⟩) (by assumption) ?_; rotate_left; focus (intro wz hSz; (try dsimp only at hSz); go_simp; all_goals (with_reducible rfl)))
                      (try simp only [Act.put, List.setIfInBounds_toArray, List.set_cons_zero, List.set_cons_succ])
                      (refine tkH (i := 7) (oi := { dst := some 86, op := Op.fieldAddr 29 (Operand.tmp 3) 1, type := 0, pos := "heads.go:91", after := #[{ on := 6, ground := Ground.guard }], guard := some (6, true) }) (v := ?_) rfl (by kernel_rfl) (Or.inl ⟨by rfl, ?_⟩) (by assumption) ?_; rotate_left; focus (intro wz hSz; (try dsimp only at hSz); go_simp; all_goals (with_reducible rfl)))
                      (try simp only [Act.put, List.setIfInBounds_toArray, List.set_cons_zero, List.set_cons_succ])
                      (refine tkH (i := 8) (oi := { dst := some 87, op := Op.load 27 (Operand.tmp 86), type := 27, pos := "heads.go:91", after := #[{ on := 7, ground := Ground.data }, { on := 6, ground := Ground.guard }], guard := some (6, true) }) (v := ?_) rfl (by kernel_rfl) (Or.inl ⟨by rfl, ?_⟩) (by assumption) ?_; rotate_left; focus (intro wz hSz; (try dsimp only at hSz); go_simp; all_goals (with_reducible rfl)))
                      (try simp only [Act.put, List.setIfInBounds_toArray, List.set_cons_zero, List.set_cons_succ])
                      (refine tkH (i := 9) (oi := { dst := some 88, op := Op.move (Operand.tmp 6), type := 3, pos := "heads.go:91", after := #[{ on := 6, ground := Ground.guard }], guard := some (6, true) }) (v := ?_) rfl (by kernel_rfl) (Or.inl ⟨by rfl, ?_⟩) (by assumption) ?_; rotate_left; focus (intro wz hSz; (try dsimp only at hSz); go_simp; all_goals (with_reducible rfl)))
                      (try simp only [Act.put, List.setIfInBounds_toArray, List.set_cons_zero, List.set_cons_succ])
                      (refine tkH (i := 10) (oi := { dst := some 89, op := Op.indexAddr 27 (Operand.tmp 87) (Operand.tmp 88), type := 0, pos := "heads.go:91", after := #[{ on := 8, ground := Ground.data }, { on := 9, ground := Ground.data }, { on := 6, ground := Ground.guard }], guard := some (6, true) }) (v := ?_) rfl (by kernel_rfl) (Or.inl ⟨by rfl, ?_⟩) (by assumption) ?_; rotate_left; focus (intro wz hSz; (try dsimp only at hSz); go_simp; all_goals (with_reducible rfl)))
                      (try simp only [Act.put, List.setIfInBounds_toArray, List.set_cons_zero, List.set_cons_succ])
                      (refine tkH (i := 11) (oi := { dst := some 90, op := Op.load 21 (Operand.tmp 89), type := 21, pos := "heads.go:91", after := #[{ on := 10, ground := Ground.data }, { on := 6, ground := Ground.guard }], guard := some (6, true) }) (v := ?_) rfl (by kernel_rfl) (Or.inl ⟨by rfl, ?_⟩) (by assumption) ?_; rotate_left; focus (intro wz hSz; (try dsimp only at hSz); go_simp; all_goals (with_reducible rfl)))
                      (try simp only [Act.put, List.setIfInBounds_toArray, List.set_cons_zero, List.set_cons_succ])
                      (refine tkH (i := 12) (oi := { dst := some 91, op := Op.convert 21 3 (Operand.tmp 90), type := 3, pos := "heads.go:91", after := #[{ on := 11, ground := Ground.data }, { on := 6, ground := Ground.guard }], guard := some (6, true) }) (v := ?_) rfl (by kernel_rfl) (Or.inl ⟨by rfl, ?_⟩) (by assumption) ?_; rotate_left; focus (intro wz hSz; (try dsimp only at hSz); go_simp; all_goals (with_reducible rfl)))
                      (try simp only [Act.put, List.setIfInBounds_toArray, List.set_cons_zero, List.set_cons_succ])
                      (refine tkH (i := 13) (oi := { dst := some 92, op := Op.fieldAddr 25 (Operand.tmp 2) 0, type := 0, pos := "heads.go:91", after := #[{ on := 6, ground := Ground.guard }], guard := some (6, true) }) (v := ?_) rfl (by kernel_rfl) (Or.inl ⟨by rfl, ?_⟩) (by assumption) ?_; rotate_left; focus (intro wz hSz; (try dsimp only at hSz); go_simp; all_goals (with_reducible rfl)))
                      (try simp only [Act.put, List.setIfInBounds_toArray, List.set_cons_zero, List.set_cons_succ])
                      (refine tkH (i := 14) (oi := { dst := some 93, op := Op.load 22 (Operand.tmp 92), type := 22, pos := "heads.go:91", after := #[{ on := 13, ground := Ground.data }, { on := 6, ground := Ground.guard }], guard := some (6, true) }) (v := ?_) rfl (by kernel_rfl) (Or.inl ⟨by rfl, ?_⟩) (by assumption) ?_; rotate_left; focus (intro wz hSz; (try dsimp only at hSz); go_simp; all_goals (with_reducible rfl)))
                      (try simp only [Act.put, List.setIfInBounds_toArray, List.set_cons_zero, List.set_cons_succ])
                      (refine tkH (i := 15) (oi := { dst := some 94, op := Op.move (Operand.tmp 6), type := 3, pos := "heads.go:91", after := #[{ on := 6, ground := Ground.guard }], guard := some (6, true) }) (v := ?_) rfl (by kernel_rfl) (Or.inl ⟨by rfl, ?_⟩) (by assumption) ?_; rotate_left; focus (intro wz hSz; (try dsimp only at hSz); go_simp; all_goals (with_reducible rfl)))
                      (try simp only [Act.put, List.setIfInBounds_toArray, List.set_cons_zero, List.set_cons_succ])
                      (refine tkH (i := 16) (oi := { dst := some 95, op := Op.indexAddr 22 (Operand.tmp 93) (Operand.tmp 94), type := 0, pos := "heads.go:91", after := #[{ on := 14, ground := Ground.data }, { on := 15, ground := Ground.data }, { on := 6, ground := Ground.guard }], guard := some (6, true) }) (v := ?_) rfl (by kernel_rfl) (Or.inl ⟨by rfl, ?_⟩) (by assumption) ?_; rotate_left; focus (intro wz hSz; (try dsimp only at hSz); go_simp; all_goals (with_reducible rfl)))
                      (try simp only [Act.put, List.setIfInBounds_toArray, List.set_cons_zero, List.set_cons_succ])
                      (refine tkH (i := 17) (oi := { dst := some 96, op := Op.fieldAddr 58 (Operand.tmp 95) 4, type := 0, pos := "heads.go:91", after := #[{ on := 16, ground := Ground.data }, { on := 6, ground := Ground.guard }], guard := some (6, true) }) (v := ?_) rfl (by kernel_rfl) (Or.inl ⟨by rfl, ?_⟩) (by assumption) ?_; rotate_left; focus (intro wz hSz; (try dsimp only at hSz); go_simp; all_goals (with_reducible rfl)))
                      (try simp only [Act.put, List.setIfInBounds_toArray, List.set_cons_zero, List.set_cons_succ])
                      (refine tkH (i := 18) (oi := { dst := some 97, op := Op.load 3 (Operand.tmp 96), type := 3, pos := "heads.go:91", after := #[{ on := 17, ground := Ground.data }, { on := 6, ground := Ground.guard }], guard := some (6, true) }) (v := ?_) rfl (by kernel_rfl) (Or.inl ⟨by rfl, ?_⟩) (by assumption) ?_; rotate_left; focus (intro wz hSz; (try dsimp only at hSz); go_simp; all_goals (with_reducible rfl)))
                      (try simp only [Act.put, List.setIfInBounds_toArray, List.set_cons_zero, List.set_cons_succ])
                      (refine tkH (i := 19) (oi := { dst := some 98, op := Op.binOp BinOp.gtr 3 (Operand.tmp 91) (Operand.tmp 97) 3, type := 4, pos := "heads.go:91", after := #[{ on := 12, ground := Ground.data }, { on := 18, ground := Ground.data }, { on := 6, ground := Ground.guard }], guard := some (6, true) }) (v := ?_) rfl (by kernel_rfl) (Or.inl ⟨by rfl, ?_⟩) (by assumption) ?_; rotate_left; focus (intro wz hSz; (try dsimp only at hSz); go_simp; all_goals (with_reducible rfl)))
                      (try simp only [Act.put, List.setIfInBounds_toArray, List.set_cons_zero, List.set_cons_succ])
                      (refine tkH (i := 20) (oi := { dst := some 99, op := Op.pick (Operand.tmp 85) (Operand.tmp 98) (Operand.const (Value.bool false)), type := 4, pos := "heads.go:91", after := #[{ on := 6, ground := Ground.data }, { on := 19, ground := Ground.data }], guard := none }) (v := ?_) rfl (by kernel_rfl) (Or.inl ⟨by rfl, ?_⟩) (by assumption) ?_; rotate_left; focus (intro wz hSz; (try dsimp only at hSz); go_simp; all_goals (with_reducible rfl)))
                      (try simp only [Act.put, List.setIfInBounds_toArray, List.set_cons_zero, List.set_cons_succ])
                      (refine tkH (i := 21) (oi := { dst := some 100, op := Op.move (Operand.tmp 99), type := 4, pos := "heads.go:91", after := #[{ on := 20, ground := Ground.data }, { on := 6, ground := Ground.chain }], guard := none }) (v := ?_) rfl (by kernel_rfl) (Or.inl ⟨by rfl, ?_⟩) (by assumption) ?_; rotate_left; focus (intro wz hSz; (try dsimp only at hSz); go_simp; all_goals (with_reducible rfl)))
                      (try simp only [Act.put, List.setIfInBounds_toArray, List.set_cons_zero, List.set_cons_succ])
                      refine tkH (i := 22) (oi := { dst := some 101, op := Op.fieldAddr 29 (Operand.tmp 3) 0, type := 0, pos := "heads.go:91", after := #[{ on := 21, ground := Ground.guard }], guard := some (21, false) }) (v := undef) rfl (by kernel_rfl) (Or.inr ⟨by rfl, rfl⟩) (by assumption) ?_
                      (try simp only [Act.put, List.setIfInBounds_toArray, List.set_cons_zero, List.set_cons_succ])
                      refine tkH (i := 23) (oi := { dst := some 102, op := Op.load 26 (Operand.tmp 101), type := 26, pos := "heads.go:91", after := #[{ on := 22, ground := Ground.data }, { on := 21, ground := Ground.guard }], guard := some (21, false) }) (v := undef) rfl (by kernel_rfl) (Or.inr ⟨by rfl, rfl⟩) (by assumption) ?_
                      (try simp only [Act.put, List.setIfInBounds_toArray, List.set_cons_zero, List.set_cons_succ])
                      refine tkH (i := 24) (oi := { dst := some 103, op := Op.move (Operand.tmp 6), type := 3, pos := "heads.go:91", after := #[{ on := 21, ground := Ground.guard }], guard := some (21, false) }) (v := undef) rfl (by kernel_rfl) (Or.inr ⟨by rfl, rfl⟩) (by assumption) ?_
                      (try simp only [Act.put, List.setIfInBounds_toArray, List.set_cons_zero, List.set_cons_succ])
                      refine tkH (i := 25) (oi := { dst := some 104, op := Op.indexAddr 26 (Operand.tmp 102) (Operand.tmp 103), type := 0, pos := "heads.go:91", after := #[{ on := 23, ground := Ground.data }, { on := 24, ground := Ground.data }, { on := 21, ground := Ground.guard }], guard := some (21, false) }) (v := undef) rfl (by kernel_rfl) (Or.inr ⟨by rfl, rfl⟩) (by assumption) ?_
                      (try simp only [Act.put, List.setIfInBounds_toArray, List.set_cons_zero, List.set_cons_succ])
                      refine tkH (i := 26) (oi := { dst := some 105, op := Op.load 3 (Operand.tmp 104), type := 3, pos := "heads.go:91", after := #[{ on := 25, ground := Ground.data }, { on := 21, ground := Ground.guard }], guard := some (21, false) }) (v := undef) rfl (by kernel_rfl) (Or.inr ⟨by rfl, rfl⟩) (by assumption) ?_
                      (try simp only [Act.put, List.setIfInBounds_toArray, List.set_cons_zero, List.set_cons_succ])
                      refine tkH (i := 27) (oi := { dst := some 106, op := Op.binOp BinOp.eql 3 (Operand.tmp 105) (Operand.const (Value.int IntKind.i64 3)) 3, type := 4, pos := "heads.go:91", after := #[{ on := 26, ground := Ground.data }, { on := 21, ground := Ground.guard }], guard := some (21, false) }) (v := undef) rfl (by kernel_rfl) (Or.inr ⟨by rfl, rfl⟩) (by assumption) ?_
                      (try simp only [Act.put, List.setIfInBounds_toArray, List.set_cons_zero, List.set_cons_succ])
                      refine tkH (i := 28) (oi := { dst := some 107, op := Op.move (Operand.tmp 106), type := 4, pos := "heads.go:91", after := #[{ on := 27, ground := Ground.data }, { on := 21, ground := Ground.chain }, { on := 21, ground := Ground.guard }], guard := some (21, false) }) (v := undef) rfl (by kernel_rfl) (Or.inr ⟨by rfl, rfl⟩) (by assumption) ?_
                      (try simp only [Act.put, List.setIfInBounds_toArray, List.set_cons_zero, List.set_cons_succ])
                      refine tkH (i := 29) (oi := { dst := some 108, op := Op.fieldAddr 29 (Operand.tmp 3) 1, type := 0, pos := "heads.go:91", after := #[{ on := 28, ground := Ground.guard }], guard := some (28, true) }) (v := undef) rfl (by kernel_rfl) (Or.inr ⟨by rfl, rfl⟩) (by assumption) ?_
                      (try simp only [Act.put, List.setIfInBounds_toArray, List.set_cons_zero, List.set_cons_succ])
                      refine tkH (i := 30) (oi := { dst := some 109, op := Op.load 27 (Operand.tmp 108), type := 27, pos := "heads.go:91", after := #[{ on := 29, ground := Ground.data }, { on := 28, ground := Ground.guard }], guard := some (28, true) }) (v := undef) rfl (by kernel_rfl) (Or.inr ⟨by rfl, rfl⟩) (by assumption) ?_
                      (try simp only [Act.put, List.setIfInBounds_toArray, List.set_cons_zero, List.set_cons_succ])
                      refine tkH (i := 31) (oi := { dst := some 110, op := Op.move (Operand.tmp 6), type := 3, pos := "heads.go:91", after := #[{ on := 28, ground := Ground.guard }], guard := some (28, true) }) (v := undef) rfl (by kernel_rfl) (Or.inr ⟨by rfl, rfl⟩) (by assumption) ?_
                      (try simp only [Act.put, List.setIfInBounds_toArray, List.set_cons_zero, List.set_cons_succ])
                      refine tkH (i := 32) (oi := { dst := some 111, op := Op.indexAddr 27 (Operand.tmp 109) (Operand.tmp 110), type := 0, pos := "heads.go:91", after := #[{ on := 30, ground := Ground.data }, { on := 31, ground := Ground.data }, { on := 28, ground := Ground.guard }], guard := some (28, true) }) (v := undef) rfl (by kernel_rfl) (Or.inr ⟨by rfl, rfl⟩) (by assumption) ?_
                      (try simp only [Act.put, List.setIfInBounds_toArray, List.set_cons_zero, List.set_cons_succ])
                      refine tkH (i := 33) (oi := { dst := some 112, op := Op.load 21 (Operand.tmp 111), type := 21, pos := "heads.go:91", after := #[{ on := 32, ground := Ground.data }, { on := 28, ground := Ground.guard }], guard := some (28, true) }) (v := undef) rfl (by kernel_rfl) (Or.inr ⟨by rfl, rfl⟩) (by assumption) ?_
                      (try simp only [Act.put, List.setIfInBounds_toArray, List.set_cons_zero, List.set_cons_succ])
                      refine tkH (i := 34) (oi := { dst := some 113, op := Op.convert 21 3 (Operand.tmp 112), type := 3, pos := "heads.go:91", after := #[{ on := 33, ground := Ground.data }, { on := 28, ground := Ground.guard }], guard := some (28, true) }) (v := undef) rfl (by kernel_rfl) (Or.inr ⟨by rfl, rfl⟩) (by assumption) ?_
                      (try simp only [Act.put, List.setIfInBounds_toArray, List.set_cons_zero, List.set_cons_succ])
                      refine tkH (i := 35) (oi := { dst := some 114, op := Op.fieldAddr 25 (Operand.tmp 2) 0, type := 0, pos := "heads.go:91", after := #[{ on := 28, ground := Ground.guard }], guard := some (28, true) }) (v := undef) rfl (by kernel_rfl) (Or.inr ⟨by rfl, rfl⟩) (by assumption) ?_
                      (try simp only [Act.put, List.setIfInBounds_toArray, List.set_cons_zero, List.set_cons_succ])
                      refine tkH (i := 36) (oi := { dst := some 115, op := Op.load 22 (Operand.tmp 114), type := 22, pos := "heads.go:91", after := #[{ on := 35, ground := Ground.data }, { on := 28, ground := Ground.guard }], guard := some (28, true) }) (v := undef) rfl (by kernel_rfl) (Or.inr ⟨by rfl, rfl⟩) (by assumption) ?_
                      (try simp only [Act.put, List.setIfInBounds_toArray, List.set_cons_zero, List.set_cons_succ])
                      refine tkH (i := 37) (oi := { dst := some 116, op := Op.move (Operand.tmp 6), type := 3, pos := "heads.go:91", after := #[{ on := 28, ground := Ground.guard }], guard := some (28, true) }) (v := undef) rfl (by kernel_rfl) (Or.inr ⟨by rfl, rfl⟩) (by assumption) ?_
                      (try simp only [Act.put, List.setIfInBounds_toArray, List.set_cons_zero, List.set_cons_succ])
                      refine tkH (i := 38) (oi := { dst := some 117, op := Op.indexAddr 22 (Operand.tmp 115) (Operand.tmp 116), type := 0, pos := "heads.go:91", after := #[{ on := 36, ground := Ground.data }, { on := 37, ground := Ground.data }, { on := 28, ground := Ground.guard }], guard := some (28, true) }) (v := undef) rfl (by kernel_rfl) (Or.inr ⟨by rfl, rfl⟩) (by assumption) ?_
                      (try simp only [Act.put, List.setIfInBounds_toArray, List.set_cons_zero, List.set_cons_succ])
                      refine tkH (i := 39) (oi := { dst := some 118, op := Op.fieldAddr 58 (Operand.tmp 117) 3, type := 0, pos := "heads.go:91", after := #[{ on := 38, ground := Ground.data }, { on := 28, ground := Ground.guard }], guard := some (28, true) }) (v := undef) rfl (by kernel_rfl) (Or.inr ⟨by rfl, rfl⟩) (by assumption) ?_
                      (try simp only [Act.put, List.setIfInBounds_toArray, List.set_cons_zero, List.set_cons_succ])
                      refine tkH (i := 40) (oi := { dst := some 119, op := Op.load 3 (Operand.tmp 118), type := 3, pos := "heads.go:91", after := #[{ on := 39, ground := Ground.data }, { on := 28, ground := Ground.guard }], guard := some (28, true) }) (v := undef) rfl (by kernel_rfl) (Or.inr ⟨by rfl, rfl⟩) (by assumption) ?_
                      (try simp only [Act.put, List.setIfInBounds_toArray, List.set_cons_zero, List.set_cons_succ])
                      refine tkH (i := 41) (oi := { dst := some 120, op := Op.binOp BinOp.gtr 3 (Operand.tmp 113) (Operand.tmp 119) 3, type := 4, pos := "heads.go:91", after := #[{ on := 34, ground := Ground.data }, { on := 40, ground := Ground.data }, { on := 28, ground := Ground.guard }], guard := some (28, true) }) (v := undef) rfl (by kernel_rfl) (Or.inr ⟨by rfl, rfl⟩) (by assumption) ?_
                      (try simp only [Act.put, List.setIfInBounds_toArray, List.set_cons_zero, List.set_cons_succ])
                      refine tkH (i := 42) (oi := { dst := some 121, op := Op.pick (Operand.tmp 107) (Operand.tmp 120) (Operand.const (Value.bool false)), type := 4, pos := "heads.go:91", after := #[{ on := 28, ground := Ground.data }, { on := 41, ground := Ground.data }, { on := 21, ground := Ground.guard }], guard := some (21, false) }) (v := undef) rfl (by kernel_rfl) (Or.inr ⟨by rfl, rfl⟩) (by assumption) ?_
                      (try simp only [Act.put, List.setIfInBounds_toArray, List.set_cons_zero, List.set_cons_succ])
                      (refine tkH (i := 43) (oi := { dst := some 122, op := Op.pick (Operand.tmp 100) (Operand.const (Value.bool true)) (Operand.tmp 121), type := 4, pos := "heads.go:91", after := #[{ on := 21, ground := Ground.data }, { on := 42, ground := Ground.data }], guard := none }) (v := ?_) rfl (by kernel_rfl) (Or.inl ⟨by rfl, ?_⟩) (by assumption) ?_; rotate_left; focus (intro wz hSz; (try dsimp only at hSz); go_simp; all_goals (with_reducible rfl)))
                      (try simp only [Act.put, List.setIfInBounds_toArray, List.set_cons_zero, List.set_cons_succ])
                      refine wpAnyH_done (by kernel_rfl) ?_ _
                      refine NoPanic.normal ?_
                      go_wp2_with fail
                      go_ret
                      exact ⟨rfl, hb.out.drew.drew⟩
                    · have F2 : decide (yi > x4) = false := decide_eq_false f2
                      have eV : fitB ⟨x0, x1, x2, x3, x4⟩ 1 yi yw = true := by unfold fitB; simp [q1, q2, c1]; omega
                      have hs2 : Hid ((fitsF (G.drop (k + 1)) (A.drop (k + 1)) (I.drop (k + 1)) (W.drop (k + 1)) && clearF A C) = R) := by show _ = _; rw [← hs', eV]; simp
                      clear hs' eV
                      refine wp_region_noPanic ?_
                      refine wp_region_held_drew (S := fun w' => (w'.cell? ⟨w.heap.size, 0, none⟩ = some (.slice (some ⟨g, o, none⟩) G.length cg) ∧ w'.cell? ⟨w.heap.size, 1, none⟩ = some (.slice vb C.length cc)) ∧ (w'.cell? ⟨w.heap.size + 1, 0, none⟩ = some (.slice (some ⟨gA, oA, none⟩) A.length cA) ∧ w'.cell? ⟨w.heap.size + 1, 1, none⟩ = some (.slice (some ⟨gI, oI, none⟩) I.length cI) ∧ w'.cell? ⟨w.heap.size + 1, 2, none⟩ = some (.slice (some ⟨gW, oW, none⟩) W.length cW)) ∧ (w'.cell? ⟨gA, oA + k, none⟩ = some (.int .i64 1) ∧ w'.cell? ⟨gI, oI + k, none⟩ = some (.int .i32 yi) ∧ w'.cell? ⟨gW, oW + k, none⟩ = some (.int .i32 yw)) ∧ (w'.cell? ⟨g, o + k * 5, none⟩ = some (.string x0) ∧ w'.cell? ⟨g, o + k * 5 + 1, none⟩ = some (.int .i64 x1) ∧ w'.cell? ⟨g, o + k * 5 + 2, none⟩ = some (.int .i64 x2) ∧ w'.cell? ⟨g, o + k * 5 + 3, none⟩ = some (.int .i64 x3) ∧ w'.cell? ⟨g, o + k * 5 + 4, none⟩ = some (.int .i64 x4))) (by kernel_rfl) ?_ (fun hHeld => ?_)
                      · (try dsimp only)
                        exact ⟨has2b B.out.drew.drew, has3 B1.out.drew.drew, hP _ hb.out.drew.drew, hQ _ hb.out.drew.drew⟩
                      (refine tkH (i := 0) (oi := { dst := some 79, op := Op.fieldAddr 29 (Operand.tmp 3) 0, type := 0, pos := "heads.go:91", after := #[], guard := none }) (v := ?_) rfl (by kernel_rfl) (Or.inl ⟨by rfl, ?_⟩) (by assumption) ?_; rotate_left; focus (intro wz hSz; (try dsimp only at hSz); go_simp; all_goals (with_reducible rfl)))
                      (try simp only [Act.put, List.setIfInBounds_toArray, List.set_cons_zero, List.set_cons_succ])
                      (refine tkH (i := 1) (oi := { dst := some 80, op := Op.load 26 (Operand.tmp 79), type := 26, pos := "heads.go:91", after := #[{ on := 0, ground := Ground.data }], guard := none }) (v := ?_) rfl (by kernel_rfl) (Or.inl ⟨by rfl, ?_⟩) (by assumption) ?_; rotate_left; focus (intro wz hSz; (try dsimp only at hSz); go_simp; all_goals (with_reducible rfl)))
                      (try simp only [Act.put, List.setIfInBounds_toArray, List.set_cons_zero, List.set_cons_succ])
                      (refine tkH (i := 2) (oi := { dst := some 81, op := Op.move (Operand.tmp 6), type := 3, pos := "heads.go:91", after := #[], guard := none }) (v := ?_) rfl (by kernel_rfl) (Or.inl ⟨by rfl, ?_⟩) (by assumption) ?_; rotate_left; focus (intro wz hSz; (try dsimp only at hSz); go_simp; all_goals (with_reducible rfl)))
                      (try simp only [Act.put, List.setIfInBounds_toArray, List.set_cons_zero, List.set_cons_succ])
                      (refine tkH (i := 3) (oi := { dst := some 82, op := Op.indexAddr 26 (Operand.tmp 80) (Operand.tmp 81), type := 0, pos := "heads.go:91", after := #[{ on := 1, ground := Ground.data }, { on := 2, ground := Ground.data }], guard := none }) (v := ?_) rfl (by kernel_rfl) (Or.inl ⟨by rfl, ?_⟩) (by assumption) ?_; rotate_left; focus (intro wz hSz; (try dsimp only at hSz); go_simp; all_goals (with_reducible rfl)))
                      (try simp only [Act.put, List.setIfInBounds_toArray, List.set_cons_zero, List.set_cons_succ])
                      (refine tkH (i := 4) (oi := { dst := some 83, op := Op.load 3 (Operand.tmp 82), type := 3, pos := "heads.go:91", after := #[{ on := 3, ground := Ground.data }], guard := none }) (v := ?_) rfl (by kernel_rfl) (Or.inl ⟨by rfl, ?_⟩) (by assumption) ?_; rotate_left; focus (intro wz hSz; (try dsimp only at hSz); go_simp; all_goals (with_reducible rfl)))
                      (try simp only [Act.put, List.setIfInBounds_toArray, List.set_cons_zero, List.set_cons_succ])
                      (refine tkH (i := 5) (oi := { dst := some 84, op := Op.binOp BinOp.eql 3 (Operand.tmp 83) (Operand.const (Value.int IntKind.i64 1)) 3, type := 4, pos := "heads.go:91", after := #[{ on := 4, ground := Ground.data }], guard := none }) (v := ?_) rfl (by kernel_rfl) (Or.inl ⟨by rfl, ?_⟩) (by assumption) ?_; rotate_left; focus (intro wz hSz; (try dsimp only at hSz); go_simp; all_goals (with_reducible rfl)))
                      (try simp only [Act.put, List.setIfInBounds_toArray, List.set_cons_zero, List.set_cons_succ])
                      (refine tkH (i := 6) (oi := { dst := some 85, op := Op.move (Operand.tmp 84), type := 4, pos := "heads.go:91", after := #[{ on := 5, ground := Ground.data }], guard := none }) (v := ?_) rfl (by kernel_rfl) (Or.inl ⟨by rfl, ?_⟩) (by assumption) ?_; rotate_left; focus (intro wz hSz; (try dsimp only at hSz); go_simp; all_goals (with_reducible rfl)))
                      (try simp only [Act.put, List.setIfInBounds_toArray, List.set_cons_zero, List.set_cons_succ])
                      (refine tkH (i := 7) (oi := { dst := some 86, op := Op.fieldAddr 29 (Operand.tmp 3) 1, type := 0, pos := "heads.go:91", after := #[{ on := 6, ground := Ground.guard }], guard := some (6, true) }) (v := ?_) rfl (by kernel_rfl) (Or.inl ⟨by rfl, ?_⟩) (by assumption) ?_; rotate_left; focus (intro wz hSz; (try dsimp only at hSz); go_simp; all_goals (with_reducible rfl)))
                      (try simp only [Act.put, List.setIfInBounds_toArray, List.set_cons_zero, List.set_cons_succ])
                      (refine tkH (i := 8) (oi := { dst := some 87, op := Op.load 27 (Operand.tmp 86), type := 27, pos := "heads.go:91", after := #[{ on := 7, ground := Ground.data }, { on := 6, ground := Ground.guard }], guard := some (6, true) }) (v := ?_) rfl (by kernel_rfl) (Or.inl ⟨by rfl, ?_⟩) (by assumption) ?_; rotate_left; focus (intro wz hSz; (try dsimp only at hSz); go_simp; all_goals (with_reducible rfl)))
                      (try simp only [Act.put, List.setIfInBounds_toArray, List.set_cons_zero, List.set_cons_succ])
                      (refine tkH (i := 9) (oi := { dst := some 88, op := Op.move (Operand.tmp 6), type := 3, pos := "heads.go:91", after := #[{ on := 6, ground := Ground.guard }], guard := some (6, true) }) (v := ?_) rfl (by kernel_rfl) (Or.inl ⟨by rfl, ?_⟩) (by assumption) ?_; rotate_left; focus (intro wz hSz; (try dsimp only at hSz); go_simp; all_goals (with_reducible rfl)))
                      (try simp only [Act.put, List.setIfInBounds_toArray, List.set_cons_zero, List.set_cons_succ])
                      (refine tkH (i := 10) (oi := { dst := some 89, op := Op.indexAddr 27 (Operand.tmp 87) (Operand.tmp 88), type := 0, pos := "heads.go:91", after := #[{ on := 8, ground := Ground.data }, { on := 9, ground := Ground.data }, { on := 6, ground := Ground.guard }], guard := some (6, true) }) (v := ?_) rfl (by kernel_rfl) (Or.inl ⟨by rfl, ?_⟩) (by assumption) ?_; rotate_left; focus (intro wz hSz; (try dsimp only at hSz); go_simp; all_goals (with_reducible rfl)))
                      (try simp only [Act.put, List.setIfInBounds_toArray, List.set_cons_zero, List.set_cons_succ])
                      (refine tkH (i := 11) (oi := { dst := some 90, op := Op.load 21 (Operand.tmp 89), type := 21, pos := "heads.go:91", after := #[{ on := 10, ground := Ground.data }, { on := 6, ground := Ground.guard }], guard := some (6, true) }) (v := ?_) rfl (by kernel_rfl) (Or.inl ⟨by rfl, ?_⟩) (by assumption) ?_; rotate_left; focus (intro wz hSz; (try dsimp only at hSz); go_simp; all_goals (with_reducible rfl)))
                      (try simp only [Act.put, List.setIfInBounds_toArray, List.set_cons_zero, List.set_cons_succ])
                      (refine tkH (i := 12) (oi := { dst := some 91, op := Op.convert 21 3 (Operand.tmp 90), type := 3, pos := "heads.go:91", after := #[{ on := 11, ground := Ground.data }, { on := 6, ground := Ground.guard }], guard := some (6, true) }) (v := ?_) rfl (by kernel_rfl) (Or.inl ⟨by rfl, ?_⟩) (by assumption) ?_; rotate_left; focus (intro wz hSz; (try dsimp only at hSz); go_simp; all_goals (with_reducible rfl)))
                      (try simp only [Act.put, List.setIfInBounds_toArray, List.set_cons_zero, List.set_cons_succ])
                      (refine tkH (i := 13) (oi := { dst := some 92, op := Op.fieldAddr 25 (Operand.tmp 2) 0, type := 0, pos := "heads.go:91", after := #[{ on := 6, ground := Ground.guard }], guard := some (6, true) }) (v := ?_) rfl (by kernel_rfl) (Or.inl ⟨by rfl, ?_⟩) (by assumption) ?_; rotate_left; focus (intro wz hSz; (try dsimp only at hSz); go_simp; all_goals (with_reducible rfl)))
                      (try simp only [Act.put, List.setIfInBounds_toArray, List.set_cons_zero, List.set_cons_succ])
                      (refine tkH (i := 14) (oi := { dst := some 93, op := Op.load 22 (Operand.tmp 92), type := 22, pos := "heads.go:91", after := #[{ on := 13, ground := Ground.data }, { on := 6, ground := Ground.guard }], guard := some (6, true) }) (v := ?_) rfl (by kernel_rfl) (Or.inl ⟨by rfl, ?_⟩) (by assumption) ?_; rotate_left; focus (intro wz hSz; (try dsimp only at hSz); go_simp; all_goals (with_reducible rfl)))
                      (try simp only [Act.put, List.setIfInBounds_toArray, List.set_cons_zero, List.set_cons_succ])
                      (refine tkH (i := 15) (oi := { dst := some 94, op := Op.move (Operand.tmp 6), type := 3, pos := "heads.go:91", after := #[{ on := 6, ground := Ground.guard }], guard := some (6, true) }) (v := ?_) rfl (by kernel_rfl) (Or.inl ⟨by rfl, ?_⟩) (by assumption) ?_; rotate_left; focus (intro wz hSz; (try dsimp only at hSz); go_simp; all_goals (with_reducible rfl)))
                      (try simp only [Act.put, List.setIfInBounds_toArray, List.set_cons_zero, List.set_cons_succ])
                      (refine tkH (i := 16) (oi := { dst := some 95, op := Op.indexAddr 22 (Operand.tmp 93) (Operand.tmp 94), type := 0, pos := "heads.go:91", after := #[{ on := 14, ground := Ground.data }, { on := 15, ground := Ground.data }, { on := 6, ground := Ground.guard }], guard := some (6, true) }) (v := ?_) rfl (by kernel_rfl) (Or.inl ⟨by rfl, ?_⟩) (by assumption) ?_; rotate_left; focus (intro wz hSz; (try dsimp only at hSz); go_simp; all_goals (with_reducible rfl)))
                      (try simp only [Act.put, List.setIfInBounds_toArray, List.set_cons_zero, List.set_cons_succ])
                      (refine tkH (i := 17) (oi := { dst := some 96, op := Op.fieldAddr 58 (Operand.tmp 95) 4, type := 0, pos := "heads.go:91", after := #[{ on := 16, ground := Ground.data }, { on := 6, ground := Ground.guard }], guard := some (6, true) }) (v := ?_) rfl (by kernel_rfl) (Or.inl ⟨by rfl, ?_⟩) (by assumption) ?_; rotate_left; focus (intro wz hSz; (try dsimp only at hSz); go_simp; all_goals (with_reducible rfl)))
                      (try simp only [Act.put, List.setIfInBounds_toArray, List.set_cons_zero, List.set_cons_succ])
                      (refine tkH (i := 18) (oi := { dst := some 97, op := Op.load 3 (Operand.tmp 96), type := 3, pos := "heads.go:91", after := #[{ on := 17, ground := Ground.data }, { on := 6, ground := Ground.guard }], guard := some (6, true) }) (v := ?_) rfl (by kernel_rfl) (Or.inl ⟨by rfl, ?_⟩) (by assumption) ?_; rotate_left; focus (intro wz hSz; (try dsimp only at hSz); go_simp; all_goals (with_reducible rfl)))
                      (try simp only [Act.put, List.setIfInBounds_toArray, List.set_cons_zero, List.set_cons_succ])
                      (refine tkH (i := 19) (oi := { dst := some 98, op := Op.binOp BinOp.gtr 3 (Operand.tmp 91) (Operand.tmp 97) 3, type := 4, pos := "heads.go:91", after := #[{ on := 12, ground := Ground.data }, { on := 18, ground := Ground.data }, { on := 6, ground := Ground.guard }], guard := some (6, true) }) (v := ?_) rfl (by kernel_rfl) (Or.inl ⟨by rfl, ?_⟩) (by assumption) ?_; rotate_left; focus (intro wz hSz; (try dsimp only at hSz); go_simp; all_goals (with_reducible rfl)))
                      (try simp only [Act.put, List.setIfInBounds_toArray, List.set_cons_zero, List.set_cons_succ])
                      (refine tkH (i := 20) (oi := { dst := some 99, op := Op.pick (Operand.tmp 85) (Operand.tmp 98) (Operand.const (Value.bool false)), type := 4, pos := "heads.go:91", after := #[{ on := 6, ground := Ground.data }, { on := 19, ground := Ground.data }], guard := none }) (v := ?_) rfl (by kernel_rfl) (Or.inl ⟨by rfl, ?_⟩) (by assumption) ?_; rotate_left; focus (intro wz hSz; (try dsimp only at hSz); go_simp; all_goals (with_reducible rfl)))
                      (try simp only [Act.put, List.setIfInBounds_toArray, List.set_cons_zero, List.set_cons_succ])
                      (refine tkH (i := 21) (oi := { dst := some 100, op := Op.move (Operand.tmp 99), type := 4, pos := "heads.go:91", after := #[{ on := 20, ground := Ground.data }, { on := 6, ground := Ground.chain }], guard := none }) (v := ?_) rfl (by kernel_rfl) (Or.inl ⟨by rfl, ?_⟩) (by assumption) ?_; rotate_left; focus (intro wz hSz; (try dsimp only at hSz); go_simp; all_goals (with_reducible rfl)))
                      (try simp only [Act.put, List.setIfInBounds_toArray, List.set_cons_zero, List.set_cons_succ])
                      (refine tkH (i := 22) (oi := { dst := some 101, op := Op.fieldAddr 29 (Operand.tmp 3) 0, type := 0, pos := "heads.go:91", after := #[{ on := 21, ground := Ground.guard }], guard := some (21, false) }) (v := ?_) rfl (by kernel_rfl) (Or.inl ⟨by rfl, ?_⟩) (by assumption) ?_; rotate_left; focus (intro wz hSz; (try dsimp only at hSz); go_simp; all_goals (with_reducible rfl)))
                      (try simp only [Act.put, List.setIfInBounds_toArray, List.set_cons_zero, List.set_cons_succ])
                      (refine tkH (i := 23) (oi := { dst := some 102, op := Op.load 26 (Operand.tmp 101), type := 26, pos := "heads.go:91", after := #[{ on := 22, ground := Ground.data }, { on := 21, ground := Ground.guard }], guard := some (21, false) }) (v := ?_) rfl (by kernel_rfl) (Or.inl ⟨by rfl, ?_⟩) (by assumption) ?_; rotate_left; focus (intro wz hSz; (try dsimp only at hSz); go_simp; all_goals (with_reducible rfl)))
                      (try simp only [Act.put, List.setIfInBounds_toArray, List.set_cons_zero, List.set_cons_succ])
                      (refine tkH (i := 24) (oi := { dst := some 103, op := Op.move (Operand.tmp 6), type := 3, pos := "heads.go:91", after := #[{ on := 21, ground := Ground.guard }], guard := some (21, false) }) (v := ?_) rfl (by kernel_rfl) (Or.inl ⟨by rfl, ?_⟩) (by assumption) ?_; rotate_left; focus (intro wz hSz; (try dsimp only at hSz); go_simp; all_goals (with_reducible rfl)))
                      (try simp only [Act.put, List.setIfInBounds_toArray, List.set_cons_zero, List.set_cons_succ])
                      (refine tkH (i := 25) (oi := { dst := some 104, op := Op.indexAddr 26 (Operand.tmp 102) (Operand.tmp 103), type := 0, pos := "heads.go:91", after := #[{ on := 23, ground := Ground.data }, { on := 24, ground := Ground.data }, { on := 21, ground := Ground.guard }], guard := some (21, false) }) (v := ?_) rfl (by kernel_rfl) (Or.inl ⟨by rfl, ?_⟩) (by assumption) ?_; rotate_left; focus (intro wz hSz; (try dsimp only at hSz); go_simp; all_goals (with_reducible rfl)))
                      (try simp only [Act.put, List.setIfInBounds_toArray, List.set_cons_zero, List.set_cons_succ])
                      (refine tkH (i := 26) (oi := { dst := some 105, op := Op.load 3 (Operand.tmp 104), type := 3, pos := "heads.go:91", after := #[{ on := 25, ground := Ground.data }, { on := 21, ground := Ground.guard }], guard := some (21, false) }) (v := ?_) rfl (by kernel_rfl) (Or.inl ⟨by rfl, ?_⟩) (by assumption) ?_; rotate_left; focus (intro wz hSz; (try dsimp only at hSz); go_simp; all_goals (with_reducible rfl)))
                      (try simp only [Act.put, List.setIfInBounds_toArray, List.set_cons_zero, List.set_cons_succ])
                      (refine tkH (i := 27) (oi := { dst := some 106, op := Op.binOp BinOp.eql 3 (Operand.tmp 105) (Operand.const (Value.int IntKind.i64 3)) 3, type := 4, pos := "heads.go:91", after := #[{ on := 26, ground := Ground.data }, { on := 21, ground := Ground.guard }], guard := some (21, false) }) (v := ?_) rfl (by kernel_rfl) (Or.inl ⟨by rfl, ?_⟩) (by assumption) ?_; rotate_left; focus (intro wz hSz; (try dsimp only at hSz); go_simp; all_goals (with_reducible rfl)))
                      (try simp only [Act.put, List.setIfInBounds_toArray, List.set_cons_zero, List.set_cons_succ])
                      (refine tkH (i := 28) (oi := { dst := some 107, op := Op.move (Operand.tmp 106), type := 4, pos := "heads.go:91", after := #[{ on := 27, ground := Ground.data }, { on := 21, ground := Ground.chain }, { on := 21, ground := Ground.guard }], guard := some (21, false) }) (v := ?_) rfl (by kernel_rfl) (Or.inl ⟨by rfl, ?_⟩) (by assumption) ?_; rotate_left; focus (intro wz hSz; (try dsimp only at hSz); go_simp; all_goals (with_reducible rfl)))
                      (try simp only [Act.put, List.setIfInBounds_toArray, List.set_cons_zero, List.set_cons_succ])
                      refine tkH (i := 29) (oi := { dst := some 108, op := Op.fieldAddr 29 (Operand.tmp 3) 1, type := 0, pos := "heads.go:91", after := #[{ on := 28, ground := Ground.guard }], guard := some (28, true) }) (v := undef) rfl (by kernel_rfl) (Or.inr ⟨by rfl, rfl⟩) (by assumption) ?_
                      (try simp only [Act.put, List.setIfInBounds_toArray, List.set_cons_zero, List.set_cons_succ])
                      refine tkH (i := 30) (oi := { dst := some 109, op := Op.load 27 (Operand.tmp 108), type := 27, pos := "heads.go:91", after := #[{ on := 29, ground := Ground.data }, { on := 28, ground := Ground.guard }], guard := some (28, true) }) (v := undef) rfl (by kernel_rfl) (Or.inr ⟨by rfl, rfl⟩) (by assumption) ?_
                      (try simp only [Act.put, List.setIfInBounds_toArray, List.set_cons_zero, List.set_cons_succ])
                      refine tkH (i := 31) (oi := { dst := some 110, op := Op.move (Operand.tmp 6), type := 3, pos := "heads.go:91", after := #[{ on := 28, ground := Ground.guard }], guard := some (28, true) }) (v := undef) rfl (by kernel_rfl) (Or.inr ⟨by rfl, rfl⟩) (by assumption) ?_
                      (try simp only [Act.put, List.setIfInBounds_toArray, List.set_cons_zero, List.set_cons_succ])
                      refine tkH (i := 32) (oi := { dst := some 111, op := Op.indexAddr 27 (Operand.tmp 109) (Operand.tmp 110), type := 0, pos := "heads.go:91", after := #[{ on := 30, ground := Ground.data }, { on := 31, ground := Ground.data }, { on := 28, ground := Ground.guard }], guard := some (28, true) }) (v := undef) rfl (by kernel_rfl) (Or.inr ⟨by rfl, rfl⟩) (by assumption) ?_
                      (try simp only [Act.put, List.setIfInBounds_toArray, List.set_cons_zero, List.set_cons_succ])
                      refine tkH (i := 33) (oi := { dst := some 112, op := Op.load 21 (Operand.tmp 111), type := 21, pos := "heads.go:91", after := #[{ on := 32, ground := Ground.data }, { on := 28, ground := Ground.guard }], guard := some (28, true) }) (v := undef) rfl (by kernel_rfl) (Or.inr ⟨by rfl, rfl⟩) (by assumption) ?_
                      (try simp only [Act.put, List.setIfInBounds_toArray, List.set_cons_zero, List.set_cons_succ])
                      refine tkH (i := 34) (oi := { dst := some 113, op := Op.convert 21 3 (Operand.tmp 112), type := 3, pos := "heads.go:91", after := #[{ on := 33, ground := Ground.data }, { on := 28, ground := Ground.guard }], guard := some (28, true) }) (v := undef) rfl (by kernel_rfl) (Or.inr ⟨by rfl, rfl⟩) (by assumption) ?_
                      (try simp only [Act.put, List.setIfInBounds_toArray, List.set_cons_zero, List.set_cons_succ])
                      refine tkH (i := 35) (oi := { dst := some 114, op := Op.fieldAddr 25 (Operand.tmp 2) 0, type := 0, pos := "heads.go:91", after := #[{ on := 28, ground := Ground.guard }], guard := some (28, true) }) (v := undef) rfl (by kernel_rfl) (Or.inr ⟨by rfl, rfl⟩) (by assumption) ?_
                      (try simp only [Act.put, List.setIfInBounds_toArray, List.set_cons_zero, List.set_cons_succ])
                      refine tkH (i := 36) (oi := { dst := some 115, op := Op.load 22 (Operand.tmp 114), type := 22, pos := "heads.go:91", after := #[{ on := 35, ground := Ground.data }, { on := 28, ground := Ground.guard }], guard := some (28, true) }) (v := undef) rfl (by kernel_rfl) (Or.inr ⟨by rfl, rfl⟩) (by assumption) ?_
                      (try simp only [Act.put, List.setIfInBounds_toArray, List.set_cons_zero, List.set_cons_succ])
                      refine tkH (i := 37) (oi := { dst := some 116, op := Op.move (Operand.tmp 6), type := 3, pos := "heads.go:91", after := #[{ on := 28, ground := Ground.guard }], guard := some (28, true) }) (v := undef) rfl (by kernel_rfl) (Or.inr ⟨by rfl, rfl⟩) (by assumption) ?_
                      (try simp only [Act.put, List.setIfInBounds_toArray, List.set_cons_zero, List.set_cons_succ])
                      refine tkH (i := 38) (oi := { dst := some 117, op := Op.indexAddr 22 (Operand.tmp 115) (Operand.tmp 116), type := 0, pos := "heads.go:91", after := #[{ on := 36, ground := Ground.data }, { on := 37, ground := Ground.data }, { on := 28, ground := Ground.guard }], guard := some (28, true) }) (v := undef) rfl (by kernel_rfl) (Or.inr ⟨by rfl, rfl⟩) (by assumption) ?_
                      (try simp only [Act.put, List.setIfInBounds_toArray, List.set_cons_zero, List.set_cons_succ])
                      refine tkH (i := 39) (oi := { dst := some 118, op := Op.fieldAddr 58 (Operand.tmp 117) 3, type := 0, pos := "heads.go:91", after := #[{ on := 38, ground := Ground.data }, { on := 28, ground := Ground.guard }], guard := some (28, true) }) (v := undef) rfl (by kernel_rfl) (Or.inr ⟨by rfl, rfl⟩) (by assumption) ?_
                      (try simp only [Act.put, List.setIfInBounds_toArray, List.set_cons_zero, List.set_cons_succ])
                      refine tkH (i := 40) (oi := { dst := some 119, op := Op.load 3 (Operand.tmp 118), type := 3, pos := "heads.go:91", after := #[{ on := 39, ground := Ground.data }, { on := 28, ground := Ground.guard }], guard := some (28, true) }) (v := undef) rfl (by kernel_rfl) (Or.inr ⟨by rfl, rfl⟩) (by assumption) ?_
                      (try simp only [Act.put, List.setIfInBounds_toArray, List.set_cons_zero, List.set_cons_succ])
                      refine tkH (i := 41) (oi := { dst := some 120, op := Op.binOp BinOp.gtr 3 (Operand.tmp 113) (Operand.tmp 119) 3, type := 4, pos := "heads.go:91", after := #[{ on := 34, ground := Ground.data }, { on := 40, ground := Ground.data }, { on := 28, ground := Ground.guard }], guard := some (28, true) }) (v := undef) rfl (by kernel_rfl) (Or.inr ⟨by rfl, rfl⟩) (by assumption) ?_
                      (try simp only [Act.put, List.setIfInBounds_toArray, List.set_cons_zero, List.set_cons_succ])
                      (refine tkH (i := 42) (oi := { dst := some 121, op := Op.pick (Operand.tmp 107) (Operand.tmp 120) (Operand.const (Value.bool false)), type := 4, pos := "heads.go:91", after := #[{ on := 28, ground := Ground.data }, { on := 41, ground := Ground.data }, { on := 21, ground := Ground.guard }], guard := some (21, false) }) (v := ?_) rfl (by kernel_rfl) (Or.inl ⟨by rfl, ?_⟩) (by assumption) ?_; rotate_left; focus (intro wz hSz; (try dsimp only at hSz); go_simp; all_goals (with_reducible rfl)))
                      (try simp only [Act.put, List.setIfInBounds_toArray, List.set_cons_zero, List.set_cons_succ])
                      (refine tkH (i := 43) (oi := { dst := some 122, op := Op.pick (Operand.tmp 100) (Operand.const (Value.bool true)) (Operand.tmp 121), type := 4, pos := "heads.go:91", after := #[{ on := 21, ground := Ground.data }, { on := 42, ground := Ground.data }], guard := none }) (v := ?_) rfl (by kernel_rfl) (Or.inl ⟨by rfl, ?_⟩) (by assumption) ?_; rotate_left; focus (intro wz hSz; (try dsimp only at hSz); go_simp; all_goals (with_reducible rfl)))
                      (try simp only [Act.put, List.setIfInBounds_toArray, List.set_cons_zero, List.set_cons_succ])
                      refine wpAnyH_done (by kernel_rfl) ?_ _
                      refine NoPanic.normal ?_
                      go_wp2_with fail
                      go_roundw
                      case rel => exact ⟨k + 1, by omega, by go_num, hs2, B.out.drew.drew, B1.out.drew.drew, hb.out.drew.drew⟩
                      case measure => simp [intOf]; omega
                  · have g1 : (ya == 1) = false := by simpa using f1
                    by_cases f3 : ya = 3
                    · subst f3
                      by_cases f4 : yi > x3
                      · skip
                        have eV : fitB ⟨x0, x1, x2, x3, x4⟩ 3 yi yw = false := by unfold fitB; simp; omega
                        have hR : R = false := by rw [← hs', eV]; simp
                        subst hR
                        clear hs' eV
                        refine wp_region_noPanic ?_
                        refine wp_region_held_drew (S := fun w' => (w'.cell? ⟨w.heap.size, 0, none⟩ = some (.slice (some ⟨g, o, none⟩) G.length cg) ∧ w'.cell? ⟨w.heap.size, 1, none⟩ = some (.slice vb C.length cc)) ∧ (w'.cell? ⟨w.heap.size + 1, 0, none⟩ = some (.slice (some ⟨gA, oA, none⟩) A.length cA) ∧ w'.cell? ⟨w.heap.size + 1, 1, none⟩ = some (.slice (some ⟨gI, oI, none⟩) I.length cI) ∧ w'.cell? ⟨w.heap.size + 1, 2, none⟩ = some (.slice (some ⟨gW, oW, none⟩) W.length cW)) ∧ (w'.cell? ⟨gA, oA + k, none⟩ = some (.int .i64 3) ∧ w'.cell? ⟨gI, oI + k, none⟩ = some (.int .i32 yi) ∧ w'.cell? ⟨gW, oW + k, none⟩ = some (.int .i32 yw)) ∧ (w'.cell? ⟨g, o + k * 5, none⟩ = some (.string x0) ∧ w'.cell? ⟨g, o + k * 5 + 1, none⟩ = some (.int .i64 x1) ∧ w'.cell? ⟨g, o + k * 5 + 2, none⟩ = some (.int .i64 x2) ∧ w'.cell? ⟨g, o + k * 5 + 3, none⟩ = some (.int .i64 x3) ∧ w'.cell? ⟨g, o + k * 5 + 4, none⟩ = some (.int .i64 x4))) (by kernel_rfl) ?_ (fun hHeld => ?_)
                        · (try dsimp only)
                          exact ⟨has2b B.out.drew.drew, has3 B1.out.drew.drew, hP _ hb.out.drew.drew, hQ _ hb.out.drew.drew⟩
                        (refine tkH (i := 0) (oi := { dst := some 79, op := Op.fieldAddr 29 (Operand.tmp 3) 0, type := 0, pos := "heads.go:91", after := #[], guard := none }) (v := ?_) rfl (by kernel_rfl) (Or.inl ⟨by rfl, ?_⟩) (by assumption) ?_; rotate_left; focus (intro wz hSz; (try dsimp only at hSz); go_simp; all_goals (with_reducible rfl)))
                        (try simp only [Act.put, List.setIfInBounds_toArray, List.set_cons_zero, List.set_cons_succ])
                        (refine tkH (i := 1) (oi := { dst := some 80, op := Op.load 26 (Operand.tmp 79), type := 26, pos := "heads.go:91", after := #[{ on := 0, ground := Ground.data }], guard := none }) (v := ?_) rfl (by kernel_rfl) (Or.inl ⟨by rfl, ?_⟩) (by assumption) ?_; rotate_left; focus (intro wz hSz; (try dsimp only at hSz); go_simp; all_goals (with_reducible rfl)))
                        (try simp only [Act.put, List.setIfInBounds_toArray, List.set_cons_zero, List.set_cons_succ])
                        (refine tkH (i := 2) (oi := { dst := some 81, op := Op.move (Operand.tmp 6), type := 3, pos := "heads.go:91", after := #[], guard := none }) (v := ?_) rfl (by kernel_rfl) (Or.inl ⟨by rfl, ?_⟩) (by assumption) ?_; rotate_left; focus (intro wz hSz; (try dsimp only at hSz); go_simp; all_goals (with_reducible rfl)))
                        (try simp only [Act.put, List.setIfInBounds_toArray, List.set_cons_zero, List.set_cons_succ])
                        (refine tkH (i := 3) (oi := { dst := some 82, op := Op.indexAddr 26 (Operand.tmp 80) (Operand.tmp 81), type := 0, pos := "heads.go:91", after := #[{ on := 1, ground := Ground.data }, { on := 2, ground := Ground.data }], guard := none }) (v := ?_) rfl (by kernel_rfl) (Or.inl ⟨by rfl, ?_⟩) (by assumption) ?_; rotate_left; focus (intro wz hSz; (try dsimp only at hSz); go_simp; all_goals (with_reducible rfl)))
                        (try simp only [Act.put, List.setIfInBounds_toArray, List.set_cons_zero, List.set_cons_succ])
                        (refine tkH (i := 4) (oi := { dst := some 83, op := Op.load 3 (Operand.tmp 82), type := 3, pos := "heads.go:91", after := #[{ on := 3, ground := Ground.data }], guard := none }) (v := ?_) rfl (by kernel_rfl) (Or.inl ⟨by rfl, ?_⟩) (by assumption) ?_; rotate_left; focus (intro wz hSz; (try dsimp only at hSz); go_simp; all_goals (with_reducible rfl)))
                        (try simp only [Act.put, List.setIfInBounds_toArray, List.set_cons_zero, List.set_cons_succ])
                        (refine tkH (i := 5) (oi := { dst := some 84, op := Op.binOp BinOp.eql 3 (Operand.tmp 83) (Operand.const (Value.int IntKind.i64 1)) 3, type := 4, pos := "heads.go:91", after := #[{ on := 4, ground := Ground.data }], guard := none }) (v := ?_) rfl (by kernel_rfl) (Or.inl ⟨by rfl, ?_⟩) (by assumption) ?_; rotate_left; focus (intro wz hSz; (try dsimp only at hSz); go_simp; all_goals (with_reducible rfl)))
                        (try simp only [Act.put, List.setIfInBounds_toArray, List.set_cons_zero, List.set_cons_succ])
                        (refine tkH (i := 6) (oi := { dst := some 85, op := Op.move (Operand.tmp 84), type := 4, pos := "heads.go:91", after := #[{ on := 5, ground := Ground.data }], guard := none }) (v := ?_) rfl (by kernel_rfl) (Or.inl ⟨by rfl, ?_⟩) (by assumption) ?_; rotate_left; focus (intro wz hSz; (try dsimp only at hSz); go_simp; all_goals (with_reducible rfl)))
                        (try simp only [Act.put, List.setIfInBounds_toArray, List.set_cons_zero, List.set_cons_succ])
                        refine tkH (i := 7) (oi := { dst := some 86, op := Op.fieldAddr 29 (Operand.tmp 3) 1, type := 0, pos := "heads.go:91", after := #[{ on := 6, ground := Ground.guard }], guard := some (6, true) }) (v := undef) rfl (by kernel_rfl) (Or.inr ⟨by rfl, rfl⟩) (by assumption) ?_
                        (try simp only [Act.put, List.setIfInBounds_toArray, List.set_cons_zero, List.set_cons_succ])
                        refine tkH (i := 8) (oi := { dst := some 87, op := Op.load 27 (Operand.tmp 86), type := 27, pos := "heads.go:91", after := #[{ on := 7, ground := Ground.data }, { on := 6, ground := Ground.guard }], guard := some (6, true) }) (v := undef) rfl (by kernel_rfl) (Or.inr ⟨by rfl, rfl⟩) (by assumption) ?_
                        (try simp only [Act.put, List.setIfInBounds_toArray, List.set_cons_zero, List.set_cons_succ])
                        refine tkH (i := 9) (oi := { dst := some 88, op := Op.move (Operand.tmp 6), type := 3, pos := "heads.go:91", after := #[{ on := 6, ground := Ground.guard }], guard := some (6, true) }) (v := undef) rfl (by kernel_rfl) (Or.inr ⟨by rfl, rfl⟩) (by assumption) ?_
                        (try simp only [Act.put, List.setIfInBounds_toArray, List.set_cons_zero, List.set_cons_succ])
                        refine tkH (i := 10) (oi := { dst := some 89, op := Op.indexAddr 27 (Operand.tmp 87) (Operand.tmp 88), type := 0, pos := "heads.go:91", after := #[{ on := 8, ground := Ground.data }, { on := 9, ground := Ground.data }, { on := 6, ground := Ground.guard }], guard := some (6, true) }) (v := undef) rfl (by kernel_rfl) (Or.inr ⟨by rfl, rfl⟩) (by assumption) ?_
                        (try simp only [Act.put, List.setIfInBounds_toArray, List.set_cons_zero, List.set_cons_succ])
                        refine tkH (i := 11) (oi := { dst := some 90, op := Op.load 21 (Operand.tmp 89), type := 21, pos := "heads.go:91", after := #[{ on := 10, ground := Ground.data }, { on := 6, ground := Ground.guard }], guard := some (6, true) }) (v := undef) rfl (by kernel_rfl) (Or.inr ⟨by rfl, rfl⟩) (by assumption) ?_
                        (try simp only [Act.put, List.setIfInBounds_toArray, List.set_cons_zero, List.set_cons_succ])
                        refine tkH (i := 12) (oi := { dst := some 91, op := Op.convert 21 3 (Operand.tmp 90), type := 3, pos := "heads.go:91", after := #[{ on := 11, ground := Ground.data }, { on := 6, ground := Ground.guard }], guard := some (6, true) }) (v := undef) rfl (by kernel_rfl) (Or.inr ⟨by rfl, rfl⟩) (by assumption) ?_
                        (try simp only [Act.put, List.setIfInBounds_toArray, List.set_cons_zero, List.set_cons_succ])
                        refine tkH (i := 13) (oi := { dst := some 92, op := Op.fieldAddr 25 (Operand.tmp 2) 0, type := 0, pos := "heads.go:91", after := #[{ on := 6, ground := Ground.guard }], guard := some (6, true) }) (v := undef) rfl (by kernel_rfl) (Or.inr ⟨by rfl, rfl⟩) (by assumption) ?_
                        (try simp only [Act.put, List.setIfInBounds_toArray, List.set_cons_zero, List.set_cons_succ])
                        refine tkH (i := 14) (oi := { dst := some 93, op := Op.load 22 (Operand.tmp 92), type := 22, pos := "heads.go:91", after := #[{ on := 13, ground := Ground.data }, { on := 6, ground := Ground.guard }], guard := some (6, true) }) (v := undef) rfl (by kernel_rfl) (Or.inr ⟨by rfl, rfl⟩) (by assumption) ?_
                        (try simp only [Act.put, List.setIfInBounds_toArray, List.set_cons_zero, List.set_cons_succ])
                        refine tkH (i := 15) (oi := { dst := some 94, op := Op.move (Operand.tmp 6), type := 3, pos := "heads.go:91", after := #[{ on := 6, ground := Ground.guard }], guard := some (6, true) }) (v := undef) rfl (by kernel_rfl) (Or.inr ⟨by rfl, rfl⟩) (by assumption) ?_
                        (try simp only [Act.put, List.setIfInBounds_toArray, List.set_cons_zero, List.set_cons_succ])
                        refine tkH (i := 16) (oi := { dst := some 95, op := Op.indexAddr 22 (Operand.tmp 93) (Operand.tmp 94), type := 0, pos := "heads.go:91", after := #[{ on := 14, ground := Ground.data }, { on := 15, ground := Ground.data }, { on := 6, ground := Ground.guard }], guard := some (6, true) }) (v := undef) rfl (by kernel_rfl) (Or.inr ⟨by rfl, rfl⟩) (by assumption) ?_
                        (try simp only [Act.put, List.setIfInBounds_toArray, List.set_cons_zero, List.set_cons_succ])
                        refine tkH (i := 17) (oi := { dst := some 96, op := Op.fieldAddr 58 (Operand.tmp 95) 4, type := 0, pos := "heads.go:91", after := #[{ on := 16, ground := Ground.data }, { on := 6, ground := Ground.guard }], guard := some (6, true) }) (v := undef) rfl (by kernel_rfl) (Or.inr ⟨by rfl, rfl⟩) (by assumption) ?_
                        (try simp only [Act.put, List.setIfInBounds_toArray, List.set_cons_zero, List.set_cons_succ])
                        refine tkH (i := 18) (oi := { dst := some 97, op := Op.load 3 (Operand.tmp 96), type := 3, pos := "heads.go:91", after := #[{ on := 17, ground := Ground.data }, { on := 6, ground := Ground.guard }], guard := some (6, true) }) (v := undef) rfl (by kernel_rfl) (Or.inr ⟨by rfl, rfl⟩) (by assumption) ?_
                        (try simp only [Act.put, List.setIfInBounds_toArray, List.set_cons_zero, List.set_cons_succ])
                        refine tkH (i := 19) (oi := { dst := some 98, op := Op.binOp BinOp.gtr 3 (Operand.tmp 91) (Operand.tmp 97) 3, type := 4, pos := "heads.go:91", after := #[{ on := 12, ground := Ground.data }, { on := 18, ground := Ground.data }, { on := 6, ground := Ground.guard }], guard := some (6, true) }) (v := undef) rfl (by kernel_rfl) (Or.inr ⟨by rfl, rfl⟩) (by assumption) ?_
                        (try simp only [Act.put, List.setIfInBounds_toArray, List.set_cons_zero, List.set_cons_succ])
                        (refine tkH (i := 20) (oi := { dst := some 99, op := Op.pick (Operand.tmp 85) (Operand.tmp 98) (Operand.const (Value.bool false)), type := 4, pos := "heads.go:91", after := #[{ on := 6, ground := Ground.data }, { on := 19, ground := Ground.data }], guard := none }) (v := ?_) rfl (by kernel_rfl) (Or.inl ⟨by rfl, ?_⟩) (by assumption) ?_; rotate_left; focus (intro wz hSz; (try dsimp only at hSz); go_simp; all_goals (with_reducible rfl)))
                        (try simp only [Act.put, List.setIfInBounds_toArray, List.set_cons_zero, List.set_cons_succ])
                        (refine tkH (i := 21) (oi := { dst := some 100, op := Op.move (Operand.tmp 99), type := 4, pos := "heads.go:91", after := #[{ on := 20, ground := Ground.data }, { on := 6, ground := Ground.chain }], guard := none }) (v := ?_) rfl (by kernel_rfl) (Or.inl ⟨by rfl, ?_⟩) (by assumption) ?_; rotate_left; focus (intro wz hSz; (try dsimp only at hSz); go_simp; all_goals (with_reducible rfl)))
                        (try simp only [Act.put, List.setIfInBounds_toArray, List.set_cons_zero, List.set_cons_succ])
                        (refine tkH (i := 22) (oi := { dst := some 101, op := Op.fieldAddr 29 (Operand.tmp 3) 0, type := 0, pos := "heads.go:91", after := #[{ on := 21, ground := Ground.guard }], guard := some (21, false) }) (v := ?_) rfl (by kernel_rfl) (Or.inl ⟨by rfl, ?_⟩) (by assumption) ?_; rotate_left; focus (intro wz hSz; (try dsimp only at hSz); go_simp; all_goals (with_reducible rfl)))
                        (try simp only [Act.put, List.setIfInBounds_toArray, List.set_cons_zero, List.set_cons_succ])
                        (refine tkH (i := 23) (oi := { dst := some 102, op := Op.load 26 (Operand.tmp 101), type := 26, pos := "heads.go:91", after := #[{ on := 22, ground := Ground.data }, { on := 21, ground := Ground.guard }], guard := some (21, false) }) (v := ?_) rfl (by kernel_rfl) (Or.inl ⟨by rfl, ?_⟩) (by assumption) ?_; rotate_left; focus (intro wz hSz; (try dsimp only at hSz); go_simp; all_goals (with_reducible rfl)))
                        (try simp only [Act.put, List.setIfInBounds_toArray, List.set_cons_zero, List.set_cons_succ])
                        (refine tkH (i := 24) (oi := { dst := some 103, op := Op.move (Operand.tmp 6), type := 3, pos := "heads.go:91", after := #[{ on := 21, ground := Ground.guard }], guard := some (21, false) }) (v := ?_) rfl (by kernel_rfl) (Or.inl ⟨by rfl, ?_⟩) (by assumption) ?_; rotate_left; focus (intro wz hSz; (try dsimp only at hSz); go_simp; all_goals (with_reducible rfl)))
                        (try simp only [Act.put, List.setIfInBounds_toArray, List.set_cons_zero, List.set_cons_succ])
                        (refine tkH (i := 25) (oi := { dst := some 104, op := Op.indexAddr 26 (Operand.tmp 102) (Operand.tmp 103), type := 0, pos := "heads.go:91", after := #[{ on := 23, ground := Ground.data }, { on := 24, ground := Ground.data }, { on := 21, ground := Ground.guard }], guard := some (21, false) }) (v := ?_) rfl (by kernel_rfl) (Or.inl ⟨by rfl, ?_⟩) (by assumption) ?_; rotate_left; focus (intro wz hSz; (try dsimp only at hSz); go_simp; all_goals (with_reducible rfl)))
                        (try simp only [Act.put, List.setIfInBounds_toArray, List.set_cons_zero, List.set_cons_succ])
                        (refine tkH (i := 26) (oi := { dst := some 105, op := Op.load 3 (Operand.tmp 104), type := 3, pos := "heads.go:91", after := #[{ on := 25, ground := Ground.data }, { on := 21, ground := Ground.guard }], guard := some (21, false) }) (v := ?_) rfl (by kernel_rfl) (Or.inl ⟨by rfl, ?_⟩) (by assumption) ?_; rotate_left; focus (intro wz hSz; (try dsimp only at hSz); go_simp; all_goals (with_reducible rfl)))
                        (try simp only [Act.put, List.setIfInBounds_toArray, List.set_cons_zero, List.set_cons_succ])
                        (refine tkH (i := 27) (oi := { dst := some 106, op := Op.binOp BinOp.eql 3 (Operand.tmp 105) (Operand.const (Value.int IntKind.i64 3)) 3, type := 4, pos := "heads.go:91", after := #[{ on := 26, ground := Ground.data }, { on := 21, ground := Ground.guard }], guard := some (21, false) }) (v := ?_) rfl (by kernel_rfl) (Or.inl ⟨by rfl, ?_⟩) (by assumption) ?_; rotate_left; focus (intro wz hSz; (try dsimp only at hSz); go_simp; all_goals (with_reducible rfl)))
                        (try simp only [Act.put, List.setIfInBounds_toArray, List.set_cons_zero, List.set_cons_succ])
                        (refine tkH (i := 28) (oi := { dst := some 107, op := Op.move (Operand.tmp 106), type := 4, pos := "heads.go:91", after := #[{ on := 27, ground := Ground.data }, { on := 21, ground := Ground.chain }, { on := 21, ground := Ground.guard }], guard := some (21, false) }) (v := ?_) rfl (by kernel_rfl) (Or.inl ⟨by rfl, ?_⟩) (by assumption) ?_; rotate_left; focus (intro wz hSz; (try dsimp only at hSz); go_simp; all_goals (with_reducible rfl)))
                        (try simp only [Act.put, List.setIfInBounds_toArray, List.set_cons_zero, List.set_cons_succ])
                        (refine tkH (i := 29) (oi := { dst := some 108, op := Op.fieldAddr 29 (Operand.tmp 3) 1, type := 0, pos := "heads.go:91", after := #[{ on := 28, ground := Ground.guard }], guard := some (28, true) }) (v := ?_) rfl (by kernel_rfl) (Or.inl ⟨by rfl, ?_⟩) (by assumption) ?_; rotate_left; focus (intro wz hSz; (try dsimp only at hSz); go_simp; all_goals (with_reducible rfl)))
                        (try simp only [Act.put, List.setIfInBounds_toArray, List.set_cons_zero, List.set_cons_succ])
                        (refine tkH (i := 30) (oi := { dst := some 109, op := Op.load 27 (Operand.tmp 108), type := 27, pos := "heads.go:91", after := #[{ on := 29, ground := Ground.data }, { on := 28, ground := Ground.guard }], guard := some (28, true) }) (v := ?_) rfl (by kernel_rfl) (Or.inl ⟨by rfl, ?_⟩) (by assumption) ?_; rotate_left; focus (intro wz hSz; (try dsimp only at hSz); go_simp; all_goals (with_reducible rfl)))
                        (try simp only [Act.put, List.setIfInBounds_toArray, List.set_cons_zero, List.set_cons_succ])
                        (refine tkH (i := 31) (oi := { dst := some 110, op := Op.move (Operand.tmp 6), type := 3, pos := "heads.go:91", after := #[{ on := 28, ground := Ground.guard }], guard := some (28, true) }) (v := ?_) rfl (by kernel_rfl) (Or.inl ⟨by rfl, ?_⟩) (by assumption) ?_; rotate_left; focus (intro wz hSz; (try dsimp only at hSz); go_simp; all_goals (with_reducible rfl)))
                        (try simp only [Act.put, List.setIfInBounds_toArray, List.set_cons_zero, List.set_cons_succ])
                        (refine tkH (i := 32) (oi := { dst := some 111, op := Op.indexAddr 27 (Operand.tmp 109) (Operand.tmp 110), type := 0, pos := "heads.go:91", after := #[{ on := 30, ground := Ground.data }, { on := 31, ground := Ground.data }, { on := 28, ground := Ground.guard }], guard := some (28, true) }) (v := ?_) rfl (by kernel_rfl) (Or.inl ⟨by rfl, ?_⟩) (by assumption) ?_; rotate_left; focus (intro wz hSz; (try dsimp only at hSz); go_simp; all_goals (with_reducible rfl)))
                        (try simp only [Act.put, List.setIfInBounds_toArray, List.set_cons_zero, List.set_cons_succ])
                        (refine tkH (i := 33) (oi := { dst := some 112, op := Op.load 21 (Operand.tmp 111), type := 21, pos := "heads.go:91", after := #[{ on := 32, ground := Ground.data }, { on := 28, ground := Ground.guard }], guard := some (28, true) }) (v := ?_) rfl (by kernel_rfl) (Or.inl ⟨by rfl, ?_⟩) (by assumption) ?_; rotate_left; focus (intro wz hSz; (try dsimp only at hSz); go_simp; all_goals (with_reducible rfl)))
                        (try simp only [Act.put, List.setIfInBounds_toArray, List.set_cons_zero, List.set_cons_succ])
                        (refine tkH (i := 34) (oi := { dst := some 113, op := Op.convert 21 3 (Operand.tmp 112), type := 3, pos := "heads.go:91", after := #[{ on := 33, ground := Ground.data }, { on := 28, ground := Ground.guard }], guard := some (28, true) }) (v := ?_) rfl (by kernel_rfl) (Or.inl ⟨by rfl, ?_⟩) (by assumption) ?_; rotate_left; focus (intro wz hSz; (try dsimp only at hSz); go_simp; all_goals (with_reducible rfl)))
                        (try simp only [Act.put, List.setIfInBounds_toArray, List.set_cons_zero, List.set_cons_succ])
                        (refine tkH (i := 35) (oi := { dst := some 114, op := Op.fieldAddr 25 (Operand.tmp 2) 0, type := 0, pos := "heads.go:91", after := #[{ on := 28, ground := Ground.guard }], guard := some (28, true) }) (v := ?_) rfl (by kernel_rfl) (Or.inl ⟨by rfl, ?_⟩) (by assumption) ?_; rotate_left; focus (intro wz hSz; (try dsimp only at hSz); go_simp; all_goals (with_reducible rfl)))
                        (try simp only [Act.put, List.setIfInBounds_toArray, List.set_cons_zero, List.set_cons_succ])
                        (refine tkH (i := 36) (oi := { dst := some 115, op := Op.load 22 (Operand.tmp 114), type := 22, pos := "heads.go:91", after := #[{ on := 35, ground := Ground.data }, { on := 28, ground := Ground.guard }], guard := some (28, true) }) (v := ?_) rfl (by kernel_rfl) (Or.inl ⟨by rfl, ?_⟩) (by assumption) ?_; rotate_left; focus (intro wz hSz; (try dsimp only at hSz); go_simp; all_goals (with_reducible rfl)))
                        (try simp only [Act.put, List.setIfInBounds_toArray, List.set_cons_zero, List.set_cons_succ])
                        (refine tkH (i := 37) (oi := { dst := some 116, op := Op.move (Operand.tmp 6), type := 3, pos := "heads.go:91", after := #[{ on := 28, ground := Ground.guard }], guard := some (28, true) }) (v := ?_) rfl (by kernel_rfl) (Or.inl ⟨by rfl, ?_⟩) (by assumption) ?_; rotate_left; focus (intro wz hSz; (try dsimp only at hSz); go_simp; all_goals (with_reducible rfl)))
                        (try simp only [Act.put, List.setIfInBounds_toArray, List.set_cons_zero, List.set_cons_succ])
                        (refine tkH (i := 38) (oi := { dst := some 117, op := Op.indexAddr 22 (Operand.tmp 115) (Operand.tmp 116), type := 0, pos := "heads.go:91", after := #[{ on := 36, ground := Ground.data }, { on := 37, ground := Ground.data }, { on := 28, ground := Ground.guard }], guard := some (28, true) }) (v := ?_) rfl (by kernel_rfl) (Or.inl ⟨by rfl, ?_⟩) (by assumption) ?_; rotate_left; focus (intro wz hSz; (try dsimp only at hSz); go_simp; all_goals (with_reducible rfl)))
                        (try simp only [Act.put, List.setIfInBounds_toArray, List.set_cons_zero, List.set_cons_succ])
                        (refine tkH (i := 39) (oi := { dst := some 118, op := Op.fieldAddr 58 (Operand.tmp 117) 3, type := 0, pos := "heads.go:91", after := #[{ on := 38, ground := Ground.data }, { on := 28, ground := Ground.guard }], guard := some (28, true) }) (v := ?_) rfl (by kernel_rfl) (Or.inl ⟨by rfl, ?_⟩) (by assumption) ?_; rotate_left; focus (intro wz hSz; (try dsimp only at hSz); go_simp; all_goals (with_reducible rfl)))
                        (try simp only [Act.put, List.setIfInBounds_toArray, List.set_cons_zero, List.set_cons_succ])
                        (refine tkH (i := 40) (oi := { dst := some 119, op := Op.load 3 (Operand.tmp 118), type := 3, pos := "heads.go:91", after := #[{ on := 39, ground := Ground.data }, { on := 28, ground := Ground.guard }], guard := some (28, true) }) (v := ?_) rfl (by kernel_rfl) (Or.inl ⟨by rfl, ?_⟩) (by assumption) ?_; rotate_left; focus (intro wz hSz; (try dsimp only at hSz); go_simp; all_goals (with_reducible rfl)))
                        (try simp only [Act.put, List.setIfInBounds_toArray, List.set_cons_zero, List.set_cons_succ])
                        (refine tkH (i := 41) (oi := { dst := some 120, op := Op.binOp BinOp.gtr 3 (Operand.tmp 113) (Operand.tmp 119) 3, type := 4, pos := "heads.go:91", after := #[{ on := 34, ground := Ground.data }, { on := 40, ground := Ground.data }, { on := 28, ground := Ground.guard }], guard := some (28, true) }) (v := ?_) rfl (by kernel_rfl) (Or.inl ⟨by rfl, ?_⟩) (by assumption) ?_; rotate_left; focus (intro wz hSz; (try dsimp only at hSz); go_simp; all_goals (with_reducible rfl)))
                        (try simp only [Act.put, List.setIfInBounds_toArray, List.set_cons_zero, List.set_cons_succ])
                        (refine tkH (i := 42) (oi := { dst := some 121, op := Op.pick (Operand.tmp 107) (Operand.tmp 120) (Operand.const (Value.bool false)), type := 4, pos := "heads.go:91", after := #[{ on := 28, ground := Ground.data }, { on := 41, ground := Ground.data }, { on := 21, ground := Ground.guard }], guard := some (21, false) }) (v := ?_) rfl (by kernel_rfl) (Or.inl ⟨by rfl, ?_⟩) (by assumption) ?_; rotate_left; focus (intro wz hSz; (try dsimp only at hSz); go_simp; all_goals (with_reducible rfl)))
                        (try simp only [Act.put, List.setIfInBounds_toArray, List.set_cons_zero, List.set_cons_succ])
                        (refine tkH (i := 43) (oi := { dst := some 122, op := Op.pick (Operand.tmp 100) (Operand.const (Value.bool true)) (Operand.tmp 121), type := 4, pos := "heads.go:91", after := #[{ on := 21, ground := Ground.data }, { on := 42, ground := Ground.data }], guard := none }) (v := ?_) rfl (by kernel_rfl) (Or.inl ⟨by rfl, ?_⟩) (by assumption) ?_; rotate_left; focus (intro wz hSz; (try dsimp only at hSz); go_simp; all_goals (with_reducible rfl)))
                        (try simp only [Act.put, List.setIfInBounds_toArray, List.set_cons_zero, List.set_cons_succ])
                        refine wpAnyH_done (by kernel_rfl) ?_ _
                        refine NoPanic.normal ?_
                        go_wp2_with fail
                        go_ret
                        exact ⟨rfl, hb.out.drew.drew⟩
                      · have F4 : decide (yi > x3) = false := decide_eq_false f4
                        have eV : fitB ⟨x0, x1, x2, x3, x4⟩ 3 yi yw = true := by unfold fitB; simp [q1, q2, c1]; omega
                        have hs2 : Hid ((fitsF (G.drop (k + 1)) (A.drop (k + 1)) (I.drop (k + 1)) (W.drop (k + 1)) && clearF A C) = R) := by show _ = _; rw [← hs', eV]; simp
                        clear hs' eV
                        refine wp_region_noPanic ?_
                        refine wp_region_held_drew (S := fun w' => (w'.cell? ⟨w.heap.size, 0, none⟩ = some (.slice (some ⟨g, o, none⟩) G.length cg) ∧ w'.cell? ⟨w.heap.size, 1, none⟩ = some (.slice vb C.length cc)) ∧ (w'.cell? ⟨w.heap.size + 1, 0, none⟩ = some (.slice (some ⟨gA, oA, none⟩) A.length cA) ∧ w'.cell? ⟨w.heap.size + 1, 1, none⟩ = some (.slice (some ⟨gI, oI, none⟩) I.length cI) ∧ w'.cell? ⟨w.heap.size + 1, 2, none⟩ = some (.slice (some ⟨gW, oW, none⟩) W.length cW)) ∧ (w'.cell? ⟨gA, oA + k, none⟩ = some (.int .i64 3) ∧ w'.cell? ⟨gI, oI + k, none⟩ = some (.int .i32 yi) ∧ w'.cell? ⟨gW, oW + k, none⟩ = some (.int .i32 yw)) ∧ (w'.cell? ⟨g, o + k * 5, none⟩ = some (.string x0) ∧ w'.cell? ⟨g, o + k * 5 + 1, none⟩ = some (.int .i64 x1) ∧ w'.cell? ⟨g, o + k * 5 + 2, none⟩ = some (.int .i64 x2) ∧ w'.cell? ⟨g, o + k * 5 + 3, none⟩ = some (.int .i64 x3) ∧ w'.cell? ⟨g, o + k * 5 + 4, none⟩ = some (.int .i64 x4))) (by kernel_rfl) ?_ (fun hHeld => ?_)
                        · (try dsimp only)
                          exact ⟨has2b B.out.drew.drew, has3 B1.out.drew.drew, hP _ hb.out.drew.drew, hQ _ hb.out.drew.drew⟩
                        (refine tkH (i := 0) (oi := { dst := some 79, op := Op.fieldAddr 29 (Operand.tmp 3) 0, type := 0, pos := "heads.go:91", after := #[], guard := none }) (v := ?_) rfl (by kernel_rfl) (Or.inl ⟨by rfl, ?_⟩) (by assumption) ?_; rotate_left; focus (intro wz hSz; (try dsimp only at hSz); go_simp; all_goals (with_reducible rfl)))
                        (try simp only [Act.put, List.setIfInBounds_toArray, List.set_cons_zero, List.set_cons_succ])
                        (refine tkH (i := 1) (oi := { dst := some 80, op := Op.load 26 (Operand.tmp 79), type := 26, pos := "heads.go:91", after := #[{ on := 0, ground := Ground.data }], guard := none }) (v := ?_) rfl (by kernel_rfl) (Or.inl ⟨by rfl, ?_⟩) (by assumption) ?_; rotate_left; focus (intro wz hSz; (try dsimp only at hSz); go_simp; all_goals (with_reducible rfl)))
                        (try simp only [Act.put, List.setIfInBounds_toArray, List.set_cons_zero, List.set_cons_succ])
                        (refine tkH (i := 2) (oi := { dst := some 81, op := Op.move (Operand.tmp 6), type := 3, pos := "heads.go:91", after := #[], guard := none }) (v := ?_) rfl (by kernel_rfl) (Or.inl ⟨by rfl, ?_⟩) (by assumption) ?_; rotate_left; focus (intro wz hSz; (try dsimp only at hSz); go_simp; all_goals (with_reducible rfl)))
                        (try simp only [Act.put, List.setIfInBounds_toArray, List.set_cons_zero, List.set_cons_succ])
                        (refine tkH (i := 3) (oi := { dst := some 82, op := Op.indexAddr 26 (Operand.tmp 80) (Operand.tmp 81), type := 0, pos := "heads.go:91", after := #[{ on := 1, ground := Ground.data }, { on := 2, ground := Ground.data }], guard := none }) (v := ?_) rfl (by kernel_rfl) (Or.inl ⟨by rfl, ?_⟩) (by assumption) ?_; rotate_left; focus (intro wz hSz; (try dsimp only at hSz); go_simp; all_goals (with_reducible rfl)))
                        (try simp only [Act.put, List.setIfInBounds_toArray, List.set_cons_zero, List.set_cons_succ])
                        (refine tkH (i := 4) (oi := { dst := some 83, op := Op.load 3 (Operand.tmp 82), type := 3, pos := "heads.go:91", after := #[{ on := 3, ground := Ground.data }], guard := none }) (v := ?_) rfl (by kernel_rfl) (Or.inl ⟨by rfl, ?_⟩) (by assumption) ?_; rotate_left; focus (intro wz hSz; (try dsimp only at hSz); go_simp; all_goals (with_reducible rfl)))
                        (try simp only [Act.put, List.setIfInBounds_toArray, List.set_cons_zero, List.set_cons_succ])
                        (refine tkH (i := 5) (oi := { dst := some 84, op := Op.binOp BinOp.eql 3 (Operand.tmp 83) (Operand.const (Value.int IntKind.i64 1)) 3, type := 4, pos := "heads.go:91", after := #[{ on := 4, ground := Ground.data }], guard := none }) (v := ?_) rfl (by kernel_rfl) (Or.inl ⟨by rfl, ?_⟩) (by assumption) ?_; rotate_left; focus (intro wz hSz; (try dsimp only at hSz); go_simp; all_goals (with_reducible rfl)))
                        (try simp only [Act.put, List.setIfInBounds_toArray, List.set_cons_zero, List.set_cons_succ])
                        (refine tkH (i := 6) (oi := { dst := some 85, op := Op.move (Operand.tmp 84), type := 4, pos := "heads.go:91", after := #[{ on := 5, ground := Ground.data }], guard := none }) (v := ?_) rfl (by kernel_rfl) (Or.inl ⟨by rfl, ?_⟩) (by assumption) ?_; rotate_left; focus (intro wz hSz; (try dsimp only at hSz); go_simp; all_goals (with_reducible rfl)))
                        (try simp only [Act.put, List.setIfInBounds_toArray, List.set_cons_zero, List.set_cons_succ])
                        refine tkH (i := 7) (oi := { dst := some 86, op := Op.fieldAddr 29 (Operand.tmp 3) 1, type := 0, pos := "heads.go:91", after := #[{ on := 6, ground := Ground.guard }], guard := some (6, true) }) (v := undef) rfl (by kernel_rfl) (Or.inr ⟨by rfl, rfl⟩) (by assumption) ?_
                        (try simp only [Act.put, List.setIfInBounds_toArray, List.set_cons_zero, List.set_cons_succ])
                        refine tkH (i := 8) (oi := { dst := some 87, op := Op.load 27 (Operand.tmp 86), type := 27, pos := "heads.go:91", after := #[{ on := 7, ground := Ground.data }, { on := 6, ground := Ground.guard }], guard := some (6, true) }) (v := undef) rfl (by kernel_rfl) (Or.inr ⟨by rfl, rfl⟩) (by assumption) ?_
                        (try simp only [Act.put, List.setIfInBounds_toArray, List.set_cons_zero, List.set_cons_succ])
                        refine tkH (i := 9) (oi := { dst := some 88, op := Op.move (Operand.tmp 6), type := 3, pos := "heads.go:91", after := #[{ on := 6, ground := Ground.guard }], guard := some (6, true) }) (v := undef) rfl (by kernel_rfl) (Or.inr ⟨by rfl, rfl⟩) (by assumption) ?_
                        (try simp only [Act.put, List.setIfInBounds_toArray, List.set_cons_zero, List.set_cons_succ])
                        refine tkH (i := 10) (oi := { dst := some 89, op := Op.indexAddr 27 (Operand.tmp 87) (Operand.tmp 88), type := 0, pos := "heads.go:91", after := #[{ on := 8, ground := Ground.data }, { on := 9, ground := Ground.data }, { on := 6, ground := Ground.guard }], guard := some (6, true) }) (v := undef) rfl (by kernel_rfl) (Or.inr ⟨by rfl, rfl⟩) (by assumption) ?_
                        (try simp only [Act.put, List.setIfInBounds_toArray, List.set_cons_zero, List.set_cons_succ])
                        refine tkH (i := 11) (oi := { dst := some 90, op := Op.load 21 (Operand.tmp 89), type := 21, pos := "heads.go:91", after := #[{ on := 10, ground := Ground.data }, { on := 6, ground := Ground.guard }], guard := some (6, true) }) (v := undef) rfl (by kernel_rfl) (Or.inr ⟨by rfl, rfl⟩) (by assumption) ?_
                        (try simp only [Act.put, List.setIfInBounds_toArray, List.set_cons_zero, List.set_cons_succ])
                        refine tkH (i := 12) (oi := { dst := some 91, op := Op.convert 21 3 (Operand.tmp 90), type := 3, pos := "heads.go:91", after := #[{ on := 11, ground := Ground.data }, { on := 6, ground := Ground.guard }], guard := some (6, true) }) (v := undef) rfl (by kernel_rfl) (Or.inr ⟨by rfl, rfl⟩) (by assumption) ?_
                        (try simp only [Act.put, List.setIfInBounds_toArray, List.set_cons_zero, List.set_cons_succ])
                        refine tkH (i := 13) (oi := { dst := some 92, op := Op.fieldAddr 25 (Operand.tmp 2) 0, type := 0, pos := "heads.go:91", after := #[{ on := 6, ground := Ground.guard }], guard := some (6, true) }) (v := undef) rfl (by kernel_rfl) (Or.inr ⟨by rfl, rfl⟩) (by assumption) ?_
                        (try simp only [Act.put, List.setIfInBounds_toArray, List.set_cons_zero, List.set_cons_succ])
                        refine tkH (i := 14) (oi := { dst := some 93, op := Op.load 22 (Operand.tmp 92), type := 22, pos := "heads.go:91", after := #[{ on := 13, ground := Ground.data }, { on := 6, ground := Ground.guard }], guard := some (6, true) }) (v := undef) rfl (by kernel_rfl) (Or.inr ⟨by rfl, rfl⟩) (by assumption) ?_
                        (try simp only [Act.put, List.setIfInBounds_toArray, List.set_cons_zero, List.set_cons_succ])
                        refine tkH (i := 15) (oi := { dst := some 94, op := Op.move (Operand.tmp 6), type := 3, pos := "heads.go:91", after := #[{ on := 6, ground := Ground.guard }], guard := some (6, true) }) (v := undef) rfl (by kernel_rfl) (Or.inr ⟨by rfl, rfl⟩) (by assumption) ?_
                        (try simp only [Act.put, List.setIfInBounds_toArray, List.set_cons_zero, List.set_cons_succ])
                        refine tkH (i := 16) (oi := { dst := some 95, op := Op.indexAddr 22 (Operand.tmp 93) (Operand.tmp 94), type := 0, pos := "heads.go:91", after := #[{ on := 14, ground := Ground.data }, { on := 15, ground := Ground.data }, { on := 6, ground := Ground.guard }], guard := some (6, true) }) (v := undef) rfl (by kernel_rfl) (Or.inr ⟨by rfl, rfl⟩) (by assumption) ?_
                        (try simp only [Act.put, List.setIfInBounds_toArray, List.set_cons_zero, List.set_cons_succ])
                        refine tkH (i := 17) (oi := { dst := some 96, op := Op.fieldAddr 58 (Operand.tmp 95) 4, type := 0, pos := "heads.go:91", after := #[{ on := 16, ground := Ground.data }, { on := 6, ground := Ground.guard }], guard := some (6, true) }) (v := undef) rfl (by kernel_rfl) (Or.inr ⟨by rfl, rfl⟩) (by assumption) ?_
                        (try simp only [Act.put, List.setIfInBounds_toArray, List.set_cons_zero, List.set_cons_succ])
                        refine tkH (i := 18) (oi := { dst := some 97, op := Op.load 3 (Operand.tmp 96), type := 3, pos := "heads.go:91", after := #[{ on := 17, ground := Ground.data }, { on := 6, ground := Ground.guard }], guard := some (6, true) }) (v := undef) rfl (by kernel_rfl) (Or.inr ⟨by rfl, rfl⟩) (by assumption) ?_
                        (try simp only [Act.put, List.setIfInBounds_toArray, List.set_cons_zero, List.set_cons_succ])
                        refine tkH (i := 19) (oi := { dst := some 98, op := Op.binOp BinOp.gtr 3 (Operand.tmp 91) (Operand.tmp 97) 3, type := 4, pos := "heads.go:91", after := #[{ on := 12, ground := Ground.data }, { on := 18, ground := Ground.data }, { on := 6, ground := Ground.guard }], guard := some (6, true) }) (v := undef) rfl (by kernel_rfl) (Or.inr ⟨by rfl, rfl⟩) (by assumption) ?_
                        (try simp only [Act.put, List.setIfInBounds_toArray, List.set_cons_zero, List.set_cons_succ])
                        (refine tkH (i := 20) (oi := { dst := some 99, op := Op.pick (Operand.tmp 85) (Operand.tmp 98) (Operand.const (Value.bool false)), type := 4, pos := "heads.go:91", after := #[{ on := 6, ground := Ground.data }, { on := 19, ground := Ground.data }], guard := none }) (v := ?_) rfl (by kernel_rfl) (Or.inl ⟨by rfl, ?_⟩) (by assumption) ?_; rotate_left; focus (intro wz hSz; (try dsimp only at hSz); go_simp; all_goals (with_reducible rfl)))
                        (try simp only [Act.put, List.setIfInBounds_toArray, List.set_cons_zero, List.set_cons_succ])
                        (refine tkH (i := 21) (oi := { dst := some 100, op := Op.move (Operand.tmp 99), type := 4, pos := "heads.go:91", after := #[{ on := 20, ground := Ground.data }, { on := 6, ground := Ground.chain }], guard := none }) (v := ?_) rfl (by kernel_rfl) (Or.inl ⟨by rfl, ?_⟩) (by assumption) ?_; rotate_left; focus (intro wz hSz; (try dsimp only at hSz); go_simp; all_goals (with_reducible rfl)))
                        (try simp only [Act.put, List.setIfInBounds_toArray, List.set_cons_zero, List.set_cons_succ])
                        (refine tkH (i := 22) (oi := { dst := some 101, op := Op.fieldAddr 29 (Operand.tmp 3) 0, type := 0, pos := "heads.go:91", after := #[{ on := 21, ground := Ground.guard }], guard := some (21, false) }) (v := ?_) rfl (by kernel_rfl) (Or.inl ⟨by rfl, ?_⟩) (by assumption) ?_; rotate_left; focus (intro wz hSz; (try dsimp only at hSz); go_simp; all_goals (with_reducible rfl)))
                        (try simp only [Act.put, List.setIfInBounds_toArray, List.set_cons_zero, List.set_cons_succ])
                        (refine tkH (i := 23) (oi := { dst := some 102, op := Op.load 26 (Operand.tmp 101), type := 26, pos := "heads.go:91", after := #[{ on := 22, ground := Ground.data }, { on := 21, ground := Ground.guard }], guard := some (21, false) }) (v := ?_) rfl (by kernel_rfl) (Or.inl ⟨by rfl, ?_⟩) (by assumption) ?_; rotate_left; focus (intro wz hSz; (try dsimp only at hSz); go_simp; all_goals (with_reducible rfl)))
                        (try simp only [Act.put, List.setIfInBounds_toArray, List.set_cons_zero, List.set_cons_succ])
                        (refine tkH (i := 24) (oi := { dst := some 103, op := Op.move (Operand.tmp 6), type := 3, pos := "heads.go:91", after := #[{ on := 21, ground := Ground.guard }], guard := some (21, false) }) (v := ?_) rfl (by kernel_rfl) (Or.inl ⟨by rfl, ?_⟩) (by assumption) ?_; rotate_left; focus (intro wz hSz; (try dsimp only at hSz); go_simp; all_goals (with_reducible rfl)))
                        (try simp only [Act.put, List.setIfInBounds_toArray, List.set_cons_zero, List.set_cons_succ])
                        (refine tkH (i := 25) (oi := { dst := some 104, op := Op.indexAddr 26 (Operand.tmp 102) (Operand.tmp 103), type := 0, pos := "heads.go:91", after := #[{ on := 23, ground := Ground.data }, { on := 24, ground := Ground.data }, { on := 21, ground := Ground.guard }], guard := some (21, false) }) (v := ?_) rfl (by kernel_rfl) (Or.inl ⟨by rfl, ?_⟩) (by assumption) ?_; rotate_left; focus (intro wz hSz; (try dsimp only at hSz); go_simp; all_goals (with_reducible rfl)))
                        (try simp only [Act.put, List.setIfInBounds_toArray, List.set_cons_zero, List.set_cons_succ])
                        (refine tkH (i := 26) (oi := { dst := some 105, op := Op.load 3 (Operand.tmp 104), type := 3, pos := "heads.go:91", after := #[{ on := 25, ground := Ground.data }, { on := 21, ground := Ground.guard }], guard := some (21, false) }) (v := ?_) rfl (by kernel_rfl) (Or.inl ⟨by rfl, ?_⟩) (by assumption) ?_; rotate_left; focus (intro wz hSz; (try dsimp only at hSz); go_simp; all_goals (with_reducible rfl)))
                        (try simp only [Act.put, List.setIfInBounds_toArray, List.set_cons_zero, List.set_cons_succ])
                        (refine tkH (i := 27) (oi := { dst := some 106, op := Op.binOp BinOp.eql 3 (Operand.tmp 105) (Operand.const (Value.int IntKind.i64 3)) 3, type := 4, pos := "heads.go:91", after := #[{ on := 26, ground := Ground.data }, { on := 21, ground := Ground.guard }], guard := some (21, false) }) (v := ?_) rfl (by kernel_rfl) (Or.inl ⟨by rfl, ?_⟩) (by assumption) ?_; rotate_left; focus (intro wz hSz; (try dsimp only at hSz); go_simp; all_goals (with_reducible rfl)))
                        (try simp only [Act.put, List.setIfInBounds_toArray, List.set_cons_zero, List.set_cons_succ])
                        (refine tkH (i := 28) (oi := { dst := some 107, op := Op.move (Operand.tmp 106), type := 4, pos := "heads.go:91", after := #[{ on := 27, ground := Ground.data }, { on := 21, ground := Ground.chain }, { on := 21, ground := Ground.guard }], guard := some (21, false) }) (v := ?_) rfl (by kernel_rfl) (Or.inl ⟨by rfl, ?_⟩) (by assumption) ?_; rotate_left; focus (intro wz hSz; (try dsimp only at hSz); go_simp; all_goals (with_reducible rfl)))
                        (try simp only [Act.put, List.setIfInBounds_toArray, List.set_cons_zero, List.set_cons_succ])
                        (refine tkH (i := 29) (oi := { dst := some 108, op := Op.fieldAddr 29 (Operand.tmp 3) 1, type := 0, pos := "heads.go:91", after := #[{ on := 28, ground := Ground.guard }], guard := some (28, true) }) (v := ?_) rfl (by kernel_rfl) (Or.inl ⟨by rfl, ?_⟩) (by assumption) ?_; rotate_left; focus (intro wz hSz; (try dsimp only at hSz); go_simp; all_goals (with_reducible rfl)))
                        (try simp only [Act.put, List.setIfInBounds_toArray, List.set_cons_zero, List.set_cons_succ])
                        (refine tkH (i := 30) (oi := { dst := some 109, op := Op.load 27 (Operand.tmp 108), type := 27, pos := "heads.go:91", after := #[{ on := 29, ground := Ground.data }, { on := 28, ground := Ground.guard }], guard := some (28, true) }) (v := ?_) rfl (by kernel_rfl) (Or.inl ⟨by rfl, ?_⟩) (by assumption) ?_; rotate_left; focus (intro wz hSz; (try dsimp only at hSz); go_simp; all_goals (with_reducible rfl)))
                        (try simp only [Act.put, List.setIfInBounds_toArray, List.set_cons_zero, List.set_cons_succ])
                        (refine tkH (i := 31) (oi := { dst := some 110, op := Op.move (Operand.tmp 6), type := 3, pos := "heads.go:91", after := #[{ on := 28, ground := Ground.guard }], guard := some (28, true) }) (v := ?_) rfl (by kernel_rfl) (Or.inl ⟨by rfl, ?_⟩) (by assumption) ?_; rotate_left; focus (intro wz hSz; (try dsimp only at hSz); go_simp; all_goals (with_reducible rfl)))
                        (try simp only [Act.put, List.setIfInBounds_toArray, List.set_cons_zero, List.set_cons_succ])
                        (refine tkH (i := 32) (oi := { dst := some 111, op := Op.indexAddr 27 (Operand.tmp 109) (Operand.tmp 110), type := 0, pos := "heads.go:91", after := #[{ on := 30, ground := Ground.data }, { on := 31, ground := Ground.data }, { on := 28, ground := Ground.guard }], guard := some (28, true) }) (v := ?_) rfl (by kernel_rfl) (Or.inl ⟨by rfl, ?_⟩) (by assumption) ?_; rotate_left; focus (intro wz hSz; (try dsimp only at hSz); go_simp; all_goals (with_reducible rfl)))
                        (try simp only [Act.put, List.setIfInBounds_toArray, List.set_cons_zero, List.set_cons_succ])
                        (refine tkH (i := 33) (oi := { dst := some 112, op := Op.load 21 (Operand.tmp 111), type := 21, pos := "heads.go:91", after := #[{ on := 32, ground := Ground.data }, { on := 28, ground := Ground.guard }], guard := some (28, true) }) (v := ?_) rfl (by kernel_rfl) (Or.inl ⟨by rfl, ?_⟩) (by assumption) ?_; rotate_left; focus (intro wz hSz; (try dsimp only at hSz); go_simp; all_goals (with_reducible rfl)))
                        (try simp only [Act.put, List.setIfInBounds_toArray, List.set_cons_zero, List.set_cons_succ])
                        (refine tkH (i := 34) (oi := { dst := some 113, op := Op.convert 21 3 (Operand.tmp 112), type := 3, pos := "heads.go:91", after := #[{ on := 33, ground := Ground.data }, { on := 28, ground := Ground.guard }], guard := some (28, true) }) (v := ?_) rfl (by kernel_rfl) (Or.inl ⟨by rfl, ?_⟩) (by assumption) ?_; rotate_left; focus (intro wz hSz; (try dsimp only at hSz); go_simp; all_goals (with_reducible rfl)))
                        (try simp only [Act.put, List.setIfInBounds_toArray, List.set_cons_zero, List.set_cons_succ])
                        (refine tkH (i := 35) (oi := { dst := some 114, op := Op.fieldAddr 25 (Operand.tmp 2) 0, type := 0, pos := "heads.go:91", after := #[{ on := 28, ground := Ground.guard }], guard := some (28, true) }) (v := ?_) rfl (by kernel_rfl) (Or.inl ⟨by rfl, ?_⟩) (by assumption) ?_; rotate_left; focus (intro wz hSz; (try dsimp only at hSz); go_simp; all_goals (with_reducible rfl)))
                        (try simp only [Act.put, List.setIfInBounds_toArray, List.set_cons_zero, List.set_cons_succ])
                        (refine tkH (i := 36) (oi := { dst := some 115, op := Op.load 22 (Operand.tmp 114), type := 22, pos := "heads.go:91", after := #[{ on := 35, ground := Ground.data }, { on := 28, ground := Ground.guard }], guard := some (28, true) }) (v := ?_) rfl (by kernel_rfl) (Or.inl ⟨by rfl, ?_⟩) (by assumption) ?_; rotate_left; focus (intro wz hSz; (try dsimp only at hSz); go_simp; all_goals (with_reducible rfl)))
                        (try simp only [Act.put, List.setIfInBounds_toArray, List.set_cons_zero, List.set_cons_succ])
                        (refine tkH (i := 37) (oi := { dst := some 116, op := Op.move (Operand.tmp 6), type := 3, pos := "heads.go:91", after := #[{ on := 28, ground := Ground.guard }], guard := some (28, true) }) (v := ?_) rfl (by kernel_rfl) (Or.inl ⟨by rfl, ?_⟩) (by assumption) ?_; rotate_left; focus (intro wz hSz; (try dsimp only at hSz); go_simp; all_goals (with_reducible rfl)))
                        (try simp only [Act.put, List.setIfInBounds_toArray, List.set_cons_zero, List.set_cons_succ])
                        (refine tkH (i := 38) (oi := { dst := some 117, op := Op.indexAddr 22 (Operand.tmp 115) (Operand.tmp 116), type := 0, pos := "heads.go:91", after := #[{ on := 36, ground := Ground.data }, { on := 37, ground := Ground.data }, { on := 28, ground := Ground.guard }], guard := some (28, true) }) (v := ?_) rfl (by kernel_rfl) (Or.inl ⟨by rfl, ?_⟩) (by assumption) ?_; rotate_left; focus (intro wz hSz; (try dsimp only at hSz); go_simp; all_goals (with_reducible rfl)))
                        (try simp only [Act.put, List.setIfInBounds_toArray, List.set_cons_zero, List.set_cons_succ])
                        (refine tkH (i := 39) (oi := { dst := some 118, op := Op.fieldAddr 58 (Operand.tmp 117) 3, type := 0, pos := "heads.go:91", after := #[{ on := 38, ground := Ground.data }, { on := 28, ground := Ground.guard }], guard := some (28, true) }) (v := ?_) rfl (by kernel_rfl) (Or.inl ⟨by rfl, ?_⟩) (by assumption) ?_; rotate_left; focus (intro wz hSz; (try dsimp only at hSz); go_simp; all_goals (with_reducible rfl)))
                        (try simp only [Act.put, List.setIfInBounds_toArray, List.set_cons_zero, List.set_cons_succ])
                        (refine tkH (i := 40) (oi := { dst := some 119, op := Op.load 3 (Operand.tmp 118), type := 3, pos := "heads.go:91", after := #[{ on := 39, ground := Ground.data }, { on := 28, ground := Ground.guard }], guard := some (28, true) }) (v := ?_) rfl (by kernel_rfl) (Or.inl ⟨by rfl, ?_⟩) (by assumption) ?_; rotate_left; focus (intro wz hSz; (try dsimp only at hSz); go_simp; all_goals (with_reducible rfl)))
                        (try simp only [Act.put, List.setIfInBounds_toArray, List.set_cons_zero, List.set_cons_succ])
                        (refine tkH (i := 41) (oi := { dst := some 120, op := Op.binOp BinOp.gtr 3 (Operand.tmp 113) (Operand.tmp 119) 3, type := 4, pos := "heads.go:91", after := #[{ on := 34, ground := Ground.data }, { on := 40, ground := Ground.data }, { on := 28, ground := Ground.guard }], guard := some (28, true) }) (v := ?_) rfl (by kernel_rfl) (Or.inl ⟨by rfl, ?_⟩) (by assumption) ?_; rotate_left; focus (intro wz hSz; (try dsimp only at hSz); go_simp; all_goals (with_reducible rfl)))
                        (try simp only [Act.put, List.setIfInBounds_toArray, List.set_cons_zero, List.set_cons_succ])
                        (refine tkH (i := 42) (oi := { dst := some 121, op := Op.pick (Operand.tmp 107) (Operand.tmp 120) (Operand.const (Value.bool false)), type := 4, pos := "heads.go:91", after := #[{ on := 28, ground := Ground.data }, { on := 41, ground := Ground.data }, { on := 21, ground := Ground.guard }], guard := some (21, false) }) (v := ?_) rfl (by kernel_rfl) (Or.inl ⟨by rfl, ?_⟩) (by assumption) ?_; rotate_left; focus (intro wz hSz; (try dsimp only at hSz); go_simp; all_goals (with_reducible rfl)))
                        (try simp only [Act.put, List.setIfInBounds_toArray, List.set_cons_zero, List.set_cons_succ])
                        (refine tkH (i := 43) (oi := { dst := some 122, op := Op.pick (Operand.tmp 100) (Operand.const (Value.bool true)) (Operand.tmp 121), type := 4, pos := "heads.go:91", after := #[{ on := 21, ground := Ground.data }, { on := 42, ground := Ground.data }], guard := none }) (v := ?_) rfl (by kernel_rfl) (Or.inl ⟨by rfl, ?_⟩) (by assumption) ?_; rotate_left; focus (intro wz hSz; (try dsimp only at hSz); go_simp; all_goals (with_reducible rfl)))
                        (try simp only [Act.put, List.setIfInBounds_toArray, List.set_cons_zero, List.set_cons_succ])
                        refine wpAnyH_done (by kernel_rfl) ?_ _
                        refine NoPanic.normal ?_
                        go_wp2_with fail
                        go_roundw
                        case rel => exact ⟨k + 1, by omega, by go_num, hs2, B.out.drew.drew, B1.out.drew.drew, hb.out.drew.drew⟩
                        case measure => simp [intOf]; omega
                    · have g3 : (ya == 3) = false := by simpa using f3
                      have eV : fitB ⟨x0, x1, x2, x3, x4⟩ ya yi yw = true := by unfold fitB; have c : ya = 0 := (by omega); simp [q1, q2, c, c1]
                      have hs2 : Hid ((fitsF (G.drop (k + 1)) (A.drop (k + 1)) (I.drop (k + 1)) (W.drop (k + 1)) && clearF A C) = R) := by show _ = _; rw [← hs', eV]; simp
                      clear hs' eV
                      refine wp_region_noPanic ?_
                      refine wp_region_held_drew (S := fun w' => (w'.cell? ⟨w.heap.size, 0, none⟩ = some (.slice (some ⟨g, o, none⟩) G.length cg) ∧ w'.cell? ⟨w.heap.size, 1, none⟩ = some (.slice vb C.length cc)) ∧ (w'.cell? ⟨w.heap.size + 1, 0, none⟩ = some (.slice (some ⟨gA, oA, none⟩) A.length cA) ∧ w'.cell? ⟨w.heap.size + 1, 1, none⟩ = some (.slice (some ⟨gI, oI, none⟩) I.length cI) ∧ w'.cell? ⟨w.heap.size + 1, 2, none⟩ = some (.slice (some ⟨gW, oW, none⟩) W.length cW)) ∧ (w'.cell? ⟨gA, oA + k, none⟩ = some (.int .i64 ya) ∧ w'.cell? ⟨gI, oI + k, none⟩ = some (.int .i32 yi) ∧ w'.cell? ⟨gW, oW + k, none⟩ = some (.int .i32 yw)) ∧ (w'.cell? ⟨g, o + k * 5, none⟩ = some (.string x0) ∧ w'.cell? ⟨g, o + k * 5 + 1, none⟩ = some (.int .i64 x1) ∧ w'.cell? ⟨g, o + k * 5 + 2, none⟩ = some (.int .i64 x2) ∧ w'.cell? ⟨g, o + k * 5 + 3, none⟩ = some (.int .i64 x3) ∧ w'.cell? ⟨g, o + k * 5 + 4, none⟩ = some (.int .i64 x4))) (by kernel_rfl) ?_ (fun hHeld => ?_)
                      · (try dsimp only)
                        exact ⟨has2b B.out.drew.drew, has3 B1.out.drew.drew, hP _ hb.out.drew.drew, hQ _ hb.out.drew.drew⟩
                      (refine tkH (i := 0) (oi := { dst := some 79, op := Op.fieldAddr 29 (Operand.tmp 3) 0, type := 0, pos := "heads.go:91", after := #[], guard := none }) (v := ?_) rfl (by kernel_rfl) (Or.inl ⟨by rfl, ?_⟩) (by assumption) ?_; rotate_left; focus (intro wz hSz; (try dsimp only at hSz); go_simp; all_goals (with_reducible rfl)))
                      (try simp only [Act.put, List.setIfInBounds_toArray, List.set_cons_zero, List.set_cons_succ])
                      (refine tkH (i := 1) (oi := { dst := some 80, op := Op.load 26 (Operand.tmp 79), type := 26, pos := "heads.go:91", after := #[{ on := 0, ground := Ground.data }], guard := none }) (v := ?_) rfl (by kernel_rfl) (Or.inl ⟨by rfl, ?_⟩) (by assumption) ?_; rotate_left; focus (intro wz hSz; (try dsimp only at hSz); go_simp; all_goals (with_reducible rfl)))
                      (try simp only [Act.put, List.setIfInBounds_toArray, List.set_cons_zero, List.set_cons_succ])
                      (refine tkH (i := 2) (oi := { dst := some 81, op := Op.move (Operand.tmp 6), type := 3, pos := "heads.go:91", after := #[], guard := none }) (v := ?_) rfl (by kernel_rfl) (Or.inl ⟨by rfl, ?_⟩) (by assumption) ?_; rotate_left; focus (intro wz hSz; (try dsimp only at hSz); go_simp; all_goals (with_reducible rfl)))
                      (try simp only [Act.put, List.setIfInBounds_toArray, List.set_cons_zero, List.set_cons_succ])
                      (refine tkH (i := 3) (oi := { dst := some 82, op := Op.indexAddr 26 (Operand.tmp 80) (Operand.tmp 81), type := 0, pos := "heads.go:91", after := #[{ on := 1, ground := Ground.data }, { on := 2, ground := Ground.data }], guard := none }) (v := ?_) rfl (by kernel_rfl) (Or.inl ⟨by rfl, ?_⟩) (by assumption) ?_; rotate_left; focus (intro wz hSz; (try dsimp only at hSz); go_simp; all_goals (with_reducible rfl)))
                      (try simp only [Act.put, List.setIfInBounds_toArray, List.set_cons_zero, List.set_cons_succ])
                      (refine tkH (i := 4) (oi := { dst := some 83, op := Op.load 3 (Operand.tmp 82), type := 3, pos := "heads.go:91", after := #[{ on := 3, ground := Ground.data }], guard := none }) (v := ?_) rfl (by kernel_rfl) (Or.inl ⟨by rfl, ?_⟩) (by assumption) ?_; rotate_left; focus (intro wz hSz; (try dsimp only at hSz); go_simp; all_goals (with_reducible rfl)))
                      (try simp only [Act.put, List.setIfInBounds_toArray, List.set_cons_zero, List.set_cons_succ])
                      (refine tkH (i := 5) (oi := { dst := some 84, op := Op.binOp BinOp.eql 3 (Operand.tmp 83) (Operand.const (Value.int IntKind.i64 1)) 3, type := 4, pos := "heads.go:91", after := #[{ on := 4, ground := Ground.data }], guard := none }) (v := ?_) rfl (by kernel_rfl) (Or.inl ⟨by rfl, ?_⟩) (by assumption) ?_; rotate_left; focus (intro wz hSz; (try dsimp only at hSz); go_simp; all_goals (with_reducible rfl)))
                      (try simp only [Act.put, List.setIfInBounds_toArray, List.set_cons_zero, List.set_cons_succ])
                      (refine tkH (i := 6) (oi := { dst := some 85, op := Op.move (Operand.tmp 84), type := 4, pos := "heads.go:91", after := #[{ on := 5, ground := Ground.data }], guard := none }) (v := ?_) rfl (by kernel_rfl) (Or.inl ⟨by rfl, ?_⟩) (by assumption) ?_; rotate_left; focus (intro wz hSz; (try dsimp only at hSz); go_simp; all_goals (with_reducible rfl)))
                      (try simp only [Act.put, List.setIfInBounds_toArray, List.set_cons_zero, List.set_cons_succ])
                      refine tkH (i := 7) (oi := { dst := some 86, op := Op.fieldAddr 29 (Operand.tmp 3) 1, type := 0, pos := "heads.go:91", after := #[{ on := 6, ground := Ground.guard }], guard := some (6, true) }) (v := undef) rfl (by kernel_rfl) (Or.inr ⟨by rfl, rfl⟩) (by assumption) ?_
                      (try simp only [Act.put, List.setIfInBounds_toArray, List.set_cons_zero, List.set_cons_succ])
                      refine tkH (i := 8) (oi := { dst := some 87, op := Op.load 27 (Operand.tmp 86), type := 27, pos := "heads.go:91", after := #[{ on := 7, ground := Ground.data }, { on := 6, ground := Ground.guard }], guard := some (6, true) }) (v := undef) rfl (by kernel_rfl) (Or.inr ⟨by rfl, rfl⟩) (by assumption) ?_
                      (try simp only [Act.put, List.setIfInBounds_toArray, List.set_cons_zero, List.set_cons_succ])
                      refine tkH (i := 9) (oi := { dst := some 88, op := Op.move (Operand.tmp 6), type := 3, pos := "heads.go:91", after := #[{ on := 6, ground := Ground.guard }], guard := some (6, true) }) (v := undef) rfl (by kernel_rfl) (Or.inr ⟨by rfl, rfl⟩) (by assumption) ?_
                      (try simp only [Act.put, List.setIfInBounds_toArray, List.set_cons_zero, List.set_cons_succ])
                      refine tkH (i := 10) (oi := { dst := some 89, op := Op.indexAddr 27 (Operand.tmp 87) (Operand.tmp 88), type := 0, pos := "heads.go:91", after := #[{ on := 8, ground := Ground.data }, { on := 9, ground := Ground.data }, { on := 6, ground := Ground.guard }], guard := some (6, true) }) (v := undef) rfl (by kernel_rfl) (Or.inr ⟨by rfl, rfl⟩) (by assumption) ?_
                      (try simp only [Act.put, List.setIfInBounds_toArray, List.set_cons_zero, List.set_cons_succ])
                      refine tkH (i := 11) (oi := { dst := some 90, op := Op.load 21 (Operand.tmp 89), type := 21, pos := "heads.go:91", after := #[{ on := 10, ground := Ground.data }, { on := 6, ground := Ground.guard }], guard := some (6, true) }) (v := undef) rfl (by kernel_rfl) (Or.inr ⟨by rfl, rfl⟩) (by assumption) ?_
                      (try simp only [Act.put, List.setIfInBounds_toArray, List.set_cons_zero, List.set_cons_succ])
                      refine tkH (i := 12) (oi := { dst := some 91, op := Op.convert 21 3 (Operand.tmp 90), type := 3, pos := "heads.go:91", after := #[{ on := 11, ground := Ground.data }, { on := 6, ground := Ground.guard }], guard := some (6, true) }) (v := undef) rfl (by kernel_rfl) (Or.inr ⟨by rfl, rfl⟩) (by assumption) ?_
                      (try simp only [Act.put, List.setIfInBounds_toArray, List.set_cons_zero, List.set_cons_succ])
                      refine tkH (i := 13) (oi := { dst := some 92, op := Op.fieldAddr 25 (Operand.tmp 2) 0, type := 0, pos := "heads.go:91", after := #[{ on := 6, ground := Ground.guard }], guard := some (6, true) }) (v := undef) rfl (by kernel_rfl) (Or.inr ⟨by rfl, rfl⟩) (by assumption) ?_
                      (try simp only [Act.put, List.setIfInBounds_toArray, List.set_cons_zero, List.set_cons_succ])
                      refine tkH (i := 14) (oi := { dst := some 93, op := Op.load 22 (Operand.tmp 92), type := 22, pos := "heads.go:91", after := #[{ on := 13, ground := Ground.data }, { on := 6, ground := Ground.guard }], guard := some (6, true) }) (v := undef) rfl (by kernel_rfl) (Or.inr ⟨by rfl, rfl⟩) (by assumption) ?_
                      (try simp only [Act.put, List.setIfInBounds_toArray, List.set_cons_zero, List.set_cons_succ])
                      refine tkH (i := 15) (oi := { dst := some 94, op := Op.move (Operand.tmp 6), type := 3, pos := "heads.go:91", after := #[{ on := 6, ground := Ground.guard }], guard := some (6, true) }) (v := undef) rfl (by kernel_rfl) (Or.inr ⟨by rfl, rfl⟩) (by assumption) ?_
                      (try simp only [Act.put, List.setIfInBounds_toArray, List.set_cons_zero, List.set_cons_succ])
                      refine tkH (i := 16) (oi := { dst := some 95, op := Op.indexAddr 22 (Operand.tmp 93) (Operand.tmp 94), type := 0, pos := "heads.go:91", after := #[{ on := 14, ground := Ground.data }, { on := 15, ground := Ground.data }, { on := 6, ground := Ground.guard }], guard := some (6, true) }) (v := undef) rfl (by kernel_rfl) (Or.inr ⟨by rfl, rfl⟩) (by assumption) ?_
                      (try simp only [Act.put, List.setIfInBounds_toArray, List.set_cons_zero, List.set_cons_succ])
                      refine tkH (i := 17) (oi := { dst := some 96, op := Op.fieldAddr 58 (Operand.tmp 95) 4, type := 0, pos := "heads.go:91", after := #[{ on := 16, ground := Ground.data }, { on := 6, ground := Ground.guard }], guard := some (6, true) }) (v := undef) rfl (by kernel_rfl) (Or.inr ⟨by rfl, rfl⟩) (by assumption) ?_
                      (try simp only [Act.put, List.setIfInBounds_toArray, List.set_cons_zero, List.set_cons_succ])
                      refine tkH (i := 18) (oi := { dst := some 97, op := Op.load 3 (Operand.tmp 96), type := 3, pos := "heads.go:91", after := #[{ on := 17, ground := Ground.data }, { on := 6, ground := Ground.guard }], guard := some (6, true) }) (v := undef) rfl (by kernel_rfl) (Or.inr ⟨by rfl, rfl⟩) (by assumption) ?_
                      (try simp only [Act.put, List.setIfInBounds_toArray, List.set_cons_zero, List.set_cons_succ])
                      refine tkH (i := 19) (oi := { dst := some 98, op := Op.binOp BinOp.gtr 3 (Operand.tmp 91) (Operand.tmp 97) 3, type := 4, pos := "heads.go:91", after := #[{ on := 12, ground := Ground.data }, { on := 18, ground := Ground.data }, { on := 6, ground := Ground.guard }], guard := some (6, true) }) (v := undef) rfl (by kernel_rfl) (Or.inr ⟨by rfl, rfl⟩) (by assumption) ?_
                      (try simp only [Act.put, List.setIfInBounds_toArray, List.set_cons_zero, List.set_cons_succ])
                      (refine tkH (i := 20) (oi := { dst := some 99, op := Op.pick (Operand.tmp 85) (Operand.tmp 98) (Operand.const (Value.bool false)), type := 4, pos := "heads.go:91", after := #[{ on := 6, ground := Ground.data }, { on := 19, ground := Ground.data }], guard := none }) (v := ?_) rfl (by kernel_rfl) (Or.inl ⟨by rfl, ?_⟩) (by assumption) ?_; rotate_left; focus (intro wz hSz; (try dsimp only at hSz); go_simp; all_goals (with_reducible rfl)))
                      (try simp only [Act.put, List.setIfInBounds_toArray, List.set_cons_zero, List.set_cons_succ])
                      (refine tkH (i := 21) (oi := { dst := some 100, op := Op.move (Operand.tmp 99), type := 4, pos := "heads.go:91", after := #[{ on := 20, ground := Ground.data }, { on := 6, ground := Ground.chain }], guard := none }) (v := ?_) rfl (by kernel_rfl) (Or.inl ⟨by rfl, ?_⟩) (by assumption) ?_; rotate_left; focus (intro wz hSz; (try dsimp only at hSz); go_simp; all_goals (with_reducible rfl)))
                      (try simp only [Act.put, List.setIfInBounds_toArray, List.set_cons_zero, List.set_cons_succ])
                      (refine tkH (i := 22) (oi := { dst := some 101, op := Op.fieldAddr 29 (Operand.tmp 3) 0, type := 0, pos := "heads.go:91", after := #[{ on := 21, ground := Ground.guard }], guard := some (21, false) }) (v := ?_) rfl (by kernel_rfl) (Or.inl ⟨by rfl, ?_⟩) (by assumption) ?_; rotate_left; focus (intro wz hSz; (try dsimp only at hSz); go_simp; all_goals (with_reducible rfl)))
                      (try simp only [Act.put, List.setIfInBounds_toArray, List.set_cons_zero, List.set_cons_succ])
                      (refine tkH (i := 23) (oi := { dst := some 102, op := Op.load 26 (Operand.tmp 101), type := 26, pos := "heads.go:91", after := #[{ on := 22, ground := Ground.data }, { on := 21, ground := Ground.guard }], guard := some (21, false) }) (v := ?_) rfl (by kernel_rfl) (Or.inl ⟨by rfl, ?_⟩) (by assumption) ?_; rotate_left; focus (intro wz hSz; (try dsimp only at hSz); go_simp; all_goals (with_reducible rfl)))
                      (try simp only [Act.put, List.setIfInBounds_toArray, List.set_cons_zero, List.set_cons_succ])
                      (refine tkH (i := 24) (oi := { dst := some 103, op := Op.move (Operand.tmp 6), type := 3, pos := "heads.go:91", after := #[{ on := 21, ground := Ground.guard }], guard := some (21, false) }) (v := ?_) rfl (by kernel_rfl) (Or.inl ⟨by rfl, ?_⟩) (by assumption) ?_; rotate_left; focus (intro wz hSz; (try dsimp only at hSz); go_simp; all_goals (with_reducible rfl)))
                      (try simp only [Act.put, List.setIfInBounds_toArray, List.set_cons_zero, List.set_cons_succ])
                      (refine tkH (i := 25) (oi := { dst := some 104, op := Op.indexAddr 26 (Operand.tmp 102) (Operand.tmp 103), type := 0, pos := "heads.go:91", after := #[{ on := 23, ground := Ground.data }, { on := 24, ground := Ground.data }, { on := 21, ground := Ground.guard }], guard := some (21, false) }) (v := ?_) rfl (by kernel_rfl) (Or.inl ⟨by rfl, ?_⟩) (by assumption) ?_; rotate_left; focus (intro wz hSz; (try dsimp only at hSz); go_simp; all_goals (with_reducible rfl)))
                      (try simp only [Act.put, List.setIfInBounds_toArray, List.set_cons_zero, List.set_cons_succ])
                      (refine tkH (i := 26) (oi := { dst := some 105, op := Op.load 3 (Operand.tmp 104), type := 3, pos := "heads.go:91", after := #[{ on := 25, ground := Ground.data }, { on := 21, ground := Ground.guard }], guard := some (21, false) }) (v := ?_) rfl (by kernel_rfl) (Or.inl ⟨by rfl, ?_⟩) (by assumption) ?_; rotate_left; focus (intro wz hSz; (try dsimp only at hSz); go_simp; all_goals (with_reducible rfl)))
                      (try simp only [Act.put, List.setIfInBounds_toArray, List.set_cons_zero, List.set_cons_succ])
                      (refine tkH (i := 27) (oi := { dst := some 106, op := Op.binOp BinOp.eql 3 (Operand.tmp 105) (Operand.const (Value.int IntKind.i64 3)) 3, type := 4, pos := "heads.go:91", after := #[{ on := 26, ground := Ground.data }, { on := 21, ground := Ground.guard }], guard := some (21, false) }) (v := ?_) rfl (by kernel_rfl) (Or.inl ⟨by rfl, ?_⟩) (by assumption) ?_; rotate_left; focus (intro wz hSz; (try dsimp only at hSz); go_simp; all_goals (with_reducible rfl)))
                      (try simp only [Act.put, List.setIfInBounds_toArray, List.set_cons_zero, List.set_cons_succ])
                      (refine tkH (i := 28) (oi := { dst := some 107, op := Op.move (Operand.tmp 106), type := 4, pos := "heads.go:91", after := #[{ on := 27, ground := Ground.data }, { on := 21, ground := Ground.chain }, { on := 21, ground := Ground.guard }], guard := some (21, false) }) (v := ?_) rfl (by kernel_rfl) (Or.inl ⟨by rfl, ?_⟩) (by assumption) ?_; rotate_left; focus (intro wz hSz; (try dsimp only at hSz); go_simp; all_goals (with_reducible rfl)))
                      (try simp only [Act.put, List.setIfInBounds_toArray, List.set_cons_zero, List.set_cons_succ])
                      refine tkH (i := 29) (oi := { dst := some 108, op := Op.fieldAddr 29 (Operand.tmp 3) 1, type := 0, pos := "heads.go:91", after := #[{ on := 28, ground := Ground.guard }], guard := some (28, true) }) (v := undef) rfl (by kernel_rfl) (Or.inr ⟨by rfl, rfl⟩) (by assumption) ?_
                      (try simp only [Act.put, List.setIfInBounds_toArray, List.set_cons_zero, List.set_cons_succ])
                      refine tkH (i := 30) (oi := { dst := some 109, op := Op.load 27 (Operand.tmp 108), type := 27, pos := "heads.go:91", after := #[{ on := 29, ground := Ground.data }, { on := 28, ground := Ground.guard }], guard := some (28, true) }) (v := undef) rfl (by kernel_rfl) (Or.inr ⟨by rfl, rfl⟩) (by assumption) ?_
                      (try simp only [Act.put, List.setIfInBounds_toArray, List.set_cons_zero, List.set_cons_succ])
                      refine tkH (i := 31) (oi := { dst := some 110, op := Op.move (Operand.tmp 6), type := 3, pos := "heads.go:91", after := #[{ on := 28, ground := Ground.guard }], guard := some (28, true) }) (v := undef) rfl (by kernel_rfl) (Or.inr ⟨by rfl, rfl⟩) (by assumption) ?_
                      (try simp only [Act.put, List.setIfInBounds_toArray, List.set_cons_zero, List.set_cons_succ])
                      refine tkH (i := 32) (oi := { dst := some 111, op := Op.indexAddr 27 (Operand.tmp 109) (Operand.tmp 110), type := 0, pos := "heads.go:91", after := #[{ on := 30, ground := Ground.data }, { on := 31, ground := Ground.data }, { on := 28, ground := Ground.guard }], guard := some (28, true) }) (v := undef) rfl (by kernel_rfl) (Or.inr ⟨by rfl, rfl⟩) (by assumption) ?_
                      (try simp only [Act.put, List.setIfInBounds_toArray, List.set_cons_zero, List.set_cons_succ])
                      refine tkH (i := 33) (oi := { dst := some 112, op := Op.load 21 (Operand.tmp 111), type := 21, pos := "heads.go:91", after := #[{ on := 32, ground := Ground.data }, { on := 28, ground := Ground.guard }], guard := some (28, true) }) (v := undef) rfl (by kernel_rfl) (Or.inr ⟨by rfl, rfl⟩) (by assumption) ?_
                      (try simp only [Act.put, List.setIfInBounds_toArray, List.set_cons_zero, List.set_cons_succ])
                      refine tkH (i := 34) (oi := { dst := some 113, op := Op.convert 21 3 (Operand.tmp 112), type := 3, pos := "heads.go:91", after := #[{ on := 33, ground := Ground.data }, { on := 28, ground := Ground.guard }], guard := some (28, true) }) (v := undef) rfl (by kernel_rfl) (Or.inr ⟨by rfl, rfl⟩) (by assumption) ?_
                      (try simp only [Act.put, List.setIfInBounds_toArray, List.set_cons_zero, List.set_cons_succ])
                      refine tkH (i := 35) (oi := { dst := some 114, op := Op.fieldAddr 25 (Operand.tmp 2) 0, type := 0, pos := "heads.go:91", after := #[{ on := 28, ground := Ground.guard }], guard := some (28, true) }) (v := undef) rfl (by kernel_rfl) (Or.inr ⟨by rfl, rfl⟩) (by assumption) ?_
                      (try simp only [Act.put, List.setIfInBounds_toArray, List.set_cons_zero, List.set_cons_succ])
                      refine tkH (i := 36) (oi := { dst := some 115, op := Op.load 22 (Operand.tmp 114), type := 22, pos := "heads.go:91", after := #[{ on := 35, ground := Ground.data }, { on := 28, ground := Ground.guard }], guard := some (28, true) }) (v := undef) rfl (by kernel_rfl) (Or.inr ⟨by rfl, rfl⟩) (by assumption) ?_
                      (try simp only [Act.put, List.setIfInBounds_toArray, List.set_cons_zero, List.set_cons_succ])
                      refine tkH (i := 37) (oi := { dst := some 116, op := Op.move (Operand.tmp 6), type := 3, pos := "heads.go:91", after := #[{ on := 28, ground := Ground.guard }], guard := some (28, true) }) (v := undef) rfl (by kernel_rfl) (Or.inr ⟨by rfl, rfl⟩) (by assumption) ?_
                      (try simp only [Act.put, List.setIfInBounds_toArray, List.set_cons_zero, List.set_cons_succ])
                      refine tkH (i := 38) (oi := { dst := some 117, op := Op.indexAddr 22 (Operand.tmp 115) (Operand.tmp 116), type := 0, pos := "heads.go:91", after := #[{ on := 36, ground := Ground.data }, { on := 37, ground := Ground.data }, { on := 28, ground := Ground.guard }], guard := some (28, true) }) (v := undef) rfl (by kernel_rfl) (Or.inr ⟨by rfl, rfl⟩) (by assumption) ?_
                      (try simp only [Act.put, List.setIfInBounds_toArray, List.set_cons_zero, List.set_cons_succ])
                      refine tkH (i := 39) (oi := { dst := some 118, op := Op.fieldAddr 58 (Operand.tmp 117) 3, type := 0, pos := "heads.go:91", after := #[{ on := 38, ground := Ground.data }, { on := 28, ground := Ground.guard }], guard := some (28, true) }) (v := undef) rfl (by kernel_rfl) (Or.inr ⟨by rfl, rfl⟩) (by assumption) ?_
                      (try simp only [Act.put, List.setIfInBounds_toArray, List.set_cons_zero, List.set_cons_succ])
                      refine tkH (i := 40) (oi := { dst := some 119, op := Op.load 3 (Operand.tmp 118), type := 3, pos := "heads.go:91", after := #[{ on := 39, ground := Ground.data }, { on := 28, ground := Ground.guard }], guard := some (28, true) }) (v := undef) rfl (by kernel_rfl) (Or.inr ⟨by rfl, rfl⟩) (by assumption) ?_
                      (try simp only [Act.put, List.setIfInBounds_toArray, List.set_cons_zero, List.set_cons_succ])
                      refine tkH (i := 41) (oi := { dst := some 120, op := Op.binOp BinOp.gtr 3 (Operand.tmp 113) (Operand.tmp 119) 3, type := 4, pos := "heads.go:91", after := #[{ on := 34, ground := Ground.data }, { on := 40, ground := Ground.data }, { on := 28, ground := Ground.guard }], guard := some (28, true) }) (v := undef) rfl (by kernel_rfl) (Or.inr ⟨by rfl, rfl⟩) (by assumption) ?_
                      (try simp only [Act.put, List.setIfInBounds_toArray, List.set_cons_zero, List.set_cons_succ])
                      (refine tkH (i := 42) (oi := { dst := some 121, op := Op.pick (Operand.tmp 107) (Operand.tmp 120) (Operand.const (Value.bool false)), type := 4, pos := "heads.go:91", after := #[{ on := 28, ground := Ground.data }, { on := 41, ground := Ground.data }, { on := 21, ground := Ground.guard }], guard := some (21, false) }) (v := ?_) rfl (by kernel_rfl) (Or.inl ⟨by rfl, ?_⟩) (by assumption) ?_; rotate_left; focus (intro wz hSz; (try dsimp only at hSz); go_simp; all_goals (with_reducible rfl)))
                      (try simp only [Act.put, List.setIfInBounds_toArray, List.set_cons_zero, List.set_cons_succ])
                      (refine tkH (i := 43) (oi := { dst := some 122, op := Op.pick (Operand.tmp 100) (Operand.const (Value.bool true)) (Operand.tmp 121), type := 4, pos := "heads.go:91", after := #[{ on := 21, ground := Ground.data }, { on := 42, ground := Ground.data }], guard := none }) (v := ?_) rfl (by kernel_rfl) (Or.inl ⟨by rfl, ?_⟩) (by assumption) ?_; rotate_left; focus (intro wz hSz; (try dsimp only at hSz); go_simp; all_goals (with_reducible rfl)))
                      (try simp only [Act.put, List.setIfInBounds_toArray, List.set_cons_zero, List.set_cons_succ])
                      refine wpAnyH_done (by kernel_rfl) ?_ _
                      refine NoPanic.normal ?_
                      go_wp2_with fail
                      go_roundw
                      case rel => exact ⟨k + 1, by omega, by go_num, hs2, B.out.drew.drew, B1.out.drew.drew, hb.out.drew.drew⟩
                      case measure => simp [intOf]; omega
      · have t1 : ¬ (k : Int) < (G.length : Int) := by omega
        have hA1 : clearF A (C.drop 0) = R := by have := hs.out; rw [fitsF_end G A I W k (by omega)] at this; simpa using this
        clear kG hs
        obtain ⟨_, c1, _⟩ := id B1.out
        obtain ⟨_, b1, _⟩ := id B.out
        go_wp2
        go_loopw [7] (fun t wr => ∃ k : Nat, k ≤ C.length ∧ t = .int .i64 (k : Int) ∧ Hid (clearF A (C.drop k) = R) ∧ Hid (Has wr w.heap.size #[.slice va G.length cg, .slice vb C.length cc]) ∧ Hid (Has wr (w.heap.size + 1) #[.slice vA A.length cA, .slice vI I.length cI, .slice vW W.length cW]) ∧ Hid (Below w.heap.size w wr)) (fun t _ => C.length - (intOf t).toNat)
        case atStart => exact ⟨0, by omega, rfl, hA1, B, B1, hb⟩
        case round =>
          clear b1 c1 hA1 B B1 hb t1
          obtain ⟨m, hml, rfl, hs, B, B1, hb⟩ := hrel
          obtain ⟨_, b1, _⟩ := id B.out
          by_cases hlt : m < C.length
          · obtain ⟨g, o, rfl, hg, P⟩ := kC.resolve_left (by intro e; rw [e] at hlt; simp at hlt)
            have p0 := (hb.out.cell (p := ⟨g, _, none⟩) hg).trans (P m hlt 0 _ rfl)
            have p1 := (hb.out.cell (p := ⟨g, _, none⟩) hg).trans (P m hlt 1 _ rfl)
            have p2 := (hb.out.cell (p := ⟨g, _, none⟩) hg).trans (P m hlt 2 _ rfl)
            have p3 := (hb.out.cell (p := ⟨g, _, none⟩) hg).trans (P m hlt 3 _ rfl)
            simp only [Nat.add_zero] at p0
            have hs' := hs.out
            rw [clearF_step A C m hlt] at hs'
            obtain ⟨ra, rb, rc, _, _⟩ := hcf m hlt
            obtain ⟨qa, ea⟩ := atI_get (A := A) (x := C[m].a) (by omega) (by omega)
            obtain ⟨qb, eb⟩ := atI_get (A := A) (x := C[m].b) (by omega) (by omega)
            rw [ea, eb] at hs'
            obtain ⟨gA, oA, rfl, hgA, PA⟩ := kA.resolve_left (by intro e; rw [e] at qa; simp at qa)
            have hbN : Below w.heap.size w (wr.alloc (.cells #[.int .i64 C[m].a, .int .i64 C[m].b, .int .i64 C[m].ab, .int .i64 C[m].ba] 61)) := hb.out.alloc hb.out.size _
            have fa := (hbN.cell (p := ⟨gA, _, none⟩) hgA).trans (PA _ qa _ rfl)
            have fb := (hbN.cell (p := ⟨gA, _, none⟩) hgA).trans (PA _ qb _ rfl)
            have ja : ((C[m].a.toNat : Nat) : Int) = C[m].a := by omega
            have jb : ((C[m].b.toNat : Nat) : Int) = C[m].b := by omega
            generalize hna : C[m].a.toNat = na at *
            generalize hnb : C[m].b.toNat = nb at *
            generalize A[na] = ya at *
            generalize A[nb] = yb at *
            have ta : (0 : Int) ≤ C[m].a := by omega
            have ta' : C[m].a < (A.length : Int) := by omega
            have tb : (0 : Int) ≤ C[m].b := by omega
            have tb' : C[m].b < (A.length : Int) := by omega
            have t1 : (m : Int) < (C.length : Int) := by omega
            have t0 : (0 : Int) ≤ (m : Int) := by omega
            have t2 : m + 1 ≤ C.length := hlt
            have BN := B.out.alloc (.cells #[.int .i64 C[m].a, .int .i64 C[m].b, .int .i64 C[m].ab, .int .i64 C[m].ba] 61)
            have B1N := B1.out.alloc (.cells #[.int .i64 C[m].a, .int .i64 C[m].b, .int .i64 C[m].ab, .int .i64 C[m].ba] 61)
            clear P PA kA kI kW hs hcf ea eb qa qb kC ra rb rc hna hnb
            generalize C[m].a = xa at *
            generalize C[m].b = xb at *
            generalize C[m].ab = xab at *
            generalize C[m].ba = xba at *
            subst ja jb
            obtain ⟨_, d1, _⟩ := id B1N
            by_cases f1 : ya = 0
            · have hs2 : Hid (clearF A (C.drop (m + 1)) = R) := by show _ = _; rw [← hs']; simp [f1]
              subst f1
              clear hs'
              go_wp2
              go_roundw
              case rel => exact ⟨m + 1, by omega, by go_num, hs2, BN, B1N, hbN⟩
              case measure => simp [intOf]; omega
            · have g1 : (ya != 0) = true := by simpa using f1
              by_cases f2 : yb = 0
              · have hs2 : Hid (clearF A (C.drop (m + 1)) = R) := by show _ = _; rw [← hs']; simp [f2]
                subst f2
                clear hs'
                go_wp2
                go_roundw
                case rel => exact ⟨m + 1, by omega, by go_num, hs2, BN, B1N, hbN⟩
                case measure => simp [intOf]; omega
              · have g2 : (yb != 0) = true := by simpa using f2
                have hR : R = false := by rw [← hs']; simp [f1, f2]
                subst hR
                clear hs'
                go_wp2
                go_ret
                exact ⟨rfl, hbN⟩
          · have t1 : ¬ (m : Int) < (C.length : Int) := by omega
            have hR : R = true := by rw [← hs.out]; exact clearF_end A C m (by omega)
            subst hR
            clear kC hs
            go_wp2
            go_ret
            exact ⟨rfl, hb.out⟩
end Go.Proofs.Ytbonmajnkbggcab
