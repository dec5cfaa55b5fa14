import Derived.Test.YthflpnahifpdnaaSpJ
import Derived.Deep.RegionHeld3
namespace Go.Proofs.Ythflpnahifpdnaa
open Go.RowKit
set_option linter.unusedVariables false


/-- The picture at the next tick. -/
def nxF (G : List Gp) (C : List Cf) (A I W : List Int) (M : Nat) : Nat → Int := begF G C A W M (alF G A I M) G.length
set_option maxRecDepth 100000 in
set_option maxHeartbeats 4000000 in
theorem next_any (G : List Gp) (C : List Cf) (A I W : List Int) (vg vc v1 v2 v3 : Value) (M : Nat) (w : World) (h1 : Fl 5 Gp.cs w vg G) (h2 : Fl 4 Cf.cs w vc C) (h3 : Fl 1 n64 w v1 A) (h4 : Fl 1 n32 w v2 I) (h5 : Fl 1 n32 w v3 W) (ok : SpOk G C A I W M) :
    Calls Try.prog 39 #[.agg #[vg, vc], .agg #[v1, v2, v3], .int .u64 (M : Int)] w fun e w' => (∃ r p0 p1, e = .returned (.agg #[.slice (some ⟨r, 0, none⟩) G.length G.length, .slice (some ⟨p0, 0, none⟩) G.length G.length, .slice (some ⟨p1, 0, none⟩) G.length G.length]) ∧ w'.ownsRow w.heap.size 3 1 (.slice (some ⟨r, 0, none⟩) G.length G.length) G.length (valR G.length (nxF G C A I W M)) ∧ w'.ownsRow w.heap.size 21 1 (.slice (some ⟨p0, 0, none⟩) G.length G.length) G.length (v32 G.length (inF A I (nxF G C A I W M))) ∧ w'.ownsRow w.heap.size 21 1 (.slice (some ⟨p1, 0, none⟩) G.length G.length) G.length (v32 G.length (awF W (nxF G C A I W M))) ∧ r ≠ p0 ∧ r ≠ p1 ∧ p0 ≠ p1) ∧ Below w.heap.size w w' := by
  obtain ⟨va, cg, e1, -⟩ := h1.any
  obtain ⟨vb, cc, e2, -⟩ := h2.any
  obtain ⟨vA, cA, e3, -⟩ := h3.any
  obtain ⟨vI, cI, e4, -⟩ := h4.any
  obtain ⟨vW, cW, e5, -⟩ := h5.any
  rw [ok.la] at e3
  subst e1 e2 e3 e4 e5
  have h64 := grid_len ok.grid
  have hlC := ok.lC
  have h60 := fun (X : World) (b r : Nat) (hs : Sp X b G C A I W M (.slice va G.length cg) (.slice vb C.length cc) (.slice vA G.length cA) (.slice vI I.length cI) (.slice vW W.length cW) (.slice (some ⟨r, 0, none⟩) G.length G.length)) (hX : Below w.heap.size w X) (ho : X.ownsRow w.heap.size 3 1 (.slice (some ⟨r, 0, none⟩) G.length G.length) G.length (valR G.length (fun _ => 0))) (n1 : r ≠ b) (n2 : w.heap.size ≤ b) => goOn_any X b G C A I W M _ _ _ _ _ _ hs ok w r (fun _ => 0) hX (fun _ => trivial) ⟨h1, h2, h3, h4, h5⟩ rfl ho n1 n2
  have h61 := fun (X : World) (b r : Nat) (hs : Sp X b G C A I W M (.slice va G.length cg) (.slice vb C.length cc) (.slice vA G.length cA) (.slice vI I.length cI) (.slice vW W.length cW) (.slice (some ⟨r, 0, none⟩) G.length G.length)) (hX : Below w.heap.size w X) (ho : X.ownsRow w.heap.size 3 1 (.slice (some ⟨r, 0, none⟩) G.length G.length) G.length (valR G.length (alF G A I M))) (n1 : r ≠ b) (n2 : w.heap.size ≤ b) => begin_any X b G C A I W M _ _ _ _ _ _ hs ok w r (alF G A I M) hX ⟨h1, h2, h3, h4, h5⟩ rfl ho n1 n2
  have h62 := fun (X : World) (b r : Nat) (hs : Sp X b G C A I W M (.slice va G.length cg) (.slice vb C.length cc) (.slice vA G.length cA) (.slice vI I.length cI) (.slice vW W.length cW) (.slice (some ⟨r, 0, none⟩) G.length G.length)) (ho : X.ownsRow w.heap.size 3 1 (.slice (some ⟨r, 0, none⟩) G.length G.length) G.length (valR G.length (nxF G C A I W M))) => counted_any X b G C A I W M _ _ _ _ _ _ hs ok w r (nxF G C A I W M) rfl ho
  have spX : ∀ (X : World) (b r : Nat), Has X b #[.slice va G.length cg, .slice vb C.length cc, .slice vA G.length cA, .slice vI I.length cI, .slice vW W.length cW, .int .u64 (M : Int), .slice (some ⟨r, 0, none⟩) G.length G.length] → Below w.heap.size w X → Sp X b G C A I W M (.slice va G.length cg) (.slice vb C.length cc) (.slice vA G.length cA) (.slice vI I.length cI) (.slice vW W.length cW) (.slice (some ⟨r, 0, none⟩) G.length G.length) := fun X b r h hb => ⟨h, h1.below hb, h2.below hb, h3.below hb, h4.below hb, h5.below hb⟩
  obtain ⟨ti, hi, hi0, hi1, hi2⟩ := info_parts info3m
  have B0 : Has (((w.alloc (.cells #[.slice va G.length cg, .slice vb C.length cc] 25)).alloc (.cells #[.slice vA G.length cA, .slice vI I.length cI, .slice vW W.length cW] 37)).alloc (.cells #[.slice none 0 0, .slice none 0 0, .slice none 0 0] 37)) w.heap.size #[.slice va G.length cg, .slice vb C.length cc] := ((Has.new _ _ _ rfl).alloc _).alloc _
  have B1 : Has (((w.alloc (.cells #[.slice va G.length cg, .slice vb C.length cc] 25)).alloc (.cells #[.slice vA G.length cA, .slice vI I.length cI, .slice vW W.length cW] 37)).alloc (.cells #[.slice none 0 0, .slice none 0 0, .slice none 0 0] 37)) (w.heap.size + 1) #[.slice vA G.length cA, .slice vI I.length cI, .slice vW W.length cW] := (Has.new _ _ _ (by simp)).alloc _
  have B2 : Has (((w.alloc (.cells #[.slice va G.length cg, .slice vb C.length cc] 25)).alloc (.cells #[.slice vA G.length cA, .slice vI I.length cI, .slice vW W.length cW] 37)).alloc (.cells #[.slice none 0 0, .slice none 0 0, .slice none 0 0] 37)) (w.heap.size + 2) #[.slice none 0 0, .slice none 0 0, .slice none 0 0] := Has.new _ _ _ (by simp)
  have hb0 : Below w.heap.size w (((w.alloc (.cells #[.slice va G.length cg, .slice vb C.length cc] 25)).alloc (.cells #[.slice vA G.length cA, .slice vI I.length cI, .slice vW W.length cW] 37)).alloc (.cells #[.slice none 0 0, .slice none 0 0, .slice none 0 0] 37)) := bel3
  have zz : (((w.alloc (.cells #[.slice va G.length cg, .slice vb C.length cc] 25)).alloc (.cells #[.slice vA G.length cA, .slice vI I.length cI, .slice vW W.length cW] 37)).alloc (.cells #[.slice none 0 0, .slice none 0 0, .slice none 0 0] 37)).heap.size = w.heap.size + 3 := by simp
  clear h1 h2 h3 h4 h5 ok
  go_enter Try.func39, Try.ntmps39
  go_upto_region 1 with fail
  generalize (((w.alloc (.cells #[.slice va G.length cg, .slice vb C.length cc] 25)).alloc (.cells #[.slice vA G.length cA, .slice vI I.length cI, .slice vW W.length cW] 37)).alloc (.cells #[.slice none 0 0, .slice none 0 0, .slice none 0 0] 37)) = W0 at *
  refine wp_region_noPanic ?_
  refine wp_region_held_drew (S := fun w' => (w'.cell? ⟨w.heap.size, 0, none⟩ = some (.slice va G.length cg) ∧ w'.cell? ⟨w.heap.size, 1, none⟩ = some (.slice vb C.length cc)) ∧ (w'.cell? ⟨w.heap.size + 1, 0, none⟩ = some (.slice vA G.length cA) ∧ w'.cell? ⟨w.heap.size + 1, 1, none⟩ = some (.slice vI I.length cI) ∧ w'.cell? ⟨w.heap.size + 1, 2, none⟩ = some (.slice vW W.length cW))) (by kernel_rfl) ?_ (fun hHeld => ?_)
  · (try dsimp only)
    exact ⟨has2b B0.drew, has3 B1.drew⟩
  refine wpAnyH_take (i := 0) (oi := { dst := some 8, op := Op.load 25 (Operand.tmp 3), type := 25, pos := "step.go:18", after := #[], guard := none }) (v := ?_) rfl (by kernel_rfl) (by kernel_rfl) (by kernel_rfl) (fun _ _ _ h => h) (Or.inl ⟨by rfl, ?_⟩) (by assumption) ?_
  rotate_left
  · intro wz hSz; (try dsimp only at hSz); go_simp; all_goals (with_reducible rfl)
  (try simp only [Act.put, List.setIfInBounds_toArray, List.set_cons_zero, List.set_cons_succ])
  refine wpAnyH_take (i := 1) (oi := { dst := some 9, op := Op.load 37 (Operand.tmp 4), type := 37, pos := "step.go:18", after := #[], guard := none }) (v := ?_) rfl (by kernel_rfl) (by kernel_rfl) (by kernel_rfl) (fun _ _ _ h => h) (Or.inl ⟨by rfl, ?_⟩) (by assumption) ?_
  rotate_left
  · intro wz hSz; (try dsimp only at hSz); go_simp; all_goals (with_reducible rfl)
  (try simp only [Act.put, List.setIfInBounds_toArray, List.set_cons_zero, List.set_cons_succ])
  refine wpAnyH_take (i := 2) (oi := { dst := some 10, op := Op.move (Operand.tmp 2), type := 26, pos := "step.go:18", after := #[], guard := none }) (v := ?_) rfl (by kernel_rfl) (by kernel_rfl) (by kernel_rfl) (fun _ _ _ h => h) (Or.inl ⟨by rfl, ?_⟩) (by assumption) ?_
  rotate_left
  · intro wz hSz; (try dsimp only at hSz); go_simp; all_goals (with_reducible rfl)
  (try simp only [Act.put, List.setIfInBounds_toArray, List.set_cons_zero, List.set_cons_succ])
  refine wpAnyH_take (i := 3) (oi := { dst := some 11, op := Op.fieldAddr 37 (Operand.tmp 4) 0, type := 0, pos := "step.go:18", after := #[], guard := none }) (v := ?_) rfl (by kernel_rfl) (by kernel_rfl) (by kernel_rfl) (fun _ _ _ h => h) (Or.inl ⟨by rfl, ?_⟩) (by assumption) ?_
  rotate_left
  · intro wz hSz; (try dsimp only at hSz); go_simp; all_goals (with_reducible rfl)
  (try simp only [Act.put, List.setIfInBounds_toArray, List.set_cons_zero, List.set_cons_succ])
  refine wpAnyH_take (i := 4) (oi := { dst := some 12, op := Op.load 34 (Operand.tmp 11), type := 34, pos := "step.go:18", after := #[{ on := 3, ground := Ground.data }], guard := none }) (v := ?_) rfl (by kernel_rfl) (by kernel_rfl) (by kernel_rfl) (fun _ _ _ h => h) (Or.inl ⟨by rfl, ?_⟩) (by assumption) ?_
  rotate_left
  · intro wz hSz; (try dsimp only at hSz); go_simp; all_goals (with_reducible rfl)
  (try simp only [Act.put, List.setIfInBounds_toArray, List.set_cons_zero, List.set_cons_succ])
  refine wpAnyH_take (i := 5) (oi := { dst := some 13, op := Op.call { callee := Callee.builtin Builtin.len, args := #[Operand.tmp 12], argTypes := #[34] }, type := 3, pos := "step.go:18", after := #[{ on := 4, ground := Ground.data }], guard := none }) (v := ?_) rfl (by kernel_rfl) (by kernel_rfl) (by kernel_rfl) (fun _ _ _ h => h) (Or.inl ⟨by rfl, ?_⟩) (by assumption) ?_
  rotate_left
  · intro wz hSz; (try dsimp only at hSz); go_simp; all_goals (with_reducible rfl)
  (try simp only [Act.put, List.setIfInBounds_toArray, List.set_cons_zero, List.set_cons_succ])
  refine wpAnyH_ready (rs := [6]) (by kernel_rfl) (by simp) ?_
  refine AllReadyH.cons (o := { dst := some 14, op := Op.makeSlice 34 (Operand.tmp 13) (Operand.tmp 13), type := 34, pos := "step.go:18", after := #[{ on := 5, ground := Ground.data }, { on := 5, ground := Ground.data }], guard := none }) rfl (fun K hK => ?_) AllReadyH.nil
  refine step_make rfl _ 34 rfl 3 ti _ Try.underlying34 hi hi0 hi1 rfl G.length rfl (by rw [hi2]; omega) (by unfold maxLen; omega) w.heap.size (by have : W0.drew.heap.size = w.heap.size + 3 := zz; omega) ?_
  intro w1 o1 hb1
  refine hK.out _ _ ?_ (fun hHeld => ?_)
  · (try dsimp only)
    exact ⟨has2b (B0.drew.below hb1), has3 (B1.drew.below hb1)⟩
  clear hK K
  (try simp only [Act.put, List.setIfInBounds_toArray, List.set_cons_zero, List.set_cons_succ])
  have zd : W0.drew.heap.size = w.heap.size + 3 := zz
  rw [zd] at o1 ⊢
  rw [valR_zero] at o1
  have hbW1 : Below w.heap.size w w1 := bel_after hb0.drew (by rw [zd]; omega) hb1
  replace B0 := B0.drew.below hb1
  replace B1 := B1.drew.below hb1
  replace B2 := B2.drew.below hb1
  have zw1 : w.heap.size + 3 < w1.heap.size := (own_lt o1 _ rfl).2
  clear hb1 zd zz hb0
  refine wpAnyH_take (i := 7) (oi := { dst := some 15, op := Op.build 87 #[(0, Operand.tmp 8), (1, Operand.tmp 9), (2, Operand.tmp 10), (3, Operand.tmp 14)], type := 87, pos := "step.go:18", after := #[{ on := 0, ground := Ground.data }, { on := 1, ground := Ground.data }, { on := 2, ground := Ground.data }, { on := 6, ground := Ground.data }], guard := none }) (v := ?_) rfl (by kernel_rfl) (by kernel_rfl) (by kernel_rfl) (fun _ _ _ h => h) (Or.inl ⟨by rfl, ?_⟩) (by assumption) ?_
  rotate_left
  · intro wz hSz; (try dsimp only at hSz); go_simp; all_goals (with_reducible rfl)
  (try simp only [Act.put, List.setIfInBounds_toArray, List.set_cons_zero, List.set_cons_succ])
  refine wpAnyH_ready (rs := [8]) (by kernel_rfl) (by simp) ?_
  refine AllReadyH.cons (o := { dst := some 16, op := Op.box 87 (Operand.tmp 15), type := 85, pos := "step.go:18", after := #[{ on := 7, ground := Ground.data }], guard := none }) rfl (fun K hK => ?_) AllReadyH.nil
  go_simp
  refine hK.out _ _ ?_ (fun hHeld => ?_)
  · (try dsimp only)
    exact ⟨has2b (B0.alloc _), has3 (B1.alloc _)⟩
  clear hK K
  (try simp only [Act.put, List.setIfInBounds_toArray, List.set_cons_zero, List.set_cons_succ])
  refine wpAnyH_take (i := 9) (oi := { dst := some 7, op := Op.assign (Operand.tmp 16), type := 85, pos := "step.go:18", after := #[{ on := 8, ground := Ground.data }, { on := 0, ground := Ground.phase }, { on := 1, ground := Ground.phase }, { on := 2, ground := Ground.phase }, { on := 3, ground := Ground.phase }, { on := 4, ground := Ground.phase }, { on := 5, ground := Ground.phase }, { on := 6, ground := Ground.phase }, { on := 7, ground := Ground.phase }, { on := 8, ground := Ground.phase }], guard := none }) (v := ?_) rfl (by kernel_rfl) (by kernel_rfl) (by kernel_rfl) (fun _ _ _ h => h) (Or.inl ⟨by rfl, ?_⟩) (by assumption) ?_
  rotate_left
  · intro wz hSz; (try dsimp only at hSz); go_simp; all_goals (with_reducible rfl)
  (try simp only [Act.put, List.setIfInBounds_toArray, List.set_cons_zero, List.set_cons_succ])
  refine wpAnyH_done (by kernel_rfl) ?_ _
  refine NoPanic.normal ?_
  have SX : Has (w1.alloc (.cells #[.slice va G.length cg, .slice vb C.length cc, .slice vA G.length cA, .slice vI I.length cI, .slice vW W.length cW, .int .u64 (M : Int), .slice (some ⟨w.heap.size + 3, 0, none⟩) G.length G.length] 87)) w1.heap.size #[.slice va G.length cg, .slice vb C.length cc, .slice vA G.length cA, .slice vI I.length cI, .slice vW W.length cW, .int .u64 (M : Int), .slice (some ⟨w.heap.size + 3, 0, none⟩) G.length G.length] := Has.new _ _ _ rfl
  have hbX : Below w.heap.size w (w1.alloc (.cells #[.slice va G.length cg, .slice vb C.length cc, .slice vA G.length cA, .slice vI I.length cI, .slice vW W.length cW, .int .u64 (M : Int), .slice (some ⟨w.heap.size + 3, 0, none⟩) G.length G.length] 87)) := hbW1.alloc hbW1.size _
  have oX := o1.alloc (.cells #[.slice va G.length cg, .slice vb C.length cc, .slice vA G.length cA, .slice vI I.length cI, .slice vW W.length cW, .int .u64 (M : Int), .slice (some ⟨w.heap.size + 3, 0, none⟩) G.length G.length] 87)
  have RX := B2.alloc (.cells #[.slice va G.length cg, .slice vb C.length cc, .slice vA G.length cA, .slice vI I.length cI, .slice vW W.length cW, .int .u64 (M : Int), .slice (some ⟨w.heap.size + 3, 0, none⟩) G.length G.length] 87)
  clear o1 B0 B1 B2
  generalize (w1.alloc (.cells #[.slice va G.length cg, .slice vb C.length cc, .slice vA G.length cA, .slice vI I.length cI, .slice vW W.length cW, .int .u64 (M : Int), .slice (some ⟨w.heap.size + 3, 0, none⟩) G.length G.length] 87)) = X0 at *
  go_upto_region 3 with (go_at_call 49; (with_reducible refine Calls.mono (h60 _ w1.heap.size (w.heap.size + 3) (by exact spX _ _ _ SX hbX) hbX oX (by omega) (by omega)) ?_); rintro e X1 ⟨rfl, O1, oX1⟩; have SX1 := SX.only O1 (by omega); have RX1 := RX.only O1 (by omega); have hbX1 := bel_only hbX O1 (Nat.le_refl _) (fun q hq h => by omega))
  go_upto_region 4 with (go_at_call 50; (with_reducible refine Calls.mono (h61 _ w1.heap.size (w.heap.size + 3) (by exact spX _ _ _ SX1 hbX1) hbX1 oX1 (by omega) (by omega)) ?_); rintro e X2 ⟨rfl, O2, oX2⟩; have SX2 := SX1.only O2 (by omega); have RX2 := RX1.only O2 (by omega); have hbX2 := bel_only hbX1 O2 (Nat.le_refl _) (fun q hq h => by omega); have zx2 := SX2.1; have oX2n : X2.ownsRow w.heap.size 3 1 (.slice (some ⟨w.heap.size + 3, 0, none⟩) G.length G.length) G.length (valR G.length (nxF G C A I W M)) := oX2)
  go_wp2_with (go_at_call 51; (with_reducible refine Calls.mono (h62 _ w1.heap.size (w.heap.size + 3) (by exact spX _ _ _ SX2 hbX2) oX2n) ?_); rintro e X3 ⟨⟨p0, p1, rfl, a0, a1, n01⟩, hb3⟩; have oX3 := own_bel oX2n hb3; have RX3 := RX2.below hb3; have hbX3 := bel_after hbX2 hbX2.size hb3; have g0 := (own_lt a0 p0 rfl).1; have g1 := (own_lt a1 p1 rfl).1; have zx3 := hb3.size; obtain ⟨_, ry, rg⟩ := id RX3; clear hb3)
  have O : Only (fun q => q = w.heap.size + 2) X3 (((X3.setCell ⟨w.heap.size + 2, 0, none⟩ (.slice (some ⟨w.heap.size + 3, 0, none⟩) G.length G.length)).setCell ⟨w.heap.size + 2, 1, none⟩ (.slice (some ⟨p0, 0, none⟩) G.length G.length)).setCell ⟨w.heap.size + 2, 2, none⟩ (.slice (some ⟨p1, 0, none⟩) G.length G.length)) := ((only_of_set _ _ _ _).trans (only_of_set _ _ _ _)).trans (only_of_set _ _ _ _)
  have HH : Has (((X3.setCell ⟨w.heap.size + 2, 0, none⟩ (.slice (some ⟨w.heap.size + 3, 0, none⟩) G.length G.length)).setCell ⟨w.heap.size + 2, 1, none⟩ (.slice (some ⟨p0, 0, none⟩) G.length G.length)).setCell ⟨w.heap.size + 2, 2, none⟩ (.slice (some ⟨p1, 0, none⟩) G.length G.length)) (w.heap.size + 2) #[.slice (some ⟨w.heap.size + 3, 0, none⟩) G.length G.length, .slice (some ⟨p0, 0, none⟩) G.length G.length, .slice (some ⟨p1, 0, none⟩) G.length G.length] := by simpa using ((RX3.set 0 (by simp) (.slice (some ⟨w.heap.size + 3, 0, none⟩) G.length G.length)).set 1 (by simp) (.slice (some ⟨p0, 0, none⟩) G.length G.length)).set 2 (by simp) (.slice (some ⟨p1, 0, none⟩) G.length G.length)
  have bF := bel_only hbX3 O (Nat.le_refl _) (fun q hq h => by omega)
  have f1 := own_only2 oX3 O (fun q hq h => by have e : w.heap.size + 3 = q := (by injection hq); omega)
  have f2 := own_only2 a0 O (fun q hq h => by have e : p0 = q := (by injection hq); omega)
  have f3 := own_only2 a1 O (fun q hq h => by have e : p1 = q := (by injection hq); omega)
  generalize (((X3.setCell ⟨w.heap.size + 2, 0, none⟩ (.slice (some ⟨w.heap.size + 3, 0, none⟩) G.length G.length)).setCell ⟨w.heap.size + 2, 1, none⟩ (.slice (some ⟨p0, 0, none⟩) G.length G.length)).setCell ⟨w.heap.size + 2, 2, none⟩ (.slice (some ⟨p1, 0, none⟩) G.length G.length)) = WF at *
  obtain ⟨_, k1, _⟩ := id HH
  exact bodyPost_ret (v := .agg #[.slice (some ⟨w.heap.size + 3, 0, none⟩) G.length G.length, .slice (some ⟨p0, 0, none⟩) G.length G.length, .slice (some ⟨p1, 0, none⟩) G.length G.length]) (by simp [results, Try.results39, go_sem, k1]) rfl ⟨⟨_, p0, p1, rfl, f1, own_base f2 hbX2.size, own_base f3 hbX2.size, by omega, by omega, n01⟩, bF⟩
end Go.Proofs.Ythflpnahifpdnaa
