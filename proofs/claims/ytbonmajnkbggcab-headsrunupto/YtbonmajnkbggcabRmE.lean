import Derived.Test.YtbonmajnkbggcabRmD
import Derived.Deep.RegionHeld3
namespace Go.Proofs.Ytbonmajnkbggcab
open Go.RowKit
set_option linter.unusedVariables false

set_option maxRecDepth 100000 in
set_option maxHeartbeats 4000000 in
theorem room_any (G : List Gp) (C : List Cf) (A I W : List Int) (M : List Nat) (vg vc v1 v2 v3 vm : Value) (w : World) (h1 : Fl 5 Gp.cs w vg G) (h2 : Fl 4 Cf.cs w vc C) (h3 : Fl 1 n64 w v1 A) (h4 : Fl 1 n32 w v2 I) (h5 : Fl 1 n32 w v3 W) (lG : G.length ≤ 2932031007317) (lC : C.length ≤ 4398046511000) (lA : A.length ≤ 17592186044000) (lI : I.length ≤ 35184372088000) (lW : W.length ≤ 35184372088000) (h6 : Fl 1 u64 w vm M) (lM : M.length ≤ 17592186044000) :
    Calls Try.prog 9 #[.agg #[vg, vc], .agg #[v1, v2, v3], vm] w fun e w' => (∃ g1 e1 g2 e2 g3 e3 g4 e4 g5 e5 g6 e6, e = .returned (.agg #[.slice (some ⟨g1, 0, none⟩) (G.length + 1) e1, .slice (some ⟨g2, 0, none⟩) (C.length + 1) e2, .slice (some ⟨g3, 0, none⟩) (A.length + 1) e3, .slice (some ⟨g4, 0, none⟩) (I.length + 1) e4, .slice (some ⟨g5, 0, none⟩) (W.length + 1) e5, .slice (some ⟨g6, 0, none⟩) (M.length + 1) e6]) ∧ RoomR w.heap.size w' G C A I W M g1 e1 g2 e2 g3 e3 g4 e4 g5 e5 g6 e6) ∧ Below w.heap.size w w' := by
  have hCp := fun (X : World) (hX : Below w.heap.size w X) => copied_any G C vg vc X (h1.below hX) (h2.below hX) lG lC
  have hCh := fun (X : World) (hX : Below w.heap.size w X) => copyHeads_any A I W v1 v2 v3 X (h3.below hX) (h4.below hX) (h5.below hX) lA lI lW
  obtain ⟨va, cg, rfl, -⟩ := h1.any
  obtain ⟨vb, cc, rfl, -⟩ := h2.any
  obtain ⟨vA, cA, rfl, -⟩ := h3.any
  obtain ⟨vI, cI, rfl, -⟩ := h4.any
  obtain ⟨vW, cW, rfl, -⟩ := h5.any
  obtain ⟨vM, cM, rfl, -⟩ := h6.any
  have hMs := fun (X : World) (hX : Below w.heap.size w X) => fl_src u64_len (by decide) (h6.below hX)
  clear h1 h2 h3 h4 h5 h6
  have K3 : Has (((w.alloc (.cells #[.slice va G.length cg, .slice vb C.length cc] 25)).alloc (.cells #[.slice vA A.length cA, .slice vI I.length cI, .slice vW W.length cW] 29)).alloc (.cells #[.slice none 0 0, .slice none 0 0, .slice none 0 0, .slice none 0 0, .slice none 0 0, .slice none 0 0] 33)) w.heap.size #[.slice va G.length cg, .slice vb C.length cc] := ((Has.new _ _ _ rfl).alloc _).alloc _
  have K4 : Has (((w.alloc (.cells #[.slice va G.length cg, .slice vb C.length cc] 25)).alloc (.cells #[.slice vA A.length cA, .slice vI I.length cI, .slice vW W.length cW] 29)).alloc (.cells #[.slice none 0 0, .slice none 0 0, .slice none 0 0, .slice none 0 0, .slice none 0 0, .slice none 0 0] 33)) (w.heap.size + 1) #[.slice vA A.length cA, .slice vI I.length cI, .slice vW W.length cW] := (Has.new _ _ _ (by simp)).alloc _
  have K6 : Has (((w.alloc (.cells #[.slice va G.length cg, .slice vb C.length cc] 25)).alloc (.cells #[.slice vA A.length cA, .slice vI I.length cI, .slice vW W.length cW] 29)).alloc (.cells #[.slice none 0 0, .slice none 0 0, .slice none 0 0, .slice none 0 0, .slice none 0 0, .slice none 0 0] 33)) (w.heap.size + 2) #[.slice none 0 0, .slice none 0 0, .slice none 0 0, .slice none 0 0, .slice none 0 0, .slice none 0 0] := Has.new _ _ _ (by simp)
  have hb0 : Below w.heap.size w (((w.alloc (.cells #[.slice va G.length cg, .slice vb C.length cc] 25)).alloc (.cells #[.slice vA A.length cA, .slice vI I.length cI, .slice vW W.length cW] 29)).alloc (.cells #[.slice none 0 0, .slice none 0 0, .slice none 0 0, .slice none 0 0, .slice none 0 0, .slice none 0 0] 33)) := bel3
  go_enter Try.func9, Try.ntmps9
  go_upto_region 1 with fail
  generalize (((w.alloc (.cells #[.slice va G.length cg, .slice vb C.length cc] 25)).alloc (.cells #[.slice vA A.length cA, .slice vI I.length cI, .slice vW W.length cW] 29)).alloc (.cells #[.slice none 0 0, .slice none 0 0, .slice none 0 0, .slice none 0 0, .slice none 0 0, .slice none 0 0] 33)) = W0 at *
  obtain ⟨_, k3, f3⟩ := id K3
  obtain ⟨_, k4, f4⟩ := id K4
  go_upto_region 2 with (go_at_call 36; (with_reducible refine Calls.mono (hCp _ (by exact hb0)) ?_); rintro e w1 ⟨⟨a1, c1, a2, c2, rfl, P⟩, hb1⟩; have z1 := hb1.size; have L3 := K3.below hb1; have L4 := K4.below hb1; have L6 := K6.below hb1; have HB := bel_after hb0 hb0.size hb1; obtain ⟨_, l3, fl3⟩ := id L3; obtain ⟨_, l4, fl4⟩ := id L4; clear hb1 k3 f3 k4 f4)
  have N3 : Has ((w1.setCell ⟨w.heap.size, 0, none⟩ (.slice a1 G.length c1)).setCell ⟨w.heap.size, 1, none⟩ (.slice a2 C.length c2)) w.heap.size #[.slice a1 G.length c1, .slice a2 C.length c2] := by simpa using (L3.set 0 (by simp) (.slice a1 G.length c1)).set 1 (by simp) (.slice a2 C.length c2)
  have O1 : Only (fun q => q = w.heap.size) w1 ((w1.setCell ⟨w.heap.size, 0, none⟩ (.slice a1 G.length c1)).setCell ⟨w.heap.size, 1, none⟩ (.slice a2 C.length c2)) := (only_of_set _ _ _ _).trans (only_of_set _ _ _ _)
  have z0 : w.heap.size + 3 ≤ W0.heap.size := K6.1
  have oG := own_only2 P.g O1 (fun q hq e => by have := (own_lt P.g q hq).1; omega)
  have oC := own_only2 P.c O1 (fun q hq e => by have := (own_lt P.c q hq).1; omega)
  have ne1 := P.ne
  have N4 := L4.only O1 (by omega)
  have N6 := L6.only O1 (by omega)
  have HB2 : Below w.heap.size w ((w1.setCell ⟨w.heap.size, 0, none⟩ (.slice a1 G.length c1)).setCell ⟨w.heap.size, 1, none⟩ (.slice a2 C.length c2)) := bel_only HB O1 (Nat.le_refl _) (fun q hq e => by omega)
  have zz : ((w1.setCell ⟨w.heap.size, 0, none⟩ (.slice a1 G.length c1)).setCell ⟨w.heap.size, 1, none⟩ (.slice a2 C.length c2)).heap.size = w1.heap.size := by simp
  clear P K3 K4 K6 L3 L4 L6 l3 fl3 l4 fl4 hb0 HB O1
  generalize ((w1.setCell ⟨w.heap.size, 0, none⟩ (.slice a1 G.length c1)).setCell ⟨w.heap.size, 1, none⟩ (.slice a2 C.length c2)) = W2 at *
  have lGq : ∀ q, (Value.slice a1 G.length c1).ownBlock = some q → q < W2.heap.size := fun q hq => (own_lt oG q hq).2
  have lCq : ∀ q, (Value.slice a2 C.length c2).ownBlock = some q → q < W2.heap.size := fun q hq => (own_lt oC q hq).2
  obtain ⟨_, k4, f4⟩ := id N4
  go_upto_region 3 with (go_at_call 27; (with_reducible refine Calls.mono (hCh _ (by exact HB2)) ?_); rintro e w3 ⟨⟨b1, d1, b2, d2, b3, d3, rfl, P⟩, hb3⟩; have z3 := hb3.size; have L3 := N3.below hb3; have L4 := N4.below hb3; have L6 := N6.below hb3; have HB := bel_after HB2 HB2.size hb3; replace oG := own_bel oG hb3; replace oC := own_bel oC hb3; obtain ⟨_, l4, fl4⟩ := id L4; clear hb3 k4 f4)
  have FINW : True := trivial
  have M4 : Has (((w3.setCell ⟨w.heap.size + 1, 0, none⟩ (.slice b1 A.length d1)).setCell ⟨w.heap.size + 1, 1, none⟩ (.slice b2 I.length d2)).setCell ⟨w.heap.size + 1, 2, none⟩ (.slice b3 W.length d3)) (w.heap.size + 1) #[.slice b1 A.length d1, .slice b2 I.length d2, .slice b3 W.length d3] := by simpa using ((L4.set 0 (by simp) (.slice b1 A.length d1)).set 1 (by simp) (.slice b2 I.length d2)).set 2 (by simp) (.slice b3 W.length d3)
  have O1 : Only (fun q => q = w.heap.size + 1) w3 (((w3.setCell ⟨w.heap.size + 1, 0, none⟩ (.slice b1 A.length d1)).setCell ⟨w.heap.size + 1, 1, none⟩ (.slice b2 I.length d2)).setCell ⟨w.heap.size + 1, 2, none⟩ (.slice b3 W.length d3)) := ((only_of_set _ _ _ _).trans (only_of_set _ _ _ _)).trans (only_of_set _ _ _ _)
  have xG : w3.ownsRow (w.heap.size + 3) 58 5 (.slice a1 G.length c1) G.length (cellsF Gp.cs G) := own_base oG z0
  have xC : w3.ownsRow (w.heap.size + 3) 61 4 (.slice a2 C.length c2) C.length (cellsF Cf.cs C) := own_base oC z0
  have lG' : ∀ q, (Value.slice a1 G.length c1).ownBlock = some q → q < W2.heap.size := lGq
  have lC' : ∀ q, (Value.slice a2 C.length c2).ownBlock = some q → q < W2.heap.size := lCq
  have xA := own_base P.a (show w.heap.size + 3 ≤ W2.heap.size by omega)
  have xI := own_base P.i (show w.heap.size + 3 ≤ W2.heap.size by omega)
  have xW := own_base P.w (show w.heap.size + 3 ≤ W2.heap.size by omega)
  have yG := own_only2 xG O1 (fun q hq e => by have := (own_lt xG q hq).1; omega)
  have yC := own_only2 xC O1 (fun q hq e => by have := (own_lt xC q hq).1; omega)
  have yA := own_only2 xA O1 (fun q hq e => by have := (own_lt xA q hq).1; omega)
  have yI := own_only2 xI O1 (fun q hq e => by have := (own_lt xI q hq).1; omega)
  have yW := own_only2 xW O1 (fun q hq e => by have := (own_lt xW q hq).1; omega)
  have nAI := P.ai
  have nAW := P.aw
  have nIW := P.iw
  have lA' : ∀ q, (Value.slice b1 A.length d1).ownBlock = some q → W2.heap.size ≤ q := fun q hq => (own_lt P.a q hq).1
  have lI' : ∀ q, (Value.slice b2 I.length d2).ownBlock = some q → W2.heap.size ≤ q := fun q hq => (own_lt P.i q hq).1
  have lW' : ∀ q, (Value.slice b3 W.length d3).ownBlock = some q → W2.heap.size ≤ q := fun q hq => (own_lt P.w q hq).1
  have M3 := L3.only O1 (by omega)
  have M6 := L6.only O1 (by omega)
  have HB4 := bel_only HB O1 (Nat.le_refl _) (fun q hq e => by omega)
  clear P N3 N4 N6 L3 L4 L6 l4 fl4 HB O1 xG xC xA xI xW oG oC
  generalize (((w3.setCell ⟨w.heap.size + 1, 0, none⟩ (.slice b1 A.length d1)).setCell ⟨w.heap.size + 1, 1, none⟩ (.slice b2 I.length d2)).setCell ⟨w.heap.size + 1, 2, none⟩ (.slice b3 W.length d3)) = W4 at *
  refine wp_region_noPanic ?_
  refine wp_region_held_drew (S := fun w' => (w'.cell? ⟨w.heap.size, 0, none⟩ = some (.slice a1 G.length c1) ∧ w'.cell? ⟨w.heap.size, 1, none⟩ = some (.slice a2 C.length c2)) ∧ (w'.cell? ⟨w.heap.size + 1, 0, none⟩ = some (.slice b1 A.length d1) ∧ w'.cell? ⟨w.heap.size + 1, 1, none⟩ = some (.slice b2 I.length d2) ∧ w'.cell? ⟨w.heap.size + 1, 2, none⟩ = some (.slice b3 W.length d3))) (by kernel_rfl) ?_ (fun hHeld => ?_)
  · (try dsimp only)
    exact ⟨has2b M3.drew, has3 M4.drew⟩
  refine wpAnyH_take (i := 0) (oi := { dst := some 11, op := Op.fieldAddr 25 (Operand.tmp 3) 0, type := 0, pos := "headslaw.go:82", after := #[], guard := none }) (v := ?_) rfl (by kernel_rfl) (by kernel_rfl) (by kernel_rfl) (fun _ _ _ h => h) (Or.inl ⟨by rfl, ?_⟩) (by assumption) ?_
  rotate_left
  · intro wz hSz; (try dsimp only at hSz); go_simp; all_goals (with_reducible rfl)
  (try simp only [Act.put, List.setIfInBounds_toArray, List.set_cons_zero, List.set_cons_succ])
  refine wpAnyH_take (i := 1) (oi := { dst := some 12, op := Op.load 22 (Operand.tmp 11), type := 22, pos := "headslaw.go:82", after := #[{ on := 0, ground := Ground.data }], guard := none }) (v := ?_) rfl (by kernel_rfl) (by kernel_rfl) (by kernel_rfl) (fun _ _ _ h => h) (Or.inl ⟨by rfl, ?_⟩) (by assumption) ?_
  rotate_left
  · intro wz hSz; (try dsimp only at hSz); go_simp; all_goals (with_reducible rfl)
  (try simp only [Act.put, List.setIfInBounds_toArray, List.set_cons_zero, List.set_cons_succ])
  refine wpAnyH_take (i := 2) (oi := { dst := some 13, op := Op.build 58 #[(0, Operand.const (Value.string { data := #[114, 111, 111, 109] })), (2, Operand.const (Value.int IntKind.i64 (-7)))], type := 58, pos := "headslaw.go:82", after := #[], guard := none }) (v := ?_) rfl (by kernel_rfl) (by kernel_rfl) (by kernel_rfl) (fun _ _ _ h => h) (Or.inl ⟨by rfl, ?_⟩) (by assumption) ?_
  rotate_left
  · intro wz hSz; (try dsimp only at hSz); go_simp; all_goals (with_reducible rfl)
  (try simp only [Act.put, List.setIfInBounds_toArray, List.set_cons_zero, List.set_cons_succ])
  refine wpAnyH_take (i := 5) (oi := { dst := some 16, op := Op.fieldAddr 25 (Operand.tmp 3) 1, type := 0, pos := "headslaw.go:82", after := #[], guard := none }) (v := ?_) rfl (by kernel_rfl) (by kernel_rfl) (by kernel_rfl) (fun _ _ _ h => h) (Or.inl ⟨by rfl, ?_⟩) (by assumption) ?_
  rotate_left
  · intro wz hSz; (try dsimp only at hSz); go_simp; all_goals (with_reducible rfl)
  (try simp only [Act.put, List.setIfInBounds_toArray, List.set_cons_zero, List.set_cons_succ])
  refine wpAnyH_take (i := 6) (oi := { dst := some 17, op := Op.load 23 (Operand.tmp 16), type := 23, pos := "headslaw.go:82", after := #[{ on := 5, ground := Ground.data }], guard := none }) (v := ?_) rfl (by kernel_rfl) (by kernel_rfl) (by kernel_rfl) (fun _ _ _ h => h) (Or.inl ⟨by rfl, ?_⟩) (by assumption) ?_
  rotate_left
  · intro wz hSz; (try dsimp only at hSz); go_simp; all_goals (with_reducible rfl)
  (try simp only [Act.put, List.setIfInBounds_toArray, List.set_cons_zero, List.set_cons_succ])
  refine wpAnyH_take (i := 7) (oi := { dst := some 18, op := Op.build 61 #[(0, Operand.const (Value.int IntKind.i64 (-7)))], type := 61, pos := "headslaw.go:82", after := #[], guard := none }) (v := ?_) rfl (by kernel_rfl) (by kernel_rfl) (by kernel_rfl) (fun _ _ _ h => h) (Or.inl ⟨by rfl, ?_⟩) (by assumption) ?_
  rotate_left
  · intro wz hSz; (try dsimp only at hSz); go_simp; all_goals (with_reducible rfl)
  (try simp only [Act.put, List.setIfInBounds_toArray, List.set_cons_zero, List.set_cons_succ])
  refine wpAnyH_take (i := 11) (oi := { dst := some 22, op := Op.fieldAddr 29 (Operand.tmp 4) 0, type := 0, pos := "headslaw.go:82", after := #[], guard := none }) (v := ?_) rfl (by kernel_rfl) (by kernel_rfl) (by kernel_rfl) (fun _ _ _ h => h) (Or.inl ⟨by rfl, ?_⟩) (by assumption) ?_
  rotate_left
  · intro wz hSz; (try dsimp only at hSz); go_simp; all_goals (with_reducible rfl)
  (try simp only [Act.put, List.setIfInBounds_toArray, List.set_cons_zero, List.set_cons_succ])
  refine wpAnyH_take (i := 12) (oi := { dst := some 23, op := Op.load 26 (Operand.tmp 22), type := 26, pos := "headslaw.go:82", after := #[{ on := 11, ground := Ground.data }], guard := none }) (v := ?_) rfl (by kernel_rfl) (by kernel_rfl) (by kernel_rfl) (fun _ _ _ h => h) (Or.inl ⟨by rfl, ?_⟩) (by assumption) ?_
  rotate_left
  · intro wz hSz; (try dsimp only at hSz); go_simp; all_goals (with_reducible rfl)
  (try simp only [Act.put, List.setIfInBounds_toArray, List.set_cons_zero, List.set_cons_succ])
  refine wpAnyH_take (i := 15) (oi := { dst := some 26, op := Op.fieldAddr 29 (Operand.tmp 4) 1, type := 0, pos := "headslaw.go:82", after := #[], guard := none }) (v := ?_) rfl (by kernel_rfl) (by kernel_rfl) (by kernel_rfl) (fun _ _ _ h => h) (Or.inl ⟨by rfl, ?_⟩) (by assumption) ?_
  rotate_left
  · intro wz hSz; (try dsimp only at hSz); go_simp; all_goals (with_reducible rfl)
  (try simp only [Act.put, List.setIfInBounds_toArray, List.set_cons_zero, List.set_cons_succ])
  refine wpAnyH_take (i := 16) (oi := { dst := some 27, op := Op.load 27 (Operand.tmp 26), type := 27, pos := "headslaw.go:82", after := #[{ on := 15, ground := Ground.data }], guard := none }) (v := ?_) rfl (by kernel_rfl) (by kernel_rfl) (by kernel_rfl) (fun _ _ _ h => h) (Or.inl ⟨by rfl, ?_⟩) (by assumption) ?_
  rotate_left
  · intro wz hSz; (try dsimp only at hSz); go_simp; all_goals (with_reducible rfl)
  (try simp only [Act.put, List.setIfInBounds_toArray, List.set_cons_zero, List.set_cons_succ])
  refine wpAnyH_take (i := 19) (oi := { dst := some 30, op := Op.fieldAddr 29 (Operand.tmp 4) 2, type := 0, pos := "headslaw.go:82", after := #[], guard := none }) (v := ?_) rfl (by kernel_rfl) (by kernel_rfl) (by kernel_rfl) (fun _ _ _ h => h) (Or.inl ⟨by rfl, ?_⟩) (by assumption) ?_
  rotate_left
  · intro wz hSz; (try dsimp only at hSz); go_simp; all_goals (with_reducible rfl)
  (try simp only [Act.put, List.setIfInBounds_toArray, List.set_cons_zero, List.set_cons_succ])
  refine wpAnyH_take (i := 20) (oi := { dst := some 31, op := Op.load 27 (Operand.tmp 30), type := 27, pos := "headslaw.go:82", after := #[{ on := 19, ground := Ground.data }], guard := none }) (v := ?_) rfl (by kernel_rfl) (by kernel_rfl) (by kernel_rfl) (fun _ _ _ h => h) (Or.inl ⟨by rfl, ?_⟩) (by assumption) ?_
  rotate_left
  · intro wz hSz; (try dsimp only at hSz); go_simp; all_goals (with_reducible rfl)
  (try simp only [Act.put, List.setIfInBounds_toArray, List.set_cons_zero, List.set_cons_succ])
  refine wpAnyH_take (i := 24) (oi := { dst := some 35, op := Op.move (Operand.tmp 2), type := 31, pos := "headslaw.go:82", after := #[], guard := none }) (v := ?_) rfl (by kernel_rfl) (by kernel_rfl) (by kernel_rfl) (fun _ _ _ h => h) (Or.inl ⟨by rfl, ?_⟩) (by assumption) ?_
  rotate_left
  · intro wz hSz; (try dsimp only at hSz); go_simp; all_goals (with_reducible rfl)
  (try simp only [Act.put, List.setIfInBounds_toArray, List.set_cons_zero, List.set_cons_succ])
  clear hCp hCh
  have own1 : RI G C A I W M w (.slice a1 G.length c1) (.slice a2 C.length c2) (.slice b1 A.length d1) (.slice b2 I.length d2) (.slice b3 W.length d3) false false false false false false false false false false false false false false false false false undef undef undef undef undef undef undef undef undef undef undef undef undef undef undef undef (fun q => if q < w.heap.size + 3 then 99 else if (Value.slice a1 G.length c1).ownBlock = some q then 0 else if (Value.slice a2 C.length c2).ownBlock = some q then 1 else if (Value.slice b1 A.length d1).ownBlock = some q then 2 else if (Value.slice b2 I.length d2).ownBlock = some q then 3 else 4) W4.drew := ⟨HB4.drew, M6.1, fun q hq => if_pos hq, M3.drew, M4.drew, fun _ => M6.drew, fun h => (by cases h), ⟨fun _ _ => ⟨yG.drew, fun q hq => by (try dsimp only); rw [if_neg (by have := (own_lt yG q hq).1; omega), if_pos hq]⟩, fun h => (by cases h), fun h => (by cases h)⟩, ⟨fun _ _ => ⟨yC.drew, fun q hq => by (try dsimp only); rw [if_neg (by have := (own_lt yC q hq).1; omega), if_neg (fun h => ne1 q h hq), if_pos hq]⟩, fun h => (by cases h), fun h => (by cases h)⟩, ⟨fun _ _ => ⟨yA.drew, fun q hq => by (try dsimp only); rw [if_neg (by have := (own_lt yA q hq).1; omega), if_neg (fun h => by have := lG' q h; have := lA' q hq; omega), if_neg (fun h => by have := lC' q h; have := lA' q hq; omega), if_pos hq]⟩, fun h => (by cases h), fun h => (by cases h)⟩, ⟨fun _ _ => ⟨yI.drew, fun q hq => by (try dsimp only); rw [if_neg (by have := (own_lt yI q hq).1; omega), if_neg (fun h => by have := lG' q h; have := lI' q hq; omega), if_neg (fun h => by have := lC' q h; have := lI' q hq; omega), if_neg (fun h => nAI q h hq), if_pos hq]⟩, fun h => (by cases h), fun h => (by cases h)⟩, ⟨fun _ _ => ⟨yW.drew, fun q hq => by (try dsimp only); rw [if_neg (by have := (own_lt yW q hq).1; omega), if_neg (fun h => by have := lG' q h; have := lW' q hq; omega), if_neg (fun h => by have := lC' q h; have := lW' q hq; omega), if_neg (fun h => nAW q h hq), if_neg (fun h => nIW q h hq)]⟩, fun h => (by cases h), fun h => (by cases h)⟩, ⟨fun h => (by cases h), fun h => (by cases h), fun h => (by cases h)⟩, fun h => (by cases h), fun h => (by cases h), fun h => (by cases h), fun h => (by cases h), fun h => (by cases h), fun _ => rfl, fun _ => rfl, fun _ => rfl, fun _ => rfl, fun _ => rfl, fun _ => rfl⟩
  refine wpAnyH_inv (InvR G C A I W M w (.agg #[.slice va G.length cg, .slice vb C.length cc]) (.agg #[.slice vA A.length cA, .slice vI I.length cI, .slice vW W.length cW]) (.slice vM M.length cM) (.agg #[.slice va G.length cg, .slice vb C.length cc]) (.agg #[.slice a1 G.length c1, .slice a2 C.length c2]) (.agg #[.slice vA A.length cA, .slice vI I.length cI, .slice vW W.length cW]) (.agg #[.slice b1 A.length d1, .slice b2 I.length d2, .slice b3 W.length d3]) (.slice a1 G.length c1) (.slice a2 C.length c2) (.slice b1 A.length d1) (.slice b2 I.length d2) (.slice b3 W.length d3)) (by kernel_rfl) ?_ ?_ ?_ _ _ _ _ (by rfl) (of_decide_eq_true (by kernel_rfl)) ⟨false, false, false, false, false, false, false, false, false, false, false, false, false, false, false, false, false, undef, undef, undef, undef, undef, undef, undef, undef, undef, undef, undef, undef, undef, undef, undef, undef, _, by rfl, rfl, own1⟩
  · rintro l a X ⟨_, _, _, _, _, _, _, _, _, _, _, _, _, _, _, _, _, _, _, _, _, _, _, _, _, _, _, _, _, _, _, _, _, own, -, -, R⟩
    exact ⟨has2b R.h3, has3 R.h4⟩
  · intro l a X i o hI ho h0 hdep K' hK'
    have hi : i < 30 := (Array.getElem?_eq_some_iff.1 ho).1
    have c : i = 0 ∨ i = 1 ∨ i = 2 ∨ i = 3 ∨ i = 4 ∨ i = 5 ∨ i = 6 ∨ i = 7 ∨ i = 8 ∨ i = 9 ∨ i = 10 ∨ i = 11 ∨ i = 12 ∨ i = 13 ∨ i = 14 ∨ i = 15 ∨ i = 16 ∨ i = 17 ∨ i = 18 ∨ i = 19 ∨ i = 20 ∨ i = 21 ∨ i = 22 ∨ i = 23 ∨ i = 24 ∨ i = 25 ∨ i = 26 ∨ i = 27 ∨ i = 28 ∨ i = 29 := by omega
    rcases c with rfl | rfl | rfl | rfl | rfl | rfl | rfl | rfl | rfl | rfl | rfl | rfl | rfl | rfl | rfl | rfl | rfl | rfl | rfl | rfl | rfl | rfl | rfl | rfl | rfl | rfl | rfl | rfl | rfl | rfl
    · obtain ⟨_, _, _, _, _, _, _, _, _, _, _, _, _, _, _, _, _, _, _, _, _, _, _, _, _, _, _, _, _, _, _, _, _, own, rfl, -, -⟩ := hI
      exact Bool.noConfusion (show true = false from h0)
    · obtain ⟨_, _, _, _, _, _, _, _, _, _, _, _, _, _, _, _, _, _, _, _, _, _, _, _, _, _, _, _, _, _, _, _, _, own, rfl, -, -⟩ := hI
      exact Bool.noConfusion (show true = false from h0)
    · obtain ⟨_, _, _, _, _, _, _, _, _, _, _, _, _, _, _, _, _, _, _, _, _, _, _, _, _, _, _, _, _, _, _, _, _, own, rfl, -, -⟩ := hI
      exact Bool.noConfusion (show true = false from h0)
    · cases (show some ({ dst := some 14, op := Op.buildSlice 22 1 #[(0, Operand.tmp 13)], type := 22, pos := "headslaw.go:82", after := #[{ on := 2, ground := Ground.data }], guard := none } : Oper) = some o from ho)
      exact st3 G C A I W M w _ _ _ _ _ _ _ a1 a2 b1 b2 b3 c1 c2 d1 d2 d3 lG lC lA lI lW lM _ l a X hI h0 hdep K' hK'
    · cases (show some ({ dst := some 15, op := Op.call { callee := Callee.builtin Builtin.append, args := #[Operand.tmp 12, Operand.tmp 14], argTypes := #[22, 22] }, type := 22, pos := "headslaw.go:82", after := #[{ on := 1, ground := Ground.data }, { on := 3, ground := Ground.data }], guard := none } : Oper) = some o from ho)
      exact st4 G C A I W M w _ _ _ _ _ _ _ a1 a2 b1 b2 b3 c1 c2 d1 d2 d3 lG lC lA lI lW lM _ l a X hI h0 hdep K' hK'
    · obtain ⟨_, _, _, _, _, _, _, _, _, _, _, _, _, _, _, _, _, _, _, _, _, _, _, _, _, _, _, _, _, _, _, _, _, own, rfl, -, -⟩ := hI
      exact Bool.noConfusion (show true = false from h0)
    · obtain ⟨_, _, _, _, _, _, _, _, _, _, _, _, _, _, _, _, _, _, _, _, _, _, _, _, _, _, _, _, _, _, _, _, _, own, rfl, -, -⟩ := hI
      exact Bool.noConfusion (show true = false from h0)
    · obtain ⟨_, _, _, _, _, _, _, _, _, _, _, _, _, _, _, _, _, _, _, _, _, _, _, _, _, _, _, _, _, _, _, _, _, own, rfl, -, -⟩ := hI
      exact Bool.noConfusion (show true = false from h0)
    · cases (show some ({ dst := some 19, op := Op.buildSlice 23 1 #[(0, Operand.tmp 18)], type := 23, pos := "headslaw.go:82", after := #[{ on := 7, ground := Ground.data }], guard := none } : Oper) = some o from ho)
      exact st8 G C A I W M w _ _ _ _ _ _ _ a1 a2 b1 b2 b3 c1 c2 d1 d2 d3 lG lC lA lI lW lM _ l a X hI h0 hdep K' hK'
    · cases (show some ({ dst := some 20, op := Op.call { callee := Callee.builtin Builtin.append, args := #[Operand.tmp 17, Operand.tmp 19], argTypes := #[23, 23] }, type := 23, pos := "headslaw.go:82", after := #[{ on := 6, ground := Ground.data }, { on := 8, ground := Ground.data }, { on := 4, ground := Ground.chain }], guard := none } : Oper) = some o from ho)
      exact st9 G C A I W M w _ _ _ _ _ _ _ a1 a2 b1 b2 b3 c1 c2 d1 d2 d3 lG lC lA lI lW lM _ l a X hI h0 hdep K' hK'
    · cases (show some ({ dst := some 21, op := Op.build 25 #[(0, Operand.tmp 15), (1, Operand.tmp 20)], type := 25, pos := "headslaw.go:82", after := #[{ on := 4, ground := Ground.data }, { on := 9, ground := Ground.data }], guard := none } : Oper) = some o from ho)
      exact st10 G C A I W M w _ _ _ _ _ _ _ a1 a2 b1 b2 b3 c1 c2 d1 d2 d3 lG lC lA lI lW lM _ l a X hI h0 hdep K' hK'
    · obtain ⟨_, _, _, _, _, _, _, _, _, _, _, _, _, _, _, _, _, _, _, _, _, _, _, _, _, _, _, _, _, _, _, _, _, own, rfl, -, -⟩ := hI
      exact Bool.noConfusion (show true = false from h0)
    · obtain ⟨_, _, _, _, _, _, _, _, _, _, _, _, _, _, _, _, _, _, _, _, _, _, _, _, _, _, _, _, _, _, _, _, _, own, rfl, -, -⟩ := hI
      exact Bool.noConfusion (show true = false from h0)
    · cases (show some ({ dst := some 24, op := Op.buildSlice 26 1 #[(0, Operand.const (Value.int IntKind.i64 (-7)))], type := 26, pos := "headslaw.go:82", after := #[], guard := none } : Oper) = some o from ho)
      exact st13 G C A I W M w _ _ _ _ _ _ _ a1 a2 b1 b2 b3 c1 c2 d1 d2 d3 lG lC lA lI lW lM _ l a X hI h0 hdep K' hK'
    · cases (show some ({ dst := some 25, op := Op.call { callee := Callee.builtin Builtin.append, args := #[Operand.tmp 23, Operand.tmp 24], argTypes := #[26, 26] }, type := 26, pos := "headslaw.go:82", after := #[{ on := 12, ground := Ground.data }, { on := 13, ground := Ground.data }, { on := 9, ground := Ground.chain }], guard := none } : Oper) = some o from ho)
      exact st14 G C A I W M w _ _ _ _ _ _ _ a1 a2 b1 b2 b3 c1 c2 d1 d2 d3 lG lC lA lI lW lM _ l a X hI h0 hdep K' hK'
    · obtain ⟨_, _, _, _, _, _, _, _, _, _, _, _, _, _, _, _, _, _, _, _, _, _, _, _, _, _, _, _, _, _, _, _, _, own, rfl, -, -⟩ := hI
      exact Bool.noConfusion (show true = false from h0)
    · obtain ⟨_, _, _, _, _, _, _, _, _, _, _, _, _, _, _, _, _, _, _, _, _, _, _, _, _, _, _, _, _, _, _, _, _, own, rfl, -, -⟩ := hI
      exact Bool.noConfusion (show true = false from h0)
    · cases (show some ({ dst := some 28, op := Op.buildSlice 27 1 #[(0, Operand.const (Value.int IntKind.i32 (-7)))], type := 27, pos := "headslaw.go:82", after := #[], guard := none } : Oper) = some o from ho)
      exact st17 G C A I W M w _ _ _ _ _ _ _ a1 a2 b1 b2 b3 c1 c2 d1 d2 d3 lG lC lA lI lW lM _ l a X hI h0 hdep K' hK'
    · cases (show some ({ dst := some 29, op := Op.call { callee := Callee.builtin Builtin.append, args := #[Operand.tmp 27, Operand.tmp 28], argTypes := #[27, 27] }, type := 27, pos := "headslaw.go:82", after := #[{ on := 16, ground := Ground.data }, { on := 17, ground := Ground.data }, { on := 14, ground := Ground.chain }], guard := none } : Oper) = some o from ho)
      exact st18 G C A I W M w _ _ _ _ _ _ _ a1 a2 b1 b2 b3 c1 c2 d1 d2 d3 lG lC lA lI lW lM _ l a X hI h0 hdep K' hK'
    · obtain ⟨_, _, _, _, _, _, _, _, _, _, _, _, _, _, _, _, _, _, _, _, _, _, _, _, _, _, _, _, _, _, _, _, _, own, rfl, -, -⟩ := hI
      exact Bool.noConfusion (show true = false from h0)
    · obtain ⟨_, _, _, _, _, _, _, _, _, _, _, _, _, _, _, _, _, _, _, _, _, _, _, _, _, _, _, _, _, _, _, _, _, own, rfl, -, -⟩ := hI
      exact Bool.noConfusion (show true = false from h0)
    · cases (show some ({ dst := some 32, op := Op.buildSlice 27 1 #[(0, Operand.const (Value.int IntKind.i32 (-7)))], type := 27, pos := "headslaw.go:82", after := #[], guard := none } : Oper) = some o from ho)
      exact st21 G C A I W M w _ _ _ _ _ _ _ a1 a2 b1 b2 b3 c1 c2 d1 d2 d3 lG lC lA lI lW lM _ l a X hI h0 hdep K' hK'
    · cases (show some ({ dst := some 33, op := Op.call { callee := Callee.builtin Builtin.append, args := #[Operand.tmp 31, Operand.tmp 32], argTypes := #[27, 27] }, type := 27, pos := "headslaw.go:82", after := #[{ on := 20, ground := Ground.data }, { on := 21, ground := Ground.data }, { on := 18, ground := Ground.chain }], guard := none } : Oper) = some o from ho)
      exact st22 G C A I W M w _ _ _ _ _ _ _ a1 a2 b1 b2 b3 c1 c2 d1 d2 d3 lG lC lA lI lW lM _ l a X hI h0 hdep K' hK'
    · cases (show some ({ dst := some 34, op := Op.build 29 #[(0, Operand.tmp 25), (1, Operand.tmp 29), (2, Operand.tmp 33)], type := 29, pos := "headslaw.go:82", after := #[{ on := 14, ground := Ground.data }, { on := 18, ground := Ground.data }, { on := 22, ground := Ground.data }], guard := none } : Oper) = some o from ho)
      exact st23 G C A I W M w _ _ _ _ _ _ _ a1 a2 b1 b2 b3 c1 c2 d1 d2 d3 lG lC lA lI lW lM _ l a X hI h0 hdep K' hK'
    · obtain ⟨_, _, _, _, _, _, _, _, _, _, _, _, _, _, _, _, _, _, _, _, _, _, _, _, _, _, _, _, _, _, _, _, _, own, rfl, -, -⟩ := hI
      exact Bool.noConfusion (show true = false from h0)
    · cases (show some ({ dst := some 36, op := Op.call { callee := Callee.builtin Builtin.append, args := #[Operand.const (Value.slice none 0 0), Operand.tmp 35], argTypes := #[31, 31] }, type := 31, pos := "headslaw.go:82", after := #[{ on := 24, ground := Ground.data }, { on := 22, ground := Ground.chain }], guard := none } : Oper) = some o from ho)
      exact st25 G C A I W M w _ _ _ _ _ _ _ a1 a2 b1 b2 b3 c1 c2 d1 d2 d3 lG lC lA lI lW lM vM cM rfl (fun X hX => hMs X hX) _ l a X hI h0 hdep K' hK'
    · cases (show some ({ dst := some 37, op := Op.buildSlice 31 1 #[(0, Operand.const (Value.int IntKind.u64 777))], type := 31, pos := "headslaw.go:82", after := #[], guard := none } : Oper) = some o from ho)
      exact st26 G C A I W M w _ _ _ _ _ _ _ a1 a2 b1 b2 b3 c1 c2 d1 d2 d3 lG lC lA lI lW lM _ l a X hI h0 hdep K' hK'
    · cases (show some ({ dst := some 38, op := Op.call { callee := Callee.builtin Builtin.append, args := #[Operand.tmp 36, Operand.tmp 37], argTypes := #[31, 31] }, type := 31, pos := "headslaw.go:82", after := #[{ on := 25, ground := Ground.data }, { on := 26, ground := Ground.data }, { on := 25, ground := Ground.chain }], guard := none } : Oper) = some o from ho)
      exact st27 G C A I W M w _ _ _ _ _ _ _ a1 a2 b1 b2 b3 c1 c2 d1 d2 d3 lG lC lA lI lW lM _ l a X hI h0 hdep K' hK'
    · cases (show some ({ dst := some 39, op := Op.build 33 #[(0, Operand.tmp 21), (1, Operand.tmp 34), (2, Operand.tmp 38)], type := 33, pos := "headslaw.go:82", after := #[{ on := 10, ground := Ground.data }, { on := 23, ground := Ground.data }, { on := 27, ground := Ground.data }], guard := none } : Oper) = some o from ho)
      exact st28 G C A I W M w _ _ _ _ _ _ _ a1 a2 b1 b2 b3 c1 c2 d1 d2 d3 lG lC lA lI lW lM _ l a X hI h0 hdep K' hK'
    · cases (show some ({ dst := none, op := Op.store 33 (Operand.tmp 6) (Operand.tmp 39), type := 0, pos := "headslaw.go:82", after := #[{ on := 28, ground := Ground.data }, { on := 27, ground := Ground.chain }, { on := 0, ground := Ground.phase }, { on := 1, ground := Ground.phase }, { on := 2, ground := Ground.phase }, { on := 3, ground := Ground.phase }, { on := 4, ground := Ground.phase }, { on := 5, ground := Ground.phase }, { on := 6, ground := Ground.phase }, { on := 7, ground := Ground.phase }, { on := 8, ground := Ground.phase }, { on := 9, ground := Ground.phase }, { on := 10, ground := Ground.phase }, { on := 11, ground := Ground.phase }, { on := 12, ground := Ground.phase }, { on := 13, ground := Ground.phase }, { on := 14, ground := Ground.phase }, { on := 15, ground := Ground.phase }, { on := 16, ground := Ground.phase }, { on := 17, ground := Ground.phase }, { on := 18, ground := Ground.phase }, { on := 19, ground := Ground.phase }, { on := 20, ground := Ground.phase }, { on := 21, ground := Ground.phase }, { on := 22, ground := Ground.phase }, { on := 23, ground := Ground.phase }, { on := 24, ground := Ground.phase }, { on := 25, ground := Ground.phase }, { on := 26, ground := Ground.phase }, { on := 27, ground := Ground.phase }, { on := 28, ground := Ground.phase }], guard := none } : Oper) = some o from ho)
      exact st29 G C A I W M w _ _ _ _ _ _ _ a1 a2 b1 b2 b3 c1 c2 d1 d2 d3 lG lC lA lI lW lM _ l a X hI h0 hdep K' hK'
  · rintro l a X ⟨f3, f4, f8, f9, f10, f13, f14, f17, f18, f21, f22, f23, f25, f26, f27, f28, f29, x14, x15, x19, x20, x21, x24, x25, x28, x29, x32, x33, x34, x36, x37, x38, x39, own, rfl, rfl, R⟩ hall
    have e29 : f29 = true := hall 29
    subst e29
    obtain ⟨⟨r4, r9, r14, r18, r22, r27⟩, r28⟩ := R.c29 rfl
    subst r4 r9 r14 r18 r22 r27
    have H := R.h7 rfl
    have hbF := R.hb
    obtain ⟨g1, q1, p1, o1, -⟩ := R.k0.post rfl
    obtain ⟨g2, q2, p2, o2, -⟩ := R.k1.post rfl
    obtain ⟨g3, q3, p3, o3, -⟩ := R.k2.post rfl
    obtain ⟨g4, q4, p4, o4, -⟩ := R.k3.post rfl
    obtain ⟨g5, q5, p5, o5, -⟩ := R.k4.post rfl
    obtain ⟨g6, q6, p6, o6, -⟩ := R.k5.post rfl
    subst p1 p2 p3 p4 p5 p6
    clear R hall
    obtain ⟨_, y1, y2⟩ := id H
    refine NoPanic.normal ?_
    go_wp2_with fail
    exact bodyPost_ret (v := .agg #[.slice (some ⟨g1, 0, none⟩) (G.length + 1) q1, .slice (some ⟨g2, 0, none⟩) (C.length + 1) q2, .slice (some ⟨g3, 0, none⟩) (A.length + 1) q3, .slice (some ⟨g4, 0, none⟩) (I.length + 1) q4, .slice (some ⟨g5, 0, none⟩) (W.length + 1) q5, .slice (some ⟨g6, 0, none⟩) (M.length + 1) q6]) (by simp [results, Try.results9, go_sem, y1]) rfl ⟨⟨g1, q1, g2, q2, g3, q3, g4, q4, g5, q5, g6, q6, rfl, own_base o1 (by omega), own_base o2 (by omega), own_base o3 (by omega), own_base o4 (by omega), own_base o5 (by omega), own_base o6 (by omega)⟩, hbF⟩
end Go.Proofs.Ytbonmajnkbggcab
