import Derived.Test.YtbonmajnkbggcabKpA
import Derived.Test.YtbonmajnkbggcabRmE
import Derived.Test.YtbonmajnkbggcabGaA
import Derived.Test.YtbonmajnkbggcabGaB
import Derived.Test.YtbonmajnkbggcabSeA
import Derived.Test.YtbonmajnkbggcabSeB
import Derived.Test.YtbonmajnkbggcabShB
import Derived.Test.YtbonmajnkbggcabAsR
import Derived.Deep.RegionHeld3
namespace Go.Proofs.Ytbonmajnkbggcab
open Go.RowKit
set_option linter.unusedVariables false

set_option maxRecDepth 100000 in
set_option maxHeartbeats 4000000 in
theorem asks (G : List Gp) (C : List Cf) (A I W : List Int) (vg vc v1 v2 v3 : Value) (M : Nat) (w : World) (h1 : Fl 5 Gp.cs w vg G) (h2 : Fl 4 Cf.cs w vc C) (h3 : Fl 1 n64 w v1 A) (h4 : Fl 1 n32 w v2 I) (h5 : Fl 1 n32 w v3 W) (lG : G.length ≤ 2932031007317) (lC : C.length ≤ 4398046511000) (lA : A.length ≤ 17592186044000) (lI : I.length ≤ 35184372088000) (lW : W.length ≤ 35184372088000) (okI : ∀ x ∈ I, inI32 x) (hM : M < 18446744073709551616) :
    Calls Try.prog 3 #[.agg #[vg, vc], .agg #[v1, v2, v3], .int .u64 (M : Int)] w fun e w' => e = .returned (.bool true) ∧ Below w.heap.size w w' := by
  have hRoom := fun (X : World) (hX : Below w.heap.size w X) => room_any G C A I W [] vg vc v1 v2 v3 (.slice none 0 0) X (h1.below hX) (h2.below hX) (h3.below hX) (h4.below hX) (h5.below hX) lG lC lA lI lW (.inl ⟨rfl, rfl⟩) (by simp)
  have k13 := fun (X : World) (hX : Below w.heap.size w X) => refSound_any G C A I W vg vc v1 v2 v3 X (h1.below hX) (h2.below hX) (h3.below hX) (h4.below hX) (h5.below hX) lG lC lA lI lW okI
  have k15 := fun (X : World) (hX : Below w.heap.size w X) => refGate_any G C A I W vg vc v1 v2 v3 M X (h1.below hX) (h2.below hX) (h3.below hX) (h4.below hX) (h5.below hX) lG lC lA lI lW okI hM
  have k17 := fun (X : World) (hX : Below w.heap.size w X) => refSettled_any G C A I W vg vc v1 v2 v3 M X (h1.below hX) (h2.below hX) (h3.below hX) (h4.below hX) (h5.below hX) lG lC lA lI lW okI hM
  have k20 := fun (X : World) (hX : Below w.heap.size w X) (g1 e1 g2 e2 g3 e3 g4 e4 g5 e5 g6 e6 : Nat) (R : RoomR 0 X G C A I W [] g1 e1 g2 e2 g3 e3 g4 e4 g5 e5 g6 e6) => (kept_any G C A I W [] vg vc v1 v2 v3 (.slice none 0 0) g1 e1 g2 e2 g3 e3 g4 e4 g5 e5 g6 e6 X (h1.below hX) (h2.below hX) (h3.below hX) (h4.below hX) (h5.below hX) lG lC lA lI lW (.inl ⟨rfl, rfl⟩) (by simp) R : Calls Try.prog 20 #[.agg #[.slice (some ⟨g1, 0, none⟩) (G.length + 1) e1, .slice (some ⟨g2, 0, none⟩) (C.length + 1) e2, .slice (some ⟨g3, 0, none⟩) (A.length + 1) e3, .slice (some ⟨g4, 0, none⟩) (I.length + 1) e4, .slice (some ⟨g5, 0, none⟩) (W.length + 1) e5, .slice (some ⟨g6, 0, none⟩) 1 e6], .agg #[vg, vc], .agg #[v1, v2, v3], .slice none 0 0] X fun e w' => e = .returned (.bool true) ∧ Below X.heap.size X w')
  obtain ⟨vI, cI, rfl, -⟩ := id h4.any
  obtain ⟨vW, cW, rfl, -⟩ := id h5.any
  have k19 := fun (X : World) (hX : Below w.heap.size w X) => refShow_any A v1 vI vW I.length cI W.length cW X (h3.below hX) lA
  obtain ⟨va, cg, rfl, -⟩ := h1.any
  obtain ⟨vb, cc, rfl, -⟩ := h2.any
  obtain ⟨vA, cA, rfl, -⟩ := h3.any
  have E0 : Has ((w.alloc (.cells #[.slice va G.length cg, .slice vb C.length cc] 25)).alloc (.cells #[.slice vA A.length cA, .slice vI I.length cI, .slice vW W.length cW] 29)) w.heap.size #[.slice va G.length cg, .slice vb C.length cc] := (Has.new _ _ _ rfl).alloc _
  have E1 : Has ((w.alloc (.cells #[.slice va G.length cg, .slice vb C.length cc] 25)).alloc (.cells #[.slice vA A.length cA, .slice vI I.length cI, .slice vW W.length cW] 29)) (w.heap.size + 1) #[.slice vA A.length cA, .slice vI I.length cI, .slice vW W.length cW] := Has.new _ _ _ (by simp)
  have HB0 : Below w.heap.size w ((w.alloc (.cells #[.slice va G.length cg, .slice vb C.length cc] 25)).alloc (.cells #[.slice vA A.length cA, .slice vI I.length cI, .slice vW W.length cW] 29)) := belA
  clear h1 h2 h3 h4 h5
  go_enter Try.func3, Try.ntmps3
  go_upto_region 1 with fail
  generalize ((w.alloc (.cells #[.slice va G.length cg, .slice vb C.length cc] 25)).alloc (.cells #[.slice vA A.length cA, .slice vI I.length cI, .slice vW W.length cW] 29)) = W0 at *
  have z0 : w.heap.size + 2 ≤ W0.heap.size := E1.1
  obtain ⟨_, y0, _⟩ := id E0
  obtain ⟨_, y1, _⟩ := id E1
  go_upto_region 2 with (go_at_call 9; (with_reducible refine Calls.mono (hRoom _ (by exact HB0)) ?_); rintro e w1 ⟨⟨g1, e1, g2, e2, g3, e3, g4, e4, g5, e5, g6, e6, rfl, R0⟩, hb1⟩; have zz1 := hb1.size; have HB1 := bel_after HB0 HB0.size hb1; replace E0 := E0.below hb1; replace E1 := E1.below hb1; clear hb1 y0 y1)
  have hTb' : ∀ X : World, Calls Try.prog 10 #[.agg #[.slice (some ⟨g1, 0, none⟩) (G.length + 1) e1, .slice (some ⟨g2, 0, none⟩) (C.length + 1) e2, .slice (some ⟨g3, 0, none⟩) (A.length + 1) e3, .slice (some ⟨g4, 0, none⟩) (I.length + 1) e4, .slice (some ⟨g5, 0, none⟩) (W.length + 1) e5, .slice (some ⟨g6, 0, none⟩) 1 e6]] X fun e w' => e = .returned (.agg #[.slice (some ⟨g1, 0, none⟩) G.length e1, .slice (some ⟨g2, 0, none⟩) C.length e2]) ∧ Below X.heap.size X w' := fun X => tables_any g1 g2 g3 g4 g5 g6 G.length C.length A.length I.length W.length 0 e1 e2 e3 e4 e5 e6 X (own_cap R0.fg (by omega)) (by omega) (own_cap R0.fc (by omega)) (by omega)
  have hHd' : ∀ X : World, Calls Try.prog 11 #[.agg #[.slice (some ⟨g1, 0, none⟩) (G.length + 1) e1, .slice (some ⟨g2, 0, none⟩) (C.length + 1) e2, .slice (some ⟨g3, 0, none⟩) (A.length + 1) e3, .slice (some ⟨g4, 0, none⟩) (I.length + 1) e4, .slice (some ⟨g5, 0, none⟩) (W.length + 1) e5, .slice (some ⟨g6, 0, none⟩) 1 e6]] X fun e w' => e = .returned (.agg #[.slice (some ⟨g3, 0, none⟩) A.length e3, .slice (some ⟨g4, 0, none⟩) I.length e4, .slice (some ⟨g5, 0, none⟩) W.length e5]) ∧ Below X.heap.size X w' := fun X => heads_any g1 g2 g3 g4 g5 g6 G.length C.length A.length I.length W.length 0 e1 e2 e3 e4 e5 e6 X (own_cap R0.fa (by omega)) (by omega) (own_cap R0.fi (by omega)) (by omega) (own_cap R0.fw (by omega)) (by omega)
  have RB : Has (w1.alloc (.cells #[.slice (some ⟨g1, 0, none⟩) (G.length + 1) e1, .slice (some ⟨g2, 0, none⟩) (C.length + 1) e2, .slice (some ⟨g3, 0, none⟩) (A.length + 1) e3, .slice (some ⟨g4, 0, none⟩) (I.length + 1) e4, .slice (some ⟨g5, 0, none⟩) (W.length + 1) e5, .slice (some ⟨g6, 0, none⟩) 1 e6] 33)) w1.heap.size #[.slice (some ⟨g1, 0, none⟩) (G.length + 1) e1, .slice (some ⟨g2, 0, none⟩) (C.length + 1) e2, .slice (some ⟨g3, 0, none⟩) (A.length + 1) e3, .slice (some ⟨g4, 0, none⟩) (I.length + 1) e4, .slice (some ⟨g5, 0, none⟩) (W.length + 1) e5, .slice (some ⟨g6, 0, none⟩) 1 e6] := Has.new _ _ _ rfl
  have hbA : Below w1.heap.size w1 (w1.alloc (.cells #[.slice (some ⟨g1, 0, none⟩) (G.length + 1) e1, .slice (some ⟨g2, 0, none⟩) (C.length + 1) e2, .slice (some ⟨g3, 0, none⟩) (A.length + 1) e3, .slice (some ⟨g4, 0, none⟩) (I.length + 1) e4, .slice (some ⟨g5, 0, none⟩) (W.length + 1) e5, .slice (some ⟨g6, 0, none⟩) 1 e6] 33)) := belN1
  replace R0 := R0.below hbA
  replace E0 := E0.below hbA
  replace E1 := E1.below hbA
  replace HB1 := bel_after HB1 HB1.size hbA
  clear hbA
  generalize (w1.alloc (.cells #[.slice (some ⟨g1, 0, none⟩) (G.length + 1) e1, .slice (some ⟨g2, 0, none⟩) (C.length + 1) e2, .slice (some ⟨g3, 0, none⟩) (A.length + 1) e3, .slice (some ⟨g4, 0, none⟩) (I.length + 1) e4, .slice (some ⟨g5, 0, none⟩) (W.length + 1) e5, .slice (some ⟨g6, 0, none⟩) 1 e6] 33)) = W2 at *
  refine wp_region_noPanic ?_
  refine wp_region_held_drew (S := fun w' => w'.cell? ⟨w1.heap.size, 0, none⟩ = some (.slice (some ⟨g1, 0, none⟩) (G.length + 1) e1) ∧ w'.cell? ⟨w1.heap.size, 1, none⟩ = some (.slice (some ⟨g2, 0, none⟩) (C.length + 1) e2) ∧ w'.cell? ⟨w1.heap.size, 2, none⟩ = some (.slice (some ⟨g3, 0, none⟩) (A.length + 1) e3) ∧ w'.cell? ⟨w1.heap.size, 3, none⟩ = some (.slice (some ⟨g4, 0, none⟩) (I.length + 1) e4) ∧ w'.cell? ⟨w1.heap.size, 4, none⟩ = some (.slice (some ⟨g5, 0, none⟩) (W.length + 1) e5) ∧ w'.cell? ⟨w1.heap.size, 5, none⟩ = some (.slice (some ⟨g6, 0, none⟩) 1 e6)) (by kernel_rfl) ?_ (fun hHeld => ?_)
  · (try dsimp only)
    exact has6 RB.drew
  refine wpAnyH_take (i := 0) (oi := { dst := some 13, op := Op.load 33 (Operand.tmp 7), type := 33, pos := "headslaw.go:118", after := #[], guard := none }) (v := ?_) rfl (by kernel_rfl) (by kernel_rfl) (by kernel_rfl) (fun _ _ _ h => h) (Or.inl ⟨by rfl, ?_⟩) (by assumption) ?_
  rotate_left
  · intro wz hSz; (try dsimp only at hSz); go_simp; all_goals (with_reducible rfl)
  (try simp only [Act.put, List.setIfInBounds_toArray, List.set_cons_zero, List.set_cons_succ])
  refine wpAnyH_take (i := 2) (oi := { dst := some 15, op := Op.load 33 (Operand.tmp 7), type := 33, pos := "headslaw.go:118", after := #[], guard := none }) (v := ?_) rfl (by kernel_rfl) (by kernel_rfl) (by kernel_rfl) (fun _ _ _ h => h) (Or.inl ⟨by rfl, ?_⟩) (by assumption) ?_
  rotate_left
  · intro wz hSz; (try dsimp only at hSz); go_simp; all_goals (with_reducible rfl)
  (try simp only [Act.put, List.setIfInBounds_toArray, List.set_cons_zero, List.set_cons_succ])
  refine regA3 G C A I W g1 g2 g3 g4 g5 e1 e2 e3 e4 e5 g6 e6 _ _ _ _ _ _ _ _ _ W2.drew rfl hTb' hHd' _ _ (fun X hX => has6 (RB.drew.below hX)) ?_ _ (of_decide_eq_true (by kernel_rfl))
  intro p q y0 hb0 P0 Q0 hp hq
  refine NoPanic.normal ?_
  have H0 : Below W2.heap.size W2 y0 := bel_after ((Below.refl _ _).drew) (Nat.le_refl _) hb0
  have U0 := E0.below H0
  have V0 := E1.below H0
  have B0 := RB.below H0
  have FG := fl_cut gp_len R0.fg
  have FC := fl_cut cf_len R0.fc
  have FA := fl_cut n64_len R0.fa
  have FI := fl_cut n32_len R0.fi
  have FW := fl_cut n32_len R0.fw
  have HX := fun (X : World) (hX : Below W2.heap.size W2 X) => bel_after HB1 HB1.size hX
  have c12 := fun (X : World) (hX : Below W2.heap.size W2 X) => sound_any G C A I W _ _ _ _ _ X (FG.below hX) (FC.below hX) (FA.below hX) (FI.below hX) (FW.below hX) lG lC lA lI lW okI
  have c14 := fun (X : World) (hX : Below W2.heap.size W2 X) => gate_any G C A I W _ _ _ _ _ M X (FG.below hX) (FC.below hX) (FA.below hX) (FI.below hX) (FW.below hX) lG lC lA lI lW okI hM
  have c16 := fun (X : World) (hX : Below W2.heap.size W2 X) => settled_any G C A I W _ _ _ _ _ M X (FG.below hX) (FC.below hX) (FA.below hX) (FI.below hX) (FW.below hX) lG lC lA lI lW okI hM
  have c18 := fun (X : World) (hX : Below W2.heap.size W2 X) => show_any A _ (some ⟨g4, 0, none⟩) (some ⟨g5, 0, none⟩) I.length e4 W.length e5 X (FA.below hX) lA
  have c13 := fun (X : World) (hX : Below W2.heap.size W2 X) => k13 X (HX X hX)
  have c15 := fun (X : World) (hX : Below W2.heap.size W2 X) => k15 X (HX X hX)
  have c17 := fun (X : World) (hX : Below W2.heap.size W2 X) => k17 X (HX X hX)
  have c19 := fun (X : World) (hX : Below W2.heap.size W2 X) => k19 X (HX X hX)
  have c20 := fun (X : World) (hX : Below W2.heap.size W2 X) => k20 X (HX X hX) g1 e1 g2 e2 g3 e3 g4 e4 g5 e5 g6 e6 ((R0.base (Nat.zero_le _)).below hX)
  have HF := fun (X : World) (hX : Below W2.heap.size W2 X) => HX X hX
  clear k13 k15 k17 k19 k20 FG FC FA FI FW R0 hTb' hHd' RB E0 E1 hb0 hRoom
  generalize soundB G C A I W = sv at *
  generalize gateB G C A I W M = gv at *
  generalize setB G C A I W M = tv at *
  generalize showS A = wv at *
  go_upto_region 3 with fail
  refine wp_region_noPanic ?_
  refine wp_region_held_drew (S := fun w' => (w'.cell? ⟨p, 0, none⟩ = some (.slice (some ⟨g1, 0, none⟩) G.length e1) ∧ w'.cell? ⟨p, 1, none⟩ = some (.slice (some ⟨g2, 0, none⟩) C.length e2)) ∧ (w'.cell? ⟨q, 0, none⟩ = some (.slice (some ⟨g3, 0, none⟩) A.length e3) ∧ w'.cell? ⟨q, 1, none⟩ = some (.slice (some ⟨g4, 0, none⟩) I.length e4) ∧ w'.cell? ⟨q, 2, none⟩ = some (.slice (some ⟨g5, 0, none⟩) W.length e5)) ∧ (w'.cell? ⟨w.heap.size, 0, none⟩ = some (.slice va G.length cg) ∧ w'.cell? ⟨w.heap.size, 1, none⟩ = some (.slice vb C.length cc)) ∧ (w'.cell? ⟨w.heap.size + 1, 0, none⟩ = some (.slice vA A.length cA) ∧ w'.cell? ⟨w.heap.size + 1, 1, none⟩ = some (.slice vI I.length cI) ∧ w'.cell? ⟨w.heap.size + 1, 2, none⟩ = some (.slice vW W.length cW))) (by kernel_rfl) ?_ (fun hHeld => ?_)
  · (try dsimp only)
    exact ⟨has2b P0.drew, has3 Q0.drew, has2b U0.drew, has3 V0.drew⟩
  refine wpAnyH_take (i := 0) (oi := { dst := some 17, op := Op.load 25 (Operand.tmp 8), type := 25, pos := "headslaw.go:119", after := #[], guard := none }) (v := ?_) rfl (by kernel_rfl) (by kernel_rfl) (by kernel_rfl) (fun _ _ _ h => h) (Or.inl ⟨by rfl, ?_⟩) (by assumption) ?_
  rotate_left
  · intro wz hSz; (try dsimp only at hSz); go_simp; all_goals (with_reducible rfl)
  (try simp only [Act.put, List.setIfInBounds_toArray, List.set_cons_zero, List.set_cons_succ])
  refine wpAnyH_take (i := 1) (oi := { dst := some 18, op := Op.load 29 (Operand.tmp 9), type := 29, pos := "headslaw.go:119", after := #[], guard := none }) (v := ?_) rfl (by kernel_rfl) (by kernel_rfl) (by kernel_rfl) (fun _ _ _ h => h) (Or.inl ⟨by rfl, ?_⟩) (by assumption) ?_
  rotate_left
  · intro wz hSz; (try dsimp only at hSz); go_simp; all_goals (with_reducible rfl)
  (try simp only [Act.put, List.setIfInBounds_toArray, List.set_cons_zero, List.set_cons_succ])
  refine wpAnyH_take (i := 3) (oi := { dst := some 20, op := Op.load 25 (Operand.tmp 3), type := 25, pos := "headslaw.go:119", after := #[], guard := none }) (v := ?_) rfl (by kernel_rfl) (by kernel_rfl) (by kernel_rfl) (fun _ _ _ h => h) (Or.inl ⟨by rfl, ?_⟩) (by assumption) ?_
  rotate_left
  · intro wz hSz; (try dsimp only at hSz); go_simp; all_goals (with_reducible rfl)
  (try simp only [Act.put, List.setIfInBounds_toArray, List.set_cons_zero, List.set_cons_succ])
  refine wpAnyH_take (i := 4) (oi := { dst := some 21, op := Op.load 29 (Operand.tmp 4), type := 29, pos := "headslaw.go:119", after := #[], guard := none }) (v := ?_) rfl (by kernel_rfl) (by kernel_rfl) (by kernel_rfl) (fun _ _ _ h => h) (Or.inl ⟨by rfl, ?_⟩) (by assumption) ?_
  rotate_left
  · intro wz hSz; (try dsimp only at hSz); go_simp; all_goals (with_reducible rfl)
  (try simp only [Act.put, List.setIfInBounds_toArray, List.set_cons_zero, List.set_cons_succ])
  refine wpAnyH_ready (rs := [2]) (by kernel_rfl) (by simp) ?_
  refine AllReadyH.cons (o := { dst := some 19, op := Op.call { callee := Callee.value (Operand.func 12), args := #[Operand.tmp 17, Operand.tmp 18], argTypes := #[25, 29] }, type := 4, pos := "headslaw.go:119", after := #[{ on := 0, ground := Ground.data }, { on := 1, ground := Ground.data }], guard := none }) rfl (fun K hK => ?_) AllReadyH.nil
  go_simp
  (go_at_call 12; (with_reducible refine Calls.mono (c12 _ (by exact H0.drew)) ?_); rintro e y1 ⟨rfl, hb1⟩; have H1 := bel_after H0.drew H0.size hb1; have P1 := P0.drew.below hb1; have Q1 := Q0.drew.below hb1; have U1 := U0.drew.below hb1; have V1 := V0.drew.below hb1; have B1 := B0.drew.below hb1; clear hb1)
  go_wp2_with fail
  refine hK.out _ _ ?_ (fun hHeld => ?_)
  · (try dsimp only)
    exact ⟨has2b P1, has3 Q1, has2b U1, has3 V1⟩
  clear hK K
  (try simp only [Act.put, List.setIfInBounds_toArray, List.set_cons_zero, List.set_cons_succ])
  refine wpAnyH_ready (rs := [5]) (by kernel_rfl) (by simp) ?_
  refine AllReadyH.cons (o := { dst := some 22, op := Op.call { callee := Callee.value (Operand.func 13), args := #[Operand.tmp 20, Operand.tmp 21], argTypes := #[25, 29] }, type := 4, pos := "headslaw.go:119", after := #[{ on := 3, ground := Ground.data }, { on := 4, ground := Ground.data }, { on := 2, ground := Ground.chain }], guard := none }) rfl (fun K hK => ?_) AllReadyH.nil
  go_simp
  (go_at_call 13; (with_reducible refine Calls.mono (c13 _ (by exact H1)) ?_); rintro e y2 ⟨rfl, hb2⟩; have H2 := bel_after H1 H1.size hb2; have P2 := P1.below hb2; have Q2 := Q1.below hb2; have U2 := U1.below hb2; have V2 := V1.below hb2; have B2 := B1.below hb2; clear hb2)
  go_wp2_with fail
  refine hK.out _ _ ?_ (fun hHeld => ?_)
  · (try dsimp only)
    exact ⟨has2b P2, has3 Q2, has2b U2, has3 V2⟩
  clear hK K
  (try simp only [Act.put, List.setIfInBounds_toArray, List.set_cons_zero, List.set_cons_succ])
  refine wpAnyH_take (i := 6) (oi := { dst := some 23, op := Op.binOp BinOp.neq 4 (Operand.tmp 19) (Operand.tmp 22) 4, type := 4, pos := "headslaw.go:119", after := #[{ on := 2, ground := Ground.data }, { on := 5, ground := Ground.data }], guard := none }) (v := ?_) rfl (by kernel_rfl) (by kernel_rfl) (by kernel_rfl) (fun _ _ _ h => h) (Or.inl ⟨by rfl, ?_⟩) (by assumption) ?_
  rotate_left
  · intro wz hSz; (try dsimp only at hSz); go_simp; all_goals (with_reducible rfl)
  (try simp only [Act.put, List.setIfInBounds_toArray, List.set_cons_zero, List.set_cons_succ])
  refine wpAnyH_take (i := 7) (oi := { dst := some 24, op := Op.move (Operand.tmp 23), type := 4, pos := "headslaw.go:119", after := #[{ on := 6, ground := Ground.data }, { on := 5, ground := Ground.chain }], guard := none }) (v := ?_) rfl (by kernel_rfl) (by kernel_rfl) (by kernel_rfl) (fun _ _ _ h => h) (Or.inl ⟨by rfl, ?_⟩) (by assumption) ?_
  rotate_left
  · intro wz hSz; (try dsimp only at hSz); go_simp; all_goals (with_reducible rfl)
  (try simp only [Act.put, List.setIfInBounds_toArray, List.set_cons_zero, List.set_cons_succ])
  refine wpAnyH_take (i := 8) (oi := { dst := some 25, op := Op.load 25 (Operand.tmp 8), type := 25, pos := "headslaw.go:119", after := #[{ on := 7, ground := Ground.guard }], guard := some (7, false) }) (v := ?_) rfl (by kernel_rfl) (by kernel_rfl) (by kernel_rfl) (fun _ _ _ h => h) (Or.inl ⟨by rfl, ?_⟩) (by assumption) ?_
  rotate_left
  · intro wz hSz; (try dsimp only at hSz); go_simp; all_goals (with_reducible rfl)
  (try simp only [Act.put, List.setIfInBounds_toArray, List.set_cons_zero, List.set_cons_succ])
  refine wpAnyH_take (i := 9) (oi := { dst := some 26, op := Op.load 29 (Operand.tmp 9), type := 29, pos := "headslaw.go:119", after := #[{ on := 7, ground := Ground.guard }], guard := some (7, false) }) (v := ?_) rfl (by kernel_rfl) (by kernel_rfl) (by kernel_rfl) (fun _ _ _ h => h) (Or.inl ⟨by rfl, ?_⟩) (by assumption) ?_
  rotate_left
  · intro wz hSz; (try dsimp only at hSz); go_simp; all_goals (with_reducible rfl)
  (try simp only [Act.put, List.setIfInBounds_toArray, List.set_cons_zero, List.set_cons_succ])
  refine wpAnyH_take (i := 10) (oi := { dst := some 27, op := Op.move (Operand.tmp 2), type := 30, pos := "headslaw.go:119", after := #[{ on := 7, ground := Ground.guard }], guard := some (7, false) }) (v := ?_) rfl (by kernel_rfl) (by kernel_rfl) (by kernel_rfl) (fun _ _ _ h => h) (Or.inl ⟨by rfl, ?_⟩) (by assumption) ?_
  rotate_left
  · intro wz hSz; (try dsimp only at hSz); go_simp; all_goals (with_reducible rfl)
  (try simp only [Act.put, List.setIfInBounds_toArray, List.set_cons_zero, List.set_cons_succ])
  refine wpAnyH_take (i := 12) (oi := { dst := some 29, op := Op.load 25 (Operand.tmp 3), type := 25, pos := "headslaw.go:119", after := #[{ on := 7, ground := Ground.guard }], guard := some (7, false) }) (v := ?_) rfl (by kernel_rfl) (by kernel_rfl) (by kernel_rfl) (fun _ _ _ h => h) (Or.inl ⟨by rfl, ?_⟩) (by assumption) ?_
  rotate_left
  · intro wz hSz; (try dsimp only at hSz); go_simp; all_goals (with_reducible rfl)
  (try simp only [Act.put, List.setIfInBounds_toArray, List.set_cons_zero, List.set_cons_succ])
  refine wpAnyH_take (i := 13) (oi := { dst := some 30, op := Op.load 29 (Operand.tmp 4), type := 29, pos := "headslaw.go:119", after := #[{ on := 7, ground := Ground.guard }], guard := some (7, false) }) (v := ?_) rfl (by kernel_rfl) (by kernel_rfl) (by kernel_rfl) (fun _ _ _ h => h) (Or.inl ⟨by rfl, ?_⟩) (by assumption) ?_
  rotate_left
  · intro wz hSz; (try dsimp only at hSz); go_simp; all_goals (with_reducible rfl)
  (try simp only [Act.put, List.setIfInBounds_toArray, List.set_cons_zero, List.set_cons_succ])
  refine wpAnyH_take (i := 14) (oi := { dst := some 31, op := Op.move (Operand.tmp 2), type := 30, pos := "headslaw.go:119", after := #[{ on := 7, ground := Ground.guard }], guard := some (7, false) }) (v := ?_) rfl (by kernel_rfl) (by kernel_rfl) (by kernel_rfl) (fun _ _ _ h => h) (Or.inl ⟨by rfl, ?_⟩) (by assumption) ?_
  rotate_left
  · intro wz hSz; (try dsimp only at hSz); go_simp; all_goals (with_reducible rfl)
  (try simp only [Act.put, List.setIfInBounds_toArray, List.set_cons_zero, List.set_cons_succ])
  refine wpAnyH_ready (rs := [11]) (by kernel_rfl) (by simp) ?_
  refine AllReadyH.cons (o := { dst := some 28, op := Op.call { callee := Callee.value (Operand.func 14), args := #[Operand.tmp 25, Operand.tmp 26, Operand.tmp 27], argTypes := #[25, 29, 30] }, type := 4, pos := "headslaw.go:119", after := #[{ on := 8, ground := Ground.data }, { on := 9, ground := Ground.data }, { on := 10, ground := Ground.data }, { on := 7, ground := Ground.chain }, { on := 7, ground := Ground.guard }], guard := some (7, false) }) rfl (fun K hK => ?_) AllReadyH.nil
  go_simp
  (go_at_call 14; (with_reducible refine Calls.mono (c14 _ (by exact H2)) ?_); rintro e y3 ⟨rfl, hb3⟩; have H3 := bel_after H2 H2.size hb3; have P3 := P2.below hb3; have Q3 := Q2.below hb3; have U3 := U2.below hb3; have V3 := V2.below hb3; have B3 := B2.below hb3; clear hb3)
  go_wp2_with fail
  refine hK.out _ _ ?_ (fun hHeld => ?_)
  · (try dsimp only)
    exact ⟨has2b P3, has3 Q3, has2b U3, has3 V3⟩
  clear hK K
  (try simp only [Act.put, List.setIfInBounds_toArray, List.set_cons_zero, List.set_cons_succ])
  refine wpAnyH_ready (rs := [15]) (by kernel_rfl) (by simp) ?_
  refine AllReadyH.cons (o := { dst := some 32, op := Op.call { callee := Callee.value (Operand.func 15), args := #[Operand.tmp 29, Operand.tmp 30, Operand.tmp 31], argTypes := #[25, 29, 30] }, type := 4, pos := "headslaw.go:119", after := #[{ on := 12, ground := Ground.data }, { on := 13, ground := Ground.data }, { on := 14, ground := Ground.data }, { on := 11, ground := Ground.chain }, { on := 7, ground := Ground.guard }], guard := some (7, false) }) rfl (fun K hK => ?_) AllReadyH.nil
  go_simp
  (go_at_call 15; (with_reducible refine Calls.mono (c15 _ (by exact H3)) ?_); rintro e y4 ⟨rfl, hb4⟩; have H4 := bel_after H3 H3.size hb4; have P4 := P3.below hb4; have Q4 := Q3.below hb4; have U4 := U3.below hb4; have V4 := V3.below hb4; have B4 := B3.below hb4; clear hb4)
  go_wp2_with fail
  refine hK.out _ _ ?_ (fun hHeld => ?_)
  · (try dsimp only)
    exact ⟨has2b P4, has3 Q4, has2b U4, has3 V4⟩
  clear hK K
  (try simp only [Act.put, List.setIfInBounds_toArray, List.set_cons_zero, List.set_cons_succ])
  refine wpAnyH_take (i := 16) (oi := { dst := some 33, op := Op.binOp BinOp.neq 4 (Operand.tmp 28) (Operand.tmp 32) 4, type := 4, pos := "headslaw.go:119", after := #[{ on := 11, ground := Ground.data }, { on := 15, ground := Ground.data }, { on := 7, ground := Ground.guard }], guard := some (7, false) }) (v := ?_) rfl (by kernel_rfl) (by kernel_rfl) (by kernel_rfl) (fun _ _ _ h => h) (Or.inl ⟨by rfl, ?_⟩) (by assumption) ?_
  rotate_left
  · intro wz hSz; (try dsimp only at hSz); go_simp; all_goals (with_reducible rfl)
  (try simp only [Act.put, List.setIfInBounds_toArray, List.set_cons_zero, List.set_cons_succ])
  refine wpAnyH_take (i := 17) (oi := { dst := some 34, op := Op.pick (Operand.tmp 24) (Operand.const (Value.bool true)) (Operand.tmp 33), type := 4, pos := "headslaw.go:119", after := #[{ on := 7, ground := Ground.data }, { on := 16, ground := Ground.data }], guard := none }) (v := ?_) rfl (by kernel_rfl) (by kernel_rfl) (by kernel_rfl) (fun _ _ _ h => h) (Or.inl ⟨by rfl, ?_⟩) (by assumption) ?_
  rotate_left
  · intro wz hSz; (try dsimp only at hSz); go_simp; all_goals (with_reducible rfl)
  (try simp only [Act.put, List.setIfInBounds_toArray, List.set_cons_zero, List.set_cons_succ])
  refine wpAnyH_done (by kernel_rfl) ?_ _
  refine NoPanic.normal ?_
  go_upto_region 5 with fail
  refine wp_region_noPanic ?_
  refine wp_region_held_drew (S := fun w' => (w'.cell? ⟨p, 0, none⟩ = some (.slice (some ⟨g1, 0, none⟩) G.length e1) ∧ w'.cell? ⟨p, 1, none⟩ = some (.slice (some ⟨g2, 0, none⟩) C.length e2)) ∧ (w'.cell? ⟨q, 0, none⟩ = some (.slice (some ⟨g3, 0, none⟩) A.length e3) ∧ w'.cell? ⟨q, 1, none⟩ = some (.slice (some ⟨g4, 0, none⟩) I.length e4) ∧ w'.cell? ⟨q, 2, none⟩ = some (.slice (some ⟨g5, 0, none⟩) W.length e5)) ∧ (w'.cell? ⟨w.heap.size, 0, none⟩ = some (.slice va G.length cg) ∧ w'.cell? ⟨w.heap.size, 1, none⟩ = some (.slice vb C.length cc)) ∧ (w'.cell? ⟨w.heap.size + 1, 0, none⟩ = some (.slice vA A.length cA) ∧ w'.cell? ⟨w.heap.size + 1, 1, none⟩ = some (.slice vI I.length cI) ∧ w'.cell? ⟨w.heap.size + 1, 2, none⟩ = some (.slice vW W.length cW))) (by kernel_rfl) ?_ (fun hHeld => ?_)
  · (try dsimp only)
    exact ⟨has2b P4.drew, has3 Q4.drew, has2b U4.drew, has3 V4.drew⟩
  refine wpAnyH_take (i := 0) (oi := { dst := some 35, op := Op.load 25 (Operand.tmp 8), type := 25, pos := "headslaw.go:122", after := #[], guard := none }) (v := ?_) rfl (by kernel_rfl) (by kernel_rfl) (by kernel_rfl) (fun _ _ _ h => h) (Or.inl ⟨by rfl, ?_⟩) (by assumption) ?_
  rotate_left
  · intro wz hSz; (try dsimp only at hSz); go_simp; all_goals (with_reducible rfl)
  (try simp only [Act.put, List.setIfInBounds_toArray, List.set_cons_zero, List.set_cons_succ])
  refine wpAnyH_take (i := 1) (oi := { dst := some 36, op := Op.load 29 (Operand.tmp 9), type := 29, pos := "headslaw.go:122", after := #[], guard := none }) (v := ?_) rfl (by kernel_rfl) (by kernel_rfl) (by kernel_rfl) (fun _ _ _ h => h) (Or.inl ⟨by rfl, ?_⟩) (by assumption) ?_
  rotate_left
  · intro wz hSz; (try dsimp only at hSz); go_simp; all_goals (with_reducible rfl)
  (try simp only [Act.put, List.setIfInBounds_toArray, List.set_cons_zero, List.set_cons_succ])
  refine wpAnyH_take (i := 2) (oi := { dst := some 37, op := Op.move (Operand.tmp 2), type := 30, pos := "headslaw.go:122", after := #[], guard := none }) (v := ?_) rfl (by kernel_rfl) (by kernel_rfl) (by kernel_rfl) (fun _ _ _ h => h) (Or.inl ⟨by rfl, ?_⟩) (by assumption) ?_
  rotate_left
  · intro wz hSz; (try dsimp only at hSz); go_simp; all_goals (with_reducible rfl)
  (try simp only [Act.put, List.setIfInBounds_toArray, List.set_cons_zero, List.set_cons_succ])
  refine wpAnyH_take (i := 4) (oi := { dst := some 39, op := Op.load 25 (Operand.tmp 3), type := 25, pos := "headslaw.go:122", after := #[], guard := none }) (v := ?_) rfl (by kernel_rfl) (by kernel_rfl) (by kernel_rfl) (fun _ _ _ h => h) (Or.inl ⟨by rfl, ?_⟩) (by assumption) ?_
  rotate_left
  · intro wz hSz; (try dsimp only at hSz); go_simp; all_goals (with_reducible rfl)
  (try simp only [Act.put, List.setIfInBounds_toArray, List.set_cons_zero, List.set_cons_succ])
  refine wpAnyH_take (i := 5) (oi := { dst := some 40, op := Op.load 29 (Operand.tmp 4), type := 29, pos := "headslaw.go:122", after := #[], guard := none }) (v := ?_) rfl (by kernel_rfl) (by kernel_rfl) (by kernel_rfl) (fun _ _ _ h => h) (Or.inl ⟨by rfl, ?_⟩) (by assumption) ?_
  rotate_left
  · intro wz hSz; (try dsimp only at hSz); go_simp; all_goals (with_reducible rfl)
  (try simp only [Act.put, List.setIfInBounds_toArray, List.set_cons_zero, List.set_cons_succ])
  refine wpAnyH_take (i := 6) (oi := { dst := some 41, op := Op.move (Operand.tmp 2), type := 30, pos := "headslaw.go:122", after := #[], guard := none }) (v := ?_) rfl (by kernel_rfl) (by kernel_rfl) (by kernel_rfl) (fun _ _ _ h => h) (Or.inl ⟨by rfl, ?_⟩) (by assumption) ?_
  rotate_left
  · intro wz hSz; (try dsimp only at hSz); go_simp; all_goals (with_reducible rfl)
  (try simp only [Act.put, List.setIfInBounds_toArray, List.set_cons_zero, List.set_cons_succ])
  refine wpAnyH_ready (rs := [3]) (by kernel_rfl) (by simp) ?_
  refine AllReadyH.cons (o := { dst := some 38, op := Op.call { callee := Callee.value (Operand.func 16), args := #[Operand.tmp 35, Operand.tmp 36, Operand.tmp 37], argTypes := #[25, 29, 30] }, type := 4, pos := "headslaw.go:122", after := #[{ on := 0, ground := Ground.data }, { on := 1, ground := Ground.data }, { on := 2, ground := Ground.data }], guard := none }) rfl (fun K hK => ?_) AllReadyH.nil
  go_simp
  (go_at_call 16; (with_reducible refine Calls.mono (c16 _ (by exact H4.drew)) ?_); rintro e y5 ⟨rfl, hb5⟩; have H5 := bel_after H4.drew H4.size hb5; have P5 := P4.drew.below hb5; have Q5 := Q4.drew.below hb5; have U5 := U4.drew.below hb5; have V5 := V4.drew.below hb5; have B5 := B4.drew.below hb5; clear hb5)
  go_wp2_with fail
  refine hK.out _ _ ?_ (fun hHeld => ?_)
  · (try dsimp only)
    exact ⟨has2b P5, has3 Q5, has2b U5, has3 V5⟩
  clear hK K
  (try simp only [Act.put, List.setIfInBounds_toArray, List.set_cons_zero, List.set_cons_succ])
  refine wpAnyH_ready (rs := [7]) (by kernel_rfl) (by simp) ?_
  refine AllReadyH.cons (o := { dst := some 42, op := Op.call { callee := Callee.value (Operand.func 17), args := #[Operand.tmp 39, Operand.tmp 40, Operand.tmp 41], argTypes := #[25, 29, 30] }, type := 4, pos := "headslaw.go:122", after := #[{ on := 4, ground := Ground.data }, { on := 5, ground := Ground.data }, { on := 6, ground := Ground.data }, { on := 3, ground := Ground.chain }], guard := none }) rfl (fun K hK => ?_) AllReadyH.nil
  go_simp
  (go_at_call 17; (with_reducible refine Calls.mono (c17 _ (by exact H5)) ?_); rintro e y6 ⟨rfl, hb6⟩; have H6 := bel_after H5 H5.size hb6; have P6 := P5.below hb6; have Q6 := Q5.below hb6; have U6 := U5.below hb6; have V6 := V5.below hb6; have B6 := B5.below hb6; clear hb6)
  go_wp2_with fail
  refine hK.out _ _ ?_ (fun hHeld => ?_)
  · (try dsimp only)
    exact ⟨has2b P6, has3 Q6, has2b U6, has3 V6⟩
  clear hK K
  (try simp only [Act.put, List.setIfInBounds_toArray, List.set_cons_zero, List.set_cons_succ])
  refine wpAnyH_take (i := 8) (oi := { dst := some 43, op := Op.binOp BinOp.neq 4 (Operand.tmp 38) (Operand.tmp 42) 4, type := 4, pos := "headslaw.go:122", after := #[{ on := 3, ground := Ground.data }, { on := 7, ground := Ground.data }], guard := none }) (v := ?_) rfl (by kernel_rfl) (by kernel_rfl) (by kernel_rfl) (fun _ _ _ h => h) (Or.inl ⟨by rfl, ?_⟩) (by assumption) ?_
  rotate_left
  · intro wz hSz; (try dsimp only at hSz); go_simp; all_goals (with_reducible rfl)
  (try simp only [Act.put, List.setIfInBounds_toArray, List.set_cons_zero, List.set_cons_succ])
  refine wpAnyH_take (i := 9) (oi := { dst := some 44, op := Op.move (Operand.tmp 43), type := 4, pos := "headslaw.go:122", after := #[{ on := 8, ground := Ground.data }, { on := 7, ground := Ground.chain }], guard := none }) (v := ?_) rfl (by kernel_rfl) (by kernel_rfl) (by kernel_rfl) (fun _ _ _ h => h) (Or.inl ⟨by rfl, ?_⟩) (by assumption) ?_
  rotate_left
  · intro wz hSz; (try dsimp only at hSz); go_simp; all_goals (with_reducible rfl)
  (try simp only [Act.put, List.setIfInBounds_toArray, List.set_cons_zero, List.set_cons_succ])
  refine wpAnyH_take (i := 10) (oi := { dst := some 45, op := Op.load 29 (Operand.tmp 9), type := 29, pos := "headslaw.go:122", after := #[{ on := 9, ground := Ground.guard }], guard := some (9, false) }) (v := ?_) rfl (by kernel_rfl) (by kernel_rfl) (by kernel_rfl) (fun _ _ _ h => h) (Or.inl ⟨by rfl, ?_⟩) (by assumption) ?_
  rotate_left
  · intro wz hSz; (try dsimp only at hSz); go_simp; all_goals (with_reducible rfl)
  (try simp only [Act.put, List.setIfInBounds_toArray, List.set_cons_zero, List.set_cons_succ])
  refine wpAnyH_take (i := 12) (oi := { dst := some 47, op := Op.load 29 (Operand.tmp 4), type := 29, pos := "headslaw.go:122", after := #[{ on := 9, ground := Ground.guard }], guard := some (9, false) }) (v := ?_) rfl (by kernel_rfl) (by kernel_rfl) (by kernel_rfl) (fun _ _ _ h => h) (Or.inl ⟨by rfl, ?_⟩) (by assumption) ?_
  rotate_left
  · intro wz hSz; (try dsimp only at hSz); go_simp; all_goals (with_reducible rfl)
  (try simp only [Act.put, List.setIfInBounds_toArray, List.set_cons_zero, List.set_cons_succ])
  refine wpAnyH_ready (rs := [11]) (by kernel_rfl) (by simp) ?_
  refine AllReadyH.cons (o := { dst := some 46, op := Op.call { callee := Callee.value (Operand.func 18), args := #[Operand.tmp 45], argTypes := #[29] }, type := 9, pos := "headslaw.go:122", after := #[{ on := 10, ground := Ground.data }, { on := 9, ground := Ground.chain }, { on := 9, ground := Ground.guard }], guard := some (9, false) }) rfl (fun K hK => ?_) AllReadyH.nil
  go_simp
  (go_at_call 18; (with_reducible refine Calls.mono (c18 _ (by exact H6)) ?_); rintro e y7 ⟨rfl, hb7⟩; have H7 := bel_after H6 H6.size hb7; have P7 := P6.below hb7; have Q7 := Q6.below hb7; have U7 := U6.below hb7; have V7 := V6.below hb7; have B7 := B6.below hb7; clear hb7)
  go_wp2_with fail
  refine hK.out _ _ ?_ (fun hHeld => ?_)
  · (try dsimp only)
    exact ⟨has2b P7, has3 Q7, has2b U7, has3 V7⟩
  clear hK K
  (try simp only [Act.put, List.setIfInBounds_toArray, List.set_cons_zero, List.set_cons_succ])
  refine wpAnyH_ready (rs := [13]) (by kernel_rfl) (by simp) ?_
  refine AllReadyH.cons (o := { dst := some 48, op := Op.call { callee := Callee.value (Operand.func 19), args := #[Operand.tmp 47], argTypes := #[29] }, type := 9, pos := "headslaw.go:122", after := #[{ on := 12, ground := Ground.data }, { on := 11, ground := Ground.chain }, { on := 9, ground := Ground.guard }], guard := some (9, false) }) rfl (fun K hK => ?_) AllReadyH.nil
  go_simp
  (go_at_call 19; (with_reducible refine Calls.mono (c19 _ (by exact H7)) ?_); rintro e y8 ⟨rfl, hb8⟩; have H8 := bel_after H7 H7.size hb8; have P8 := P7.below hb8; have Q8 := Q7.below hb8; have U8 := U7.below hb8; have V8 := V7.below hb8; have B8 := B7.below hb8; clear hb8)
  go_wp2_with fail
  refine hK.out _ _ ?_ (fun hHeld => ?_)
  · (try dsimp only)
    exact ⟨has2b P8, has3 Q8, has2b U8, has3 V8⟩
  clear hK K
  (try simp only [Act.put, List.setIfInBounds_toArray, List.set_cons_zero, List.set_cons_succ])
  refine wpAnyH_take (i := 14) (oi := { dst := some 49, op := Op.binOp BinOp.neq 9 (Operand.tmp 46) (Operand.tmp 48) 9, type := 4, pos := "headslaw.go:122", after := #[{ on := 11, ground := Ground.data }, { on := 13, ground := Ground.data }, { on := 9, ground := Ground.guard }], guard := some (9, false) }) (v := ?_) rfl (by kernel_rfl) (by kernel_rfl) (by kernel_rfl) (fun _ _ _ h => h) (Or.inl ⟨by rfl, ?_⟩) (by assumption) ?_
  rotate_left
  · intro wz hSz; (try dsimp only at hSz); go_simp; all_goals (with_reducible rfl)
  (try simp only [Act.put, List.setIfInBounds_toArray, List.set_cons_zero, List.set_cons_succ])
  refine wpAnyH_take (i := 15) (oi := { dst := some 50, op := Op.pick (Operand.tmp 44) (Operand.const (Value.bool true)) (Operand.tmp 49), type := 4, pos := "headslaw.go:122", after := #[{ on := 9, ground := Ground.data }, { on := 14, ground := Ground.data }], guard := none }) (v := ?_) rfl (by kernel_rfl) (by kernel_rfl) (by kernel_rfl) (fun _ _ _ h => h) (Or.inl ⟨by rfl, ?_⟩) (by assumption) ?_
  rotate_left
  · intro wz hSz; (try dsimp only at hSz); go_simp; all_goals (with_reducible rfl)
  (try simp only [Act.put, List.setIfInBounds_toArray, List.set_cons_zero, List.set_cons_succ])
  refine wpAnyH_done (by kernel_rfl) ?_ _
  refine NoPanic.normal ?_
  obtain ⟨_, u8, _⟩ := id U8
  obtain ⟨_, v8, _⟩ := id V8
  obtain ⟨_, m8, _⟩ := id B8
  go_wp2_with (go_at_call 20; (with_reducible refine Calls.mono (c20 _ (by exact H8)) ?_); rintro e y9 ⟨rfl, hb9⟩; have H9 := bel_after H8 H8.size hb9; clear hb9)
  go_ret
  exact ⟨rfl, HF _ H9⟩
end Go.Proofs.Ytbonmajnkbggcab
