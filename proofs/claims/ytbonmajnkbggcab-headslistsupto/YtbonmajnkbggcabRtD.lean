import Derived.Test.YtbonmajnkbggcabRtC
import Derived.Test.YtbonmajnkbggcabRtM
import Derived.Test.YtbonmajnkbggcabRtB
import Derived.Deep.RegionHeld3
namespace Go.Proofs.Ytbonmajnkbggcab
open Go.RowKit
set_option linter.unusedVariables false

theorem T3.drew {B : Nat} {w : World} {va vb vc : Value} {k1 k2 k3 : Nat} {x1 x2 x3 : List Value} (h : T3 B w va vb vc k1 k2 k3 x1 x2 x3) : T3 B w.drew va vb vc k1 k2 k3 x1 x2 x3 :=
  ⟨h.o1.drew, h.o2.drew, h.o3.drew, h.d12, h.d13, h.d23⟩
set_option maxRecDepth 100000 in
set_option maxHeartbeats 4000000 in
theorem refStep_ok (G : List Gp) (C : List Cf) (A I W : List Int) (vg vc v1 v2 v3 : Value) (M : Nat) (w : World) (h1 : Fl 5 Gp.cs w vg G) (h2 : Fl 4 Cf.cs w vc C) (h3 : Fl 1 n64 w v1 A) (h4 : Fl 1 n32 w v2 I) (h5 : Fl 1 n32 w v3 W) (lG : G.length ≤ 2932031007317) (lC : C.length ≤ 4398046511000) (lA : A.length ≤ 17592186044000) (lI : I.length ≤ 35184372088000) (lW : W.length ≤ 35184372088000) (okI : ∀ x ∈ I, inI32 x) (okW : ∀ x ∈ W, inI32 x) (hM : M < 18446744073709551616) (hg : gridB G C = true) (hf : fitsB G C A I W = true) :
    Calls Try.prog 31 #[.agg #[vg, vc], .agg #[v1, v2, v3], .int .u64 (M : Int)] w fun e w' => (∃ ua ub uc, e = .returned (.tuple #[.agg #[ua, ub, uc], .int .i64 0]) ∧ T3 w.heap.size w' ua ub uc G.length G.length G.length (valR G.length (nxF G C A I W M)) (v32 G.length (inF A I (nxF G C A I W M))) (v32 G.length (awF W (nxF G C A I W M)))) ∧ Below w.heap.size w w' := by
  have hok := spOk_of (M := M) hg hf hM lC okI okW
  have hWn' := fun (k : Nat) (hk : k < 64) (X : World) => (wanted_any M k X hM hk).mono (R' := fun e w' => e = .returned (.bool (M.testBit k)) ∧ Below X.heap.size X w') (fun e w' h => ⟨h.1, by rw [h.2]; exact Below.refl _ _⟩)
  have hFr' := fun (X : World) (hX : Below w.heap.size w X) (g : Nat) (f : Nat → Int) (ra : Option Addr) (rc : Nat) hrow => free_any G C A I W vg vc v1 v2 v3 X (h1.below hX) (h2.below hX) (h3.below hX) (h4.below hX) (h5.below hX) lG lC lA lI lW g f ra rc hok.la hok.lw okW (grid_len hg) hrow
  have hUp := fun (x : Int) (hx : inI32 x) (X : World) => refUp_any x X hx
  have hGd := fun (X : World) (hX : Below w.heap.size w X) => ref7Grid_any G C vg vc X (h1.below hX) (h2.below hX) lG lC
  rw [hg] at hGd
  have hSo := fun (X : World) (hX : Below w.heap.size w X) => refSound_any G C A I W vg vc v1 v2 v3 X (h1.below hX) (h2.below hX) (h3.below hX) (h4.below hX) (h5.below hX) lG lC lA lI lW okI
  unfold soundB at hSo
  rw [hg, hf, Bool.true_and] at hSo
  have h64 := grid_len hg
  obtain ⟨va, cg, rfl, kG⟩ := h1.any
  obtain ⟨vb, cc, rfl, kC⟩ := h2.any
  obtain ⟨vA, cA, rfl, kA⟩ := h3.nums
  obtain ⟨vI, cI, rfl, kI⟩ := h4.nums
  obtain ⟨vW, cW, rfl, kW⟩ := h5.nums
  have B0 : Has (((w.alloc (.cells #[.slice va G.length cg, .slice vb C.length cc] 25)).alloc (.cells #[.slice vA A.length cA, .slice vI I.length cI, .slice vW W.length cW] 29)).alloc (.cells #[.slice none 0 0, .slice none 0 0, .slice none 0 0] 29)) w.heap.size #[.slice va G.length cg, .slice vb C.length cc] := ((Has.new _ _ _ rfl).alloc _).alloc _
  have B1 : Has (((w.alloc (.cells #[.slice va G.length cg, .slice vb C.length cc] 25)).alloc (.cells #[.slice vA A.length cA, .slice vI I.length cI, .slice vW W.length cW] 29)).alloc (.cells #[.slice none 0 0, .slice none 0 0, .slice none 0 0] 29)) (w.heap.size + 1) #[.slice vA A.length cA, .slice vI I.length cI, .slice vW W.length cW] := (Has.new _ _ _ (by simp)).alloc _
  have R0 : Has (((w.alloc (.cells #[.slice va G.length cg, .slice vb C.length cc] 25)).alloc (.cells #[.slice vA A.length cA, .slice vI I.length cI, .slice vW W.length cW] 29)).alloc (.cells #[.slice none 0 0, .slice none 0 0, .slice none 0 0] 29)) (w.heap.size + 1 + 1) #[.slice none 0 0, .slice none 0 0, .slice none 0 0] := Has.new _ _ _ (by simp)
  have hb0 : Below w.heap.size w (((w.alloc (.cells #[.slice va G.length cg, .slice vb C.length cc] 25)).alloc (.cells #[.slice vA A.length cA, .slice vI I.length cI, .slice vW W.length cW] 29)).alloc (.cells #[.slice none 0 0, .slice none 0 0, .slice none 0 0] 29)) := bel3
  obtain ⟨i3, hi, hi0, hi1, hi2⟩ := info_parts info3m
  obtain ⟨i21, hj, hj0, hj1, hj2⟩ := info_parts info21m
  have la : Hid (A.length = G.length) := hok.la
  have li : Hid (I.length = G.length) := hok.li
  have lw : Hid (W.length = G.length) := hok.lw
  have i1 : (A.length : Int) = (G.length : Int) := by have := la.out; omega
  have i2 : (I.length : Int) = (G.length : Int) := by have := li.out; omega
  have i3' : (W.length : Int) = (G.length : Int) := by have := lw.out; omega
  clear h1 h2 h3 h4 h5
  go_enter Try.func31, Try.ntmps31
  go_wp2_with (first | (go_at_call 22; (with_reducible refine Calls.mono (hGd _ (by exact hb0)) ?_); rintro e w2 ⟨rfl, hb2⟩; have hbM := bel_after hb0 hb0.size hb2; have RM := R0.below hb2; have BM := B0.below hb2; have BN := B1.below hb2; obtain ⟨_, b1, _⟩ := id BM; obtain ⟨_, b2, _⟩ := id BN; obtain ⟨_, r1, r2⟩ := id RM; clear hb2) | (go_at_call 13; (with_reducible refine Calls.mono (hSo _ (by exact hbM)) ?_); rintro e w3 ⟨rfl, hb3⟩; have hbK := bel_after hbM hbM.size hb3; have RK := RM.below hb3; have BK := BM.below hb3; have BL := BN.below hb3; clear b1 b2 r1 r2; obtain ⟨_, c1, _⟩ := id BK; obtain ⟨_, c2, _⟩ := id BL; obtain ⟨_, s1, s2⟩ := id RK; clear hb3))
  have zw3 : w.heap.size + 3 ≤ w3.heap.size := RK.1
  clear B0 B1 R0 hb0 hbM RM BM BN c1 c2 s1 s2 hGd hSo
  go_loopw [8, 9] (fun u t wr => ∃ (k : Nat) (ua : Option Addr) (uc : Nat), k ≤ G.length ∧ t = .int .i64 (k : Int) ∧ u = .slice ua k uc ∧ Hid (wr.ownsRow (w.heap.size + 3) 3 1 (.slice ua k uc) k (valR k (alF G A I M))) ∧ Hid (Has wr w.heap.size #[.slice va G.length cg, .slice vb C.length cc]) ∧ Hid (Has wr (w.heap.size + 1) #[.slice vA A.length cA, .slice vI I.length cI, .slice vW W.length cW]) ∧ Hid (Has wr (w.heap.size + 1 + 1) #[.slice none 0 0, .slice none 0 0, .slice none 0 0]) ∧ Hid (Below w.heap.size w wr)) (fun _ t _ => G.length - (intOf t).toNat)
  case atStart => exact ⟨0, _, _, by omega, rfl, rfl, ⟨rfl, .inl ⟨rfl, rfl⟩⟩, BK, BL, RK, hbK⟩
  case round =>
    clear BK BL RK hbK
    obtain ⟨k, ua, uc, hkl, rfl, rfl, own', Bx', By', Rz', hb'⟩ := hrel
    have own := own'.out
    have Bx := Bx'.out
    have By := By'.out
    have Rz := Rz'.out
    have hb := hb'.out
    clear own' Bx' By' Rz' hb'
    have zb := Rz.1
    by_cases hlt : k < G.length
    · obtain ⟨g, o, rfl, hg1, P⟩ := kG.resolve_left (by intro e; rw [e] at hlt; simp at hlt)
      have lA' : k < A.length := by have := la.out; omega
      have lI' : k < I.length := by have := li.out; omega
      obtain ⟨gA, oA, rfl, hgA, PA⟩ := kA.resolve_left (by intro e; rw [e] at lA'; simp at lA')
      obtain ⟨gI, oI, rfl, hgI, PI⟩ := kI.resolve_left (by intro e; rw [e] at lI'; simp at lI')
      have hP : ∀ (X : World), Below w.heap.size w X → X.cell? ⟨gA, oA + k, none⟩ = some (.int .i64 A[k]) ∧ X.cell? ⟨gI, oI + k, none⟩ = some (.int .i32 I[k]) := fun X hX => ⟨(hX.cell (p := ⟨gA, _, none⟩) hgA).trans (PA k lA' _ rfl), (hX.cell (p := ⟨gI, _, none⟩) hgI).trans (PI k lI' _ rfl)⟩
      have hQ : ∀ (X : World), Below w.heap.size w X → X.cell? ⟨g, o + k * 5, none⟩ = some (.string G[k].name) ∧ X.cell? ⟨g, o + k * 5 + 1, none⟩ = some (.int .i64 G[k].sort) ∧ X.cell? ⟨g, o + k * 5 + 2, none⟩ = some (.int .i64 G[k].min) ∧ X.cell? ⟨g, o + k * 5 + 3, none⟩ = some (.int .i64 G[k].amber) ∧ X.cell? ⟨g, o + k * 5 + 4, none⟩ = some (.int .i64 G[k].lead) := fun X hX => ⟨(hX.cell (p := ⟨g, _, none⟩) hg1).trans (P k hlt 0 _ rfl), (hX.cell (p := ⟨g, _, none⟩) hg1).trans (P k hlt 1 _ rfl), (hX.cell (p := ⟨g, _, none⟩) hg1).trans (P k hlt 2 _ rfl), (hX.cell (p := ⟨g, _, none⟩) hg1).trans (P k hlt 3 _ rfl), (hX.cell (p := ⟨g, _, none⟩) hg1).trans (P k hlt 4 _ rfl)⟩
      have hWn := hWn' k (by omega)
      have hAl := fun (X : World) => alone_any G[k].name G[k].sort G[k].min G[k].amber G[k].lead A[k] I[k] (M.testBit k) X (okI _ (List.getElem_mem lI'))
      have hav : Hid (aloneF ⟨G[k].name, G[k].sort, G[k].min, G[k].amber, G[k].lead⟩ A[k] I[k] (M.testBit k) = alF G A I M k) := by show _ = _; rw [alF_at hlt lA', show I.getD k 0 = I[k] by simp [List.getD_eq_getElem?_getD, lI']]
      have t0 : (0 : Int) ≤ (k : Int) := by omega
      have t1 : (k : Int) < (G.length : Int) := by omega
      have t2 : k + 1 ≤ G.length := hlt
      have tA : (k : Int) < (A.length : Int) := by omega
      have tI : (k : Int) < (I.length : Int) := by omega
      generalize aloneF ⟨G[k].name, G[k].sort, G[k].min, G[k].amber, G[k].lead⟩ A[k] I[k] (M.testBit k) = av at *
      generalize A[k] = ya at *
      generalize I[k] = yi at *
      generalize M.testBit k = mb at *
      generalize G[k].name = x0 at *
      generalize G[k].sort = x1 at *
      generalize G[k].min = x2 at *
      generalize G[k].amber = x3 at *
      generalize G[k].lead = x4 at *
      clear P PA PI kG kA kI kW hWn' hFr' hUp
      obtain ⟨_, bx, _⟩ := id Bx
      go_upto_region 9 with fail
      clear bx
      refine wp_region_noPanic ?_
      refine wp_region_held_drew (S := fun w' => (w'.cell? ⟨w.heap.size, 0, none⟩ = some (.slice (some ⟨g, o, none⟩) G.length cg) ∧ w'.cell? ⟨w.heap.size, 1, none⟩ = some (.slice vb C.length cc)) ∧ (w'.cell? ⟨w.heap.size + 1, 0, none⟩ = some (.slice (some ⟨gA, oA, none⟩) A.length cA) ∧ w'.cell? ⟨w.heap.size + 1, 1, none⟩ = some (.slice (some ⟨gI, oI, none⟩) I.length cI) ∧ w'.cell? ⟨w.heap.size + 1, 2, none⟩ = some (.slice vW W.length cW)) ∧ (w'.cell? ⟨gA, oA + k, none⟩ = some (.int .i64 ya) ∧ w'.cell? ⟨gI, oI + k, none⟩ = some (.int .i32 yi)) ∧ (w'.cell? ⟨g, o + k * 5, none⟩ = some (.string x0) ∧ w'.cell? ⟨g, o + k * 5 + 1, none⟩ = some (.int .i64 x1) ∧ w'.cell? ⟨g, o + k * 5 + 2, none⟩ = some (.int .i64 x2) ∧ w'.cell? ⟨g, o + k * 5 + 3, none⟩ = some (.int .i64 x3) ∧ w'.cell? ⟨g, o + k * 5 + 4, none⟩ = some (.int .i64 x4))) (by kernel_rfl) ?_ (fun hHeld => ?_)
      · (try dsimp only)
        exact ⟨has2b Bx.drew, has3 By.drew, hP _ hb.drew, hQ _ hb.drew⟩
      refine wpAnyH_take (i := 0) (oi := { dst := some 31, op := Op.move (Operand.tmp 8), type := 26, pos := "heads.go:158", after := #[], guard := none }) (v := ?_) rfl (by kernel_rfl) (by kernel_rfl) (by kernel_rfl) (fun _ _ _ h => h) (Or.inl ⟨by rfl, ?_⟩) (by assumption) ?_
      rotate_left
      · intro wz hSz; (try dsimp only at hSz); go_simp; all_goals (with_reducible rfl)
      (try simp only [Act.put, List.setIfInBounds_toArray, List.set_cons_zero, List.set_cons_succ])
      refine wpAnyH_take (i := 1) (oi := { dst := some 32, op := Op.fieldAddr 25 (Operand.tmp 3) 0, type := 0, pos := "heads.go:158", after := #[], guard := none }) (v := ?_) rfl (by kernel_rfl) (by kernel_rfl) (by kernel_rfl) (fun _ _ _ h => h) (Or.inl ⟨by rfl, ?_⟩) (by assumption) ?_
      rotate_left
      · intro wz hSz; (try dsimp only at hSz); go_simp; all_goals (with_reducible rfl)
      (try simp only [Act.put, List.setIfInBounds_toArray, List.set_cons_zero, List.set_cons_succ])
      refine wpAnyH_take (i := 2) (oi := { dst := some 33, op := Op.load 22 (Operand.tmp 32), type := 22, pos := "heads.go:158", after := #[{ on := 1, ground := Ground.data }], guard := none }) (v := ?_) rfl (by kernel_rfl) (by kernel_rfl) (by kernel_rfl) (fun _ _ _ h => h) (Or.inl ⟨by rfl, ?_⟩) (by assumption) ?_
      rotate_left
      · intro wz hSz; (try dsimp only at hSz); go_simp; all_goals (with_reducible rfl)
      (try simp only [Act.put, List.setIfInBounds_toArray, List.set_cons_zero, List.set_cons_succ])
      refine wpAnyH_take (i := 3) (oi := { dst := some 34, op := Op.move (Operand.tmp 9), type := 3, pos := "heads.go:158", after := #[], guard := none }) (v := ?_) rfl (by kernel_rfl) (by kernel_rfl) (by kernel_rfl) (fun _ _ _ h => h) (Or.inl ⟨by rfl, ?_⟩) (by assumption) ?_
      rotate_left
      · intro wz hSz; (try dsimp only at hSz); go_simp; all_goals (with_reducible rfl)
      (try simp only [Act.put, List.setIfInBounds_toArray, List.set_cons_zero, List.set_cons_succ])
      refine wpAnyH_take (i := 4) (oi := { dst := some 35, op := Op.indexAddr 22 (Operand.tmp 33) (Operand.tmp 34), type := 0, pos := "heads.go:158", after := #[{ on := 2, ground := Ground.data }, { on := 3, ground := Ground.data }], guard := none }) (v := ?_) rfl (by kernel_rfl) (by kernel_rfl) (by kernel_rfl) (fun _ _ _ h => h) (Or.inl ⟨by rfl, ?_⟩) (by assumption) ?_
      rotate_left
      · intro wz hSz; (try dsimp only at hSz); go_simp; all_goals (with_reducible rfl)
      (try simp only [Act.put, List.setIfInBounds_toArray, List.set_cons_zero, List.set_cons_succ])
      refine wpAnyH_take (i := 5) (oi := { dst := some 36, op := Op.load 58 (Operand.tmp 35), type := 58, pos := "heads.go:158", after := #[{ on := 4, ground := Ground.data }], guard := none }) (v := ?_) rfl (by kernel_rfl) (by kernel_rfl) (by kernel_rfl) (fun _ _ _ h => h) (Or.inl ⟨by rfl, ?_⟩) (by assumption) ?_
      rotate_left
      · intro wz hSz; (try dsimp only at hSz); go_simp; all_goals (with_reducible rfl)
      (try simp only [Act.put, List.setIfInBounds_toArray, List.set_cons_zero, List.set_cons_succ])
      refine wpAnyH_take (i := 6) (oi := { dst := some 37, op := Op.fieldAddr 29 (Operand.tmp 4) 0, type := 0, pos := "heads.go:158", after := #[], guard := none }) (v := ?_) rfl (by kernel_rfl) (by kernel_rfl) (by kernel_rfl) (fun _ _ _ h => h) (Or.inl ⟨by rfl, ?_⟩) (by assumption) ?_
      rotate_left
      · intro wz hSz; (try dsimp only at hSz); go_simp; all_goals (with_reducible rfl)
      (try simp only [Act.put, List.setIfInBounds_toArray, List.set_cons_zero, List.set_cons_succ])
      refine wpAnyH_take (i := 7) (oi := { dst := some 38, op := Op.load 26 (Operand.tmp 37), type := 26, pos := "heads.go:158", after := #[{ on := 6, ground := Ground.data }], guard := none }) (v := ?_) rfl (by kernel_rfl) (by kernel_rfl) (by kernel_rfl) (fun _ _ _ h => h) (Or.inl ⟨by rfl, ?_⟩) (by assumption) ?_
      rotate_left
      · intro wz hSz; (try dsimp only at hSz); go_simp; all_goals (with_reducible rfl)
      (try simp only [Act.put, List.setIfInBounds_toArray, List.set_cons_zero, List.set_cons_succ])
      refine wpAnyH_take (i := 8) (oi := { dst := some 39, op := Op.move (Operand.tmp 9), type := 3, pos := "heads.go:158", after := #[], guard := none }) (v := ?_) rfl (by kernel_rfl) (by kernel_rfl) (by kernel_rfl) (fun _ _ _ h => h) (Or.inl ⟨by rfl, ?_⟩) (by assumption) ?_
      rotate_left
      · intro wz hSz; (try dsimp only at hSz); go_simp; all_goals (with_reducible rfl)
      (try simp only [Act.put, List.setIfInBounds_toArray, List.set_cons_zero, List.set_cons_succ])
      refine wpAnyH_take (i := 9) (oi := { dst := some 40, op := Op.indexAddr 26 (Operand.tmp 38) (Operand.tmp 39), type := 0, pos := "heads.go:158", after := #[{ on := 7, ground := Ground.data }, { on := 8, ground := Ground.data }], guard := none }) (v := ?_) rfl (by kernel_rfl) (by kernel_rfl) (by kernel_rfl) (fun _ _ _ h => h) (Or.inl ⟨by rfl, ?_⟩) (by assumption) ?_
      rotate_left
      · intro wz hSz; (try dsimp only at hSz); go_simp; all_goals (with_reducible rfl)
      (try simp only [Act.put, List.setIfInBounds_toArray, List.set_cons_zero, List.set_cons_succ])
      refine wpAnyH_take (i := 10) (oi := { dst := some 41, op := Op.load 3 (Operand.tmp 40), type := 3, pos := "heads.go:158", after := #[{ on := 9, ground := Ground.data }], guard := none }) (v := ?_) rfl (by kernel_rfl) (by kernel_rfl) (by kernel_rfl) (fun _ _ _ h => h) (Or.inl ⟨by rfl, ?_⟩) (by assumption) ?_
      rotate_left
      · intro wz hSz; (try dsimp only at hSz); go_simp; all_goals (with_reducible rfl)
      (try simp only [Act.put, List.setIfInBounds_toArray, List.set_cons_zero, List.set_cons_succ])
      refine wpAnyH_take (i := 11) (oi := { dst := some 42, op := Op.fieldAddr 29 (Operand.tmp 4) 1, type := 0, pos := "heads.go:158", after := #[], guard := none }) (v := ?_) rfl (by kernel_rfl) (by kernel_rfl) (by kernel_rfl) (fun _ _ _ h => h) (Or.inl ⟨by rfl, ?_⟩) (by assumption) ?_
      rotate_left
      · intro wz hSz; (try dsimp only at hSz); go_simp; all_goals (with_reducible rfl)
      (try simp only [Act.put, List.setIfInBounds_toArray, List.set_cons_zero, List.set_cons_succ])
      refine wpAnyH_take (i := 12) (oi := { dst := some 43, op := Op.load 27 (Operand.tmp 42), type := 27, pos := "heads.go:158", after := #[{ on := 11, ground := Ground.data }], guard := none }) (v := ?_) rfl (by kernel_rfl) (by kernel_rfl) (by kernel_rfl) (fun _ _ _ h => h) (Or.inl ⟨by rfl, ?_⟩) (by assumption) ?_
      rotate_left
      · intro wz hSz; (try dsimp only at hSz); go_simp; all_goals (with_reducible rfl)
      (try simp only [Act.put, List.setIfInBounds_toArray, List.set_cons_zero, List.set_cons_succ])
      refine wpAnyH_take (i := 13) (oi := { dst := some 44, op := Op.move (Operand.tmp 9), type := 3, pos := "heads.go:158", after := #[], guard := none }) (v := ?_) rfl (by kernel_rfl) (by kernel_rfl) (by kernel_rfl) (fun _ _ _ h => h) (Or.inl ⟨by rfl, ?_⟩) (by assumption) ?_
      rotate_left
      · intro wz hSz; (try dsimp only at hSz); go_simp; all_goals (with_reducible rfl)
      (try simp only [Act.put, List.setIfInBounds_toArray, List.set_cons_zero, List.set_cons_succ])
      refine wpAnyH_take (i := 14) (oi := { dst := some 45, op := Op.indexAddr 27 (Operand.tmp 43) (Operand.tmp 44), type := 0, pos := "heads.go:158", after := #[{ on := 12, ground := Ground.data }, { on := 13, ground := Ground.data }], guard := none }) (v := ?_) rfl (by kernel_rfl) (by kernel_rfl) (by kernel_rfl) (fun _ _ _ h => h) (Or.inl ⟨by rfl, ?_⟩) (by assumption) ?_
      rotate_left
      · intro wz hSz; (try dsimp only at hSz); go_simp; all_goals (with_reducible rfl)
      (try simp only [Act.put, List.setIfInBounds_toArray, List.set_cons_zero, List.set_cons_succ])
      refine wpAnyH_take (i := 15) (oi := { dst := some 46, op := Op.load 21 (Operand.tmp 45), type := 21, pos := "heads.go:158", after := #[{ on := 14, ground := Ground.data }], guard := none }) (v := ?_) rfl (by kernel_rfl) (by kernel_rfl) (by kernel_rfl) (fun _ _ _ h => h) (Or.inl ⟨by rfl, ?_⟩) (by assumption) ?_
      rotate_left
      · intro wz hSz; (try dsimp only at hSz); go_simp; all_goals (with_reducible rfl)
      (try simp only [Act.put, List.setIfInBounds_toArray, List.set_cons_zero, List.set_cons_succ])
      refine wpAnyH_take (i := 16) (oi := { dst := some 47, op := Op.move (Operand.tmp 2), type := 30, pos := "heads.go:158", after := #[], guard := none }) (v := ?_) rfl (by kernel_rfl) (by kernel_rfl) (by kernel_rfl) (fun _ _ _ h => h) (Or.inl ⟨by rfl, ?_⟩) (by assumption) ?_
      rotate_left
      · intro wz hSz; (try dsimp only at hSz); go_simp; all_goals (with_reducible rfl)
      (try simp only [Act.put, List.setIfInBounds_toArray, List.set_cons_zero, List.set_cons_succ])
      refine wpAnyH_take (i := 17) (oi := { dst := some 48, op := Op.move (Operand.tmp 9), type := 3, pos := "heads.go:158", after := #[], guard := none }) (v := ?_) rfl (by kernel_rfl) (by kernel_rfl) (by kernel_rfl) (fun _ _ _ h => h) (Or.inl ⟨by rfl, ?_⟩) (by assumption) ?_
      rotate_left
      · intro wz hSz; (try dsimp only at hSz); go_simp; all_goals (with_reducible rfl)
      (try simp only [Act.put, List.setIfInBounds_toArray, List.set_cons_zero, List.set_cons_succ])
      refine wpAnyH_ready (rs := [18]) (by kernel_rfl) (by simp) ?_
      refine AllReadyH.cons (o := { dst := some 49, op := Op.call { callee := Callee.value (Operand.func 41), args := #[Operand.tmp 47, Operand.tmp 48], argTypes := #[30, 3] }, type := 4, pos := "heads.go:158", after := #[{ on := 16, ground := Ground.data }, { on := 17, ground := Ground.data }], guard := none }) rfl (fun K hK => ?_) AllReadyH.nil
      go_simp
      (go_at_call 41; (with_reducible refine Calls.mono (hWn _) ?_); rintro e z1 ⟨rfl, hz1⟩; have C0 := Bx.drew.below hz1; have C1 := By.drew.below hz1; have C2 := Rz.drew.below hz1; have Cb := bel_after hb.drew hb.size hz1; have Co := own_bel own.drew hz1; clear hz1)
      go_wp2_with fail
      refine hK.out _ _ ?_ (fun hHeld => ?_)
      · (try dsimp only)
        exact ⟨has2b C0, has3 C1, hP _ Cb, hQ _ Cb⟩
      clear hK K
      (try simp only [Act.put, List.setIfInBounds_toArray, List.set_cons_zero, List.set_cons_succ])
      refine wpAnyH_ready (rs := [19]) (by kernel_rfl) (by simp) ?_
      refine AllReadyH.cons (o := { dst := some 50, op := Op.call { callee := Callee.value (Operand.func 49), args := #[Operand.tmp 36, Operand.tmp 41, Operand.tmp 46, Operand.tmp 49], argTypes := #[58, 3, 21, 4] }, type := 3, pos := "heads.go:158", after := #[{ on := 5, ground := Ground.data }, { on := 10, ground := Ground.data }, { on := 15, ground := Ground.data }, { on := 18, ground := Ground.data }, { on := 18, ground := Ground.chain }], guard := none }) rfl (fun K hK => ?_) AllReadyH.nil
      go_simp
      (go_at_call 49; (with_reducible refine Calls.mono (hAl _) ?_); rintro e z2 ⟨rfl, hz2⟩; have D0 := C0.below hz2; have D1 := C1.below hz2; have D2 := C2.below hz2; have Db := bel_after Cb Cb.size hz2; have Do := own_bel Co hz2; clear hz2)
      go_wp2_with fail
      refine hK.out _ _ ?_ (fun hHeld => ?_)
      · (try dsimp only)
        exact ⟨has2b D0, has3 D1, hP _ Db, hQ _ Db⟩
      clear hK K
      (try simp only [Act.put, List.setIfInBounds_toArray, List.set_cons_zero, List.set_cons_succ])
      refine wpAnyH_ready (rs := [20]) (by kernel_rfl) (by simp) ?_
      refine AllReadyH.cons (o := { dst := some 51, op := Op.buildSlice 26 1 #[(0, Operand.tmp 50)], type := 26, pos := "heads.go:158", after := #[{ on := 19, ground := Ground.data }], guard := none }) rfl (fun K hK => ?_) AllReadyH.nil
      go_simp
      refine hK.out _ _ ?_ (fun hHeld => ?_)
      · (try dsimp only)
        exact ⟨has2b (D0.alloc _), has3 (D1.alloc _), hP _ (Db.alloc Db.size _), hQ _ (Db.alloc Db.size _)⟩
      clear hK K
      (try simp only [Act.put, List.setIfInBounds_toArray, List.set_cons_zero, List.set_cons_succ])
      refine wpAnyH_ready (rs := [21]) (by kernel_rfl) (by simp) ?_
      refine AllReadyH.cons (o := { dst := some 52, op := Op.call { callee := Callee.builtin Builtin.append, args := #[Operand.tmp 31, Operand.tmp 51], argTypes := #[26, 26] }, type := 26, pos := "heads.go:158", after := #[{ on := 0, ground := Ground.data }, { on := 20, ground := Ground.data }, { on := 19, ground := Ground.chain }], guard := none }) rfl (fun K hK => ?_) AllReadyH.nil
      have zz2 := D2.1
      refine step_append_lies _ rfl _ _ 26 rfl (w.heap.size + 3) 3 i3 _ 1 8 Try.underlying26 hi hi0 hi1 hi2 rfl (by decide) (.slice ua k uc) k (valR k (alF G A I M)) rfl (Do.alloc _) ⟨z2.heap.size, 0, none⟩ 1 1 [.int .i64 av] rfl rfl (newsOf (X := z2.alloc (.cells #[.int .i64 av] 3)) (xs := [.int .i64 av]) (Has.new _ _ _ rfl)) (all_one rfl) (by decide) (by unfold maxLen; omega) (by omega) (by simp; omega) _ rfl ?_
      intro g1 d1 z3 o3 hg3 hat3 _
      have O3 := only_of_grown hg3
      have nb : ∀ q, q < w.heap.size + 3 → ¬ (Value.slice ua k uc).ownBlock = some q := fun q hq h => by have := (own_lt own q h).1; omega
      have F0 := D0.only O3 (nb _ (by omega))
      have F1 := D1.only O3 (nb _ (by omega))
      have F2 := D2.only O3 (nb _ (by omega))
      have Fb := bel_only Db O3 (Nat.le_refl _) (fun q hq h => nb q (by omega) h)
      refine hK.out _ _ ?_ (fun hHeld => ?_)
      · (try dsimp only)
        exact ⟨has2b F0, has3 F1, hP _ Fb, hQ _ Fb⟩
      clear hK K
      (try simp only [Act.put, List.setIfInBounds_toArray, List.set_cons_zero, List.set_cons_succ])
      rw [hav.out, valR_snoc] at o3
      refine wpAnyH_take (i := 22) (oi := { dst := some 8, op := Op.assign (Operand.tmp 52), type := 26, pos := "heads.go:158", after := #[{ on := 21, ground := Ground.data }, { on := 21, ground := Ground.chain }, { on := 0, ground := Ground.phase }, { on := 1, ground := Ground.phase }, { on := 2, ground := Ground.phase }, { on := 3, ground := Ground.phase }, { on := 4, ground := Ground.phase }, { on := 5, ground := Ground.phase }, { on := 6, ground := Ground.phase }, { on := 7, ground := Ground.phase }, { on := 8, ground := Ground.phase }, { on := 9, ground := Ground.phase }, { on := 10, ground := Ground.phase }, { on := 11, ground := Ground.phase }, { on := 12, ground := Ground.phase }, { on := 13, ground := Ground.phase }, { on := 14, ground := Ground.phase }, { on := 15, ground := Ground.phase }, { on := 16, ground := Ground.phase }, { on := 17, ground := Ground.phase }, { on := 18, ground := Ground.phase }, { on := 19, ground := Ground.phase }, { on := 20, ground := Ground.phase }, { on := 21, ground := Ground.phase }], guard := none }) (v := ?_) rfl (by kernel_rfl) (by kernel_rfl) (by kernel_rfl) (fun _ _ _ h => h) (Or.inl ⟨by rfl, ?_⟩) (by assumption) ?_
      rotate_left
      · intro wz hSz; (try dsimp only at hSz); go_simp; all_goals (with_reducible rfl)
      (try simp only [Act.put, List.setIfInBounds_toArray, List.set_cons_zero, List.set_cons_succ])
      refine wpAnyH_done (by kernel_rfl) ?_ _
      refine NoPanic.normal ?_
      go_wp2_with fail
      go_roundw
      case rel => exact ⟨k + 1, _, _, by omega, by go_num, rfl, o3, F0, F1, F2, Fb⟩
      case measure => simp [intOf]; omega
    · have t1 : ¬ (k : Int) < (G.length : Int) := by omega
      have ek : k = G.length := by omega
      subst ek
      obtain ⟨_, bx, _⟩ := id Bx
      go_wp2_with fail
      clear bx
      go_loopw [10] (fun t wr => ∃ k : Nat, k ≤ G.length ∧ t = .int .i64 (k : Int) ∧ Hid (wr.ownsRow (w.heap.size + 3) 3 1 (.slice ua G.length uc) G.length (valR G.length (begF G C A W M (alF G A I M) k))) ∧ Hid (Has wr w.heap.size #[.slice va G.length cg, .slice vb C.length cc]) ∧ Hid (Has wr (w.heap.size + 1) #[.slice vA A.length cA, .slice vI I.length cI, .slice vW W.length cW]) ∧ Hid (Has wr (w.heap.size + 1 + 1) #[.slice none 0 0, .slice none 0 0, .slice none 0 0]) ∧ Hid (Below w.heap.size w wr)) (fun t _ => G.length - (intOf t).toNat)
      case atStart => exact ⟨0, by omega, rfl, own, Bx, By, Rz, hb⟩
      case round =>
        clear own Bx By Rz hb t1 zb
        obtain ⟨k, hkl, rfl, own', Bx', By', Rz', hb'⟩ := hrel
        have own := own'.out
        have Bx := Bx'.out
        have By := By'.out
        have Rz := Rz'.out
        have hb := hb'.out
        clear own' Bx' By' Rz' hb'
        have zb := Rz.1
        by_cases hlt : k < G.length
        case pos =>
          obtain ⟨r, cap, ev, _, hrB, hrs⟩ := own_block own (by omega)
          obtain ⟨rfl, rfl⟩ : ua = some ⟨r, 0, none⟩ ∧ uc = cap := by injection ev with q1 _ q2; exact ⟨q1, q2⟩
          clear ev
          obtain ⟨g, o, rfl, hg1, P⟩ := kG.resolve_left (by intro e; rw [e] at hlt; simp at hlt)
          have lA' : k < A.length := by have := la.out; omega
          obtain ⟨gA, oA, rfl, hgA, PA⟩ := kA.resolve_left (by intro e; rw [e] at lA'; simp at lA')
          have hP : ∀ (X : World), Below w.heap.size w X → X.cell? ⟨gA, oA + k, none⟩ = some (.int .i64 A[k]) := fun X hX => (hX.cell (p := ⟨gA, _, none⟩) hgA).trans (PA k lA' _ rfl)
          have hQ : ∀ (X : World), Below w.heap.size w X → X.cell? ⟨g, o + k * 5 + 4, none⟩ = some (.int .i64 G[k].lead) := fun X hX => (hX.cell (p := ⟨g, _, none⟩) hg1).trans (P k hlt 4 _ rfl)
          have hWn := hWn' k (by omega)
          have hFr := fun (X : World) (hX : Below w.heap.size w X) (ho : X.ownsRow (w.heap.size + 3) 3 1 (.slice (some ⟨r, 0, none⟩) G.length uc) G.length (valR G.length (begF G C A W M (alF G A I M) k))) => hFr' X hX k (begF G C A W M (alF G A I M) k) (some ⟨r, 0, none⟩) uc (.inr ⟨r, rfl, (own_lt ho r rfl).2, fun j hj => own_cell ho hj⟩)
          have hst := start_eq (A := A) (W := W) (M := M) (f := begF G C A W M (alF G A I M) k) hg hlt
          rw [show A.getD k 0 = A[k] by simp [List.getD_eq_getElem?_getD, lA']] at hst
          have hfst : firstF (G.getD k gp0) = if 0 < G[k].lead then 1 else 2 := by rw [show G.getD k gp0 = G[k] by simp [List.getD_eq_getElem?_getD, hlt]]; rfl
          have t0 : (0 : Int) ≤ (k : Int) := by omega
          have t1 : (k : Int) < (G.length : Int) := by omega
          have t2 : k + 1 ≤ G.length := hlt
          have tA : (k : Int) < (A.length : Int) := by omega
          have pa := hP _ hb
          clear P PA hWn' hFr' hUp kG kA kI kW
          generalize A[k] = ya at *
          generalize G[k].lead = x4 at *
          generalize freeB C W (begF G C A W M (alF G A I M) k) G.length k = fr at *
          generalize M.testBit k = mb at *
          obtain ⟨_, by1, _⟩ := id By
          obtain ⟨_, bx1, _⟩ := id Bx
          by_cases d1 : ya = 0
          case neg =>
            have D1 : (ya == 0) = false := by simpa using d1
            have nx : begF G C A W M (alF G A I M) (k + 1) = begF G C A W M (alF G A I M) k := by
              show (if startB C A W M G.length (begF G C A W M (alF G A I M) k) k = true then _ else _) = _
              rw [if_neg (by rw [hst]; simp [d1])]
            clear hst hfst
            go_wp2_with fail
            rw [← nx] at own
            go_roundw
            case rel => exact ⟨k + 1, by omega, by go_num, own, Bx, By, Rz, hb⟩
            case measure => simp [intOf]; omega
          case pos =>
            subst d1
            cases mb with
            | false =>
              have nx : begF G C A W M (alF G A I M) (k + 1) = begF G C A W M (alF G A I M) k := by
                show (if startB C A W M G.length (begF G C A W M (alF G A I M) k) k = true then _ else _) = _
                rw [if_neg (by rw [hst]; simp)]
              clear hst hfst
              go_wp2_with (go_at_call 41; (with_reducible refine Calls.mono (hWn _) ?_); rintro e z1 ⟨rfl, hz1⟩; have C0 := Bx.below hz1; have C1 := By.below hz1; have C2 := Rz.below hz1; have Cb := bel_after hb hb.size hz1; have Co := own_bel own hz1; obtain ⟨_, cx, _⟩ := id C0; obtain ⟨_, cy, _⟩ := id C1; clear hz1)
              rw [← nx] at Co
              go_roundw
              case rel => exact ⟨k + 1, by omega, by go_num, Co, C0, C1, C2, Cb⟩
              case measure => simp [intOf]; omega
            | true =>
              cases fr with
              | false =>
                have nx : begF G C A W M (alF G A I M) (k + 1) = begF G C A W M (alF G A I M) k := by
                  show (if startB C A W M G.length (begF G C A W M (alF G A I M) k) k = true then _ else _) = _
                  rw [if_neg (by rw [hst]; simp)]
                clear hst hfst
                go_wp2_with (first | (go_at_call 41; (with_reducible refine Calls.mono (hWn _) ?_); rintro e z1 ⟨rfl, hz1⟩; have C0 := Bx.below hz1; have C1 := By.below hz1; have C2 := Rz.below hz1; have Cb := bel_after hb hb.size hz1; have Co := own_bel own hz1; obtain ⟨_, cx, _⟩ := id C0; obtain ⟨_, cy, _⟩ := id C1; clear hz1) | (go_at_call 50; (with_reducible refine Calls.mono (hFr _ (by exact Cb) Co) ?_); rintro e z2 ⟨rfl, hz2⟩; have D0 := C0.below hz2; have D1 := C1.below hz2; have D2 := C2.below hz2; have Db := bel_after Cb Cb.size hz2; have Do := own_bel Co hz2; clear hz2))
                rw [← nx] at Do
                go_roundw
                case rel => exact ⟨k + 1, by omega, by go_num, Do, D0, D1, D2, Db⟩
                case measure => simp [intOf]; omega
              | true =>
                have nx : begF G C A W M (alF G A I M) (k + 1) = updF (begF G C A W M (alF G A I M) k) k (firstF (G.getD k gp0)) := by
                  show (if startB C A W M G.length (begF G C A W M (alF G A I M) k) k = true then _ else _) = _
                  rw [if_pos (by rw [hst]; simp)]
                rw [hfst] at nx
                have set1 : ∀ (X : World) (f : Nat → Int) (v : Int), X.ownsRow (w.heap.size + 3) 3 1 (.slice (some ⟨r, 0, none⟩) G.length uc) G.length (valR G.length f) → (X.setCell ⟨r, k, none⟩ (.int .i64 v)).ownsRow (w.heap.size + 3) 3 1 (.slice (some ⟨r, 0, none⟩) G.length uc) G.length (valR G.length (fun j => if j = k then v else f j)) := fun X f v hX => by rw [← valR_set hlt]; exact own_stored [.int .i64 v] X _ k hX
                clear hst hfst
                go_upto_region 14 with (first | (go_at_call 41; (with_reducible refine Calls.mono (hWn _) ?_); rintro e z1 ⟨rfl, hz1⟩; have C0 := Bx.below hz1; have C1 := By.below hz1; have C2 := Rz.below hz1; have Cb := bel_after hb hb.size hz1; have Co := own_bel own hz1; obtain ⟨_, cx, _⟩ := id C0; obtain ⟨_, cy, _⟩ := id C1; clear hz1) | (go_at_call 50; (with_reducible refine Calls.mono (hFr _ (by exact Cb) Co) ?_); rintro e z2 ⟨rfl, hz2⟩; have D0 := C0.below hz2; have D1 := C1.below hz2; have D2 := C2.below hz2; have Db := bel_after Cb Cb.size hz2; have Do := own_bel Co hz2; clear hz2))
                have E0 := D0.far (c := r) (i := k) (by omega) (.int .i64 2)
                have E1 := D1.far (c := r) (i := k) (by omega) (.int .i64 2)
                have E2 := D2.far (c := r) (i := k) (by omega) (.int .i64 2)
                have Eb : Below w.heap.size w (z2.setCell ⟨r, k, none⟩ (.int .i64 2)) := Db.setCell (p := ⟨r, k, none⟩) (by simp; omega) _
                have Eo := set1 _ _ 2 Do
                obtain ⟨y0, zc⟩ := own_some Do k (by omega)
                have hfz := Do.frozenAt
                go_upto_region 15 with fail
                generalize (z2.setCell ⟨r, k, none⟩ (.int .i64 2)) = WE at *
                clear zc hfz
                have q4 := hQ _ Eb
                obtain ⟨_, ex, _⟩ := id E0
                by_cases d4 : x4 > 0
                · rw [if_pos d4] at nx
                  have Fo := set1 _ _ 1 Eo
                  have e5 : valR G.length (fun j => if j = k then 1 else if j = k then 2 else begF G C A W M (alF G A I M) k j) = valR G.length (begF G C A W M (alF G A I M) (k + 1)) := by rw [nx]; apply valR_ext; intro j _; unfold updF; by_cases e : j = k <;> simp [e]
                  rw [e5] at Fo
                  obtain ⟨y1, zc1⟩ := own_some Eo k (by omega)
                  have hfz1 := Eo.frozenAt
                  go_wp2_with fail
                  go_roundw
                  case rel => exact ⟨k + 1, by omega, by go_num, Fo, E0.far (by omega) _, E1.far (by omega) _, E2.far (by omega) _, Eb.setCell (p := ⟨r, k, none⟩) (by simp; omega) _⟩
                  case measure => simp [intOf]; omega
                · rw [if_neg d4] at nx
                  have e5 : valR G.length (fun j => if j = k then 2 else begF G C A W M (alF G A I M) k j) = valR G.length (begF G C A W M (alF G A I M) (k + 1)) := by rw [nx]; rfl
                  rw [e5] at Eo
                  go_wp2_with fail
                  go_roundw
                  case rel => exact ⟨k + 1, by omega, by go_num, Eo, E0, E1, E2, Eb⟩
                  case measure => simp [intOf]; omega
        case neg =>
          have t1 : ¬ (k : Int) < (G.length : Int) := by omega
          have ek : k = G.length := by omega
          subst ek
          have ownX : wr.ownsRow (w.heap.size + 3) 3 1 (.slice ua G.length uc) G.length (valR G.length (nxF G C A I W M)) := own
          have hu : ∀ q, (Value.slice ua G.length uc).ownBlock = some q → q < wr.heap.size := fun q hq => (own_lt own q hq).2
          have Hv : Has (wr.alloc (.cells #[.slice ua G.length uc, .slice none 0 0, .slice none 0 0] 29)) wr.heap.size #[.slice ua G.length uc, .slice none 0 0, .slice none 0 0] := Has.new _ _ _ rfl
          replace ownX := ownX.alloc (.cells #[.slice ua G.length uc, .slice none 0 0, .slice none 0 0] 29)
          replace Bx := Bx.alloc (.cells #[.slice ua G.length uc, .slice none 0 0, .slice none 0 0] 29)
          replace By := By.alloc (.cells #[.slice ua G.length uc, .slice none 0 0, .slice none 0 0] 29)
          replace Rz := Rz.alloc (.cells #[.slice ua G.length uc, .slice none 0 0, .slice none 0 0] 29)
          replace hb := hb.alloc hb.size (.cells #[.slice ua G.length uc, .slice none 0 0, .slice none 0 0] 29)
          have T0 : T3 (wr.heap.size + 1) (wr.alloc (.cells #[.slice ua G.length uc, .slice none 0 0, .slice none 0 0] 29)) (.slice none 0 0) (.slice none 0 0) (.slice none 0 0) 0 0 0 [] (v32 0 (inF A I (nxF G C A I W M))) (v32 0 (awF W (nxF G C A I W M))) := ⟨⟨rfl, .inl ⟨rfl, rfl⟩⟩, ⟨rfl, .inl ⟨rfl, rfl⟩⟩, ⟨rfl, .inl ⟨rfl, rfl⟩⟩, fun q h => (by cases h), fun q h => (by cases h), fun q h => (by cases h)⟩
          clear own
          go_upto_region 18 with fail
          generalize (wr.alloc (.cells #[.slice ua G.length uc, .slice none 0 0, .slice none 0 0] 29)) = X0 at *
          generalize hnv : wr.heap.size = nv at *
          go_wp2_with fail
          go_loopw [12] (fun t wr => ∃ (k : Nat) (ub ud : Value), k ≤ G.length ∧ t = .int .i64 (k : Int) ∧ Hid (T3 (nv + 1) wr (.slice none 0 0) ub ud 0 k k [] (v32 k (inF A I (nxF G C A I W M))) (v32 k (awF W (nxF G C A I W M)))) ∧ Hid (Has wr nv #[.slice ua G.length uc, ub, ud]) ∧ Hid (wr.ownsRow (w.heap.size + 3) 3 1 (.slice ua G.length uc) G.length (valR G.length (nxF G C A I W M))) ∧ Hid (Has wr w.heap.size #[.slice va G.length cg, .slice vb C.length cc]) ∧ Hid (Has wr (w.heap.size + 1) #[.slice vA A.length cA, .slice vI I.length cI, .slice vW W.length cW]) ∧ Hid (Has wr (w.heap.size + 1 + 1) #[.slice none 0 0, .slice none 0 0, .slice none 0 0]) ∧ Hid (Below w.heap.size w wr)) (fun t _ => G.length - (intOf t).toNat)
          case atStart => exact ⟨0, _, _, by omega, rfl, T0, Hv, ownX, Bx, By, Rz, hb⟩
          case round =>
            clear T0 Hv ownX Bx By Rz hb t1 hnv
            obtain ⟨k, ub, ud, hkl, rfl, T', Hx', own', Bx', By', Rz', hb'⟩ := hrel
            have T := T'.out
            have Hx := Hx'.out
            have own := own'.out
            have Bx := Bx'.out
            have By := By'.out
            have Rz := Rz'.out
            have hb := hb'.out
            clear T' Hx' own' Bx' By' Rz' hb'
            obtain ⟨a2, e2, rfl⟩ := own_form T.o2
            obtain ⟨a3, e3, rfl⟩ := own_form T.o3
            have zv := Hx.1
            by_cases hlt : k < G.length
            case pos =>
              obtain ⟨r, cap, ev, _, hrB, hrs⟩ := own_block own (by omega)
              obtain ⟨rfl, rfl⟩ : ua = some ⟨r, 0, none⟩ ∧ uc = cap := by injection ev with q1 _ q2; exact ⟨q1, q2⟩
              clear ev
              have hrv : r < nv := hu r rfl
              have lA' : k < A.length := by have := la.out; omega
              have lI' : k < I.length := by have := li.out; omega
              have lW' : k < W.length := by have := lw.out; omega
              obtain ⟨gA, oA, rfl, hgA, PA⟩ := kA.resolve_left (by intro e; rw [e] at lA'; simp at lA')
              obtain ⟨gI, oI, rfl, hgI, PI⟩ := kI.resolve_left (by intro e; rw [e] at lI'; simp at lI')
              obtain ⟨gW, oW, rfl, hgW, PW⟩ := kW.resolve_left (by intro e; rw [e] at lW'; simp at lW')
              have hP : ∀ (X : World), Below w.heap.size w X → X.cell? ⟨gA, oA + k, none⟩ = some (.int .i64 A[k]) ∧ X.cell? ⟨gI, oI + k, none⟩ = some (.int .i32 I[k]) ∧ X.cell? ⟨gW, oW + k, none⟩ = some (.int .i32 W[k]) := fun X hX => ⟨(hX.cell (p := ⟨gA, _, none⟩) hgA).trans (PA k lA' _ rfl), (hX.cell (p := ⟨gI, _, none⟩) hgI).trans (PI k lI' _ rfl), (hX.cell (p := ⟨gW, _, none⟩) hgW).trans (PW k lW' _ rfl)⟩
              have hUI := hUp I[k] (okI _ (List.getElem_mem lI'))
              have hUW := hUp W[k] (okW _ (List.getElem_mem lW'))
              have in1 : inF A I (nxF G C A I W M) k = if nxF G C A I W M k = A[k] then upF I[k] else 1 := by unfold inF; simp [List.getD_eq_getElem?_getD, lA', lI']
              have aw1 : awF W (nxF G C A I W M) k = if nxF G C A I W M k = 2 then 0 else upF W[k] := by unfold awF; simp [List.getD_eq_getElem?_getD, lW']
              have hR : ∀ X : World, X.ownsRow (w.heap.size + 3) 3 1 (.slice (some ⟨r, 0, none⟩) G.length uc) G.length (valR G.length (nxF G C A I W M)) → X.cell? ⟨r, k, none⟩ = some (.int .i64 (nxF G C A I W M k)) := fun X hX => own_cell hX hlt
              have t0 : (0 : Int) ≤ (k : Int) := by omega
              have t1 : (k : Int) < (G.length : Int) := by omega
              have t2 : k + 1 ≤ G.length := hlt
              have tA : (k : Int) < (A.length : Int) := by omega
              have tI : (k : Int) < (I.length : Int) := by omega
              have tW : (k : Int) < (W.length : Int) := by omega
              have sI : ∀ v, v = inF A I (nxF G C A I W M) k → v32 k (inF A I (nxF G C A I W M)) ++ [.int .i32 v] = v32 (k + 1) (inF A I (nxF G C A I W M)) := fun v hv => by rw [hv]; exact v32_snoc k _
              have sW : ∀ v, v = awF W (nxF G C A I W M) k → v32 k (awF W (nxF G C A I W M)) ++ [.int .i32 v] = v32 (k + 1) (awF W (nxF G C A I W M)) := fun v hv => by rw [hv]; exact v32_snoc k _
              clear PA PI PW kG kA kI kW hWn' hFr' hUp
              generalize A[k] = ya at *
              generalize I[k] = yi at *
              generalize W[k] = yw at *
              generalize upF yi = ui at *
              generalize upF yw = uw at *
              generalize nxF G C A I W M k = yn at *
              obtain ⟨_, by1, _⟩ := id By
              obtain ⟨_, bx1, _⟩ := id Bx
              go_upto_region 22 with fail
              clear by1 bx1
              by_cases d1 : yn = ya
              · subst d1
                rw [if_pos rfl] at in1
                refine wp_region_noPanic ?_
                refine wp_region_held_drew (S := fun w' => (w'.cell? ⟨w.heap.size + 1, 0, none⟩ = some (.slice (some ⟨gA, oA, none⟩) A.length cA) ∧ w'.cell? ⟨w.heap.size + 1, 1, none⟩ = some (.slice (some ⟨gI, oI, none⟩) I.length cI) ∧ w'.cell? ⟨w.heap.size + 1, 2, none⟩ = some (.slice (some ⟨gW, oW, none⟩) W.length cW)) ∧ w'.cell? ⟨r, k, none⟩ = some (.int .i64 yn) ∧ w'.cell? ⟨gA, oA + k, none⟩ = some (.int .i64 yn)) (by kernel_rfl) ?_ (fun hHeld => ?_)
                · (try dsimp only)
                  exact ⟨has3 By.drew, hR _ own.drew, (hP _ hb.drew).1⟩
                refine wpAnyH_take (i := 0) (oi := { dst := some 98, op := Op.move (Operand.tmp 8), type := 26, pos := "heads.go:171", after := #[], guard := none }) (v := ?_) rfl (by kernel_rfl) (by kernel_rfl) (by kernel_rfl) (fun _ _ _ h => h) (Or.inl ⟨by rfl, ?_⟩) (by assumption) ?_
                rotate_left
                · intro wz hSz; (try dsimp only at hSz); go_simp; all_goals (with_reducible rfl)
                (try simp only [Act.put, List.setIfInBounds_toArray, List.set_cons_zero, List.set_cons_succ])
                refine wpAnyH_take (i := 1) (oi := { dst := some 99, op := Op.move (Operand.tmp 12), type := 3, pos := "heads.go:171", after := #[], guard := none }) (v := ?_) rfl (by kernel_rfl) (by kernel_rfl) (by kernel_rfl) (fun _ _ _ h => h) (Or.inl ⟨by rfl, ?_⟩) (by assumption) ?_
                rotate_left
                · intro wz hSz; (try dsimp only at hSz); go_simp; all_goals (with_reducible rfl)
                (try simp only [Act.put, List.setIfInBounds_toArray, List.set_cons_zero, List.set_cons_succ])
                refine wpAnyH_take (i := 2) (oi := { dst := some 100, op := Op.indexAddr 26 (Operand.tmp 98) (Operand.tmp 99), type := 0, pos := "heads.go:171", after := #[{ on := 0, ground := Ground.data }, { on := 1, ground := Ground.data }], guard := none }) (v := ?_) rfl (by kernel_rfl) (by kernel_rfl) (by kernel_rfl) (fun _ _ _ h => h) (Or.inl ⟨by rfl, ?_⟩) (by assumption) ?_
                rotate_left
                · intro wz hSz; (try dsimp only at hSz); go_simp; all_goals (with_reducible rfl)
                (try simp only [Act.put, List.setIfInBounds_toArray, List.set_cons_zero, List.set_cons_succ])
                refine wpAnyH_take (i := 3) (oi := { dst := some 101, op := Op.load 3 (Operand.tmp 100), type := 3, pos := "heads.go:171", after := #[{ on := 2, ground := Ground.data }], guard := none }) (v := ?_) rfl (by kernel_rfl) (by kernel_rfl) (by kernel_rfl) (fun _ _ _ h => h) (Or.inl ⟨by rfl, ?_⟩) (by assumption) ?_
                rotate_left
                · intro wz hSz; (try dsimp only at hSz); go_simp; all_goals (with_reducible rfl)
                (try simp only [Act.put, List.setIfInBounds_toArray, List.set_cons_zero, List.set_cons_succ])
                refine wpAnyH_take (i := 4) (oi := { dst := some 102, op := Op.fieldAddr 29 (Operand.tmp 4) 0, type := 0, pos := "heads.go:171", after := #[], guard := none }) (v := ?_) rfl (by kernel_rfl) (by kernel_rfl) (by kernel_rfl) (fun _ _ _ h => h) (Or.inl ⟨by rfl, ?_⟩) (by assumption) ?_
                rotate_left
                · intro wz hSz; (try dsimp only at hSz); go_simp; all_goals (with_reducible rfl)
                (try simp only [Act.put, List.setIfInBounds_toArray, List.set_cons_zero, List.set_cons_succ])
                refine wpAnyH_take (i := 5) (oi := { dst := some 103, op := Op.load 26 (Operand.tmp 102), type := 26, pos := "heads.go:171", after := #[{ on := 4, ground := Ground.data }], guard := none }) (v := ?_) rfl (by kernel_rfl) (by kernel_rfl) (by kernel_rfl) (fun _ _ _ h => h) (Or.inl ⟨by rfl, ?_⟩) (by assumption) ?_
                rotate_left
                · intro wz hSz; (try dsimp only at hSz); go_simp; all_goals (with_reducible rfl)
                (try simp only [Act.put, List.setIfInBounds_toArray, List.set_cons_zero, List.set_cons_succ])
                refine wpAnyH_take (i := 6) (oi := { dst := some 104, op := Op.move (Operand.tmp 12), type := 3, pos := "heads.go:171", after := #[], guard := none }) (v := ?_) rfl (by kernel_rfl) (by kernel_rfl) (by kernel_rfl) (fun _ _ _ h => h) (Or.inl ⟨by rfl, ?_⟩) (by assumption) ?_
                rotate_left
                · intro wz hSz; (try dsimp only at hSz); go_simp; all_goals (with_reducible rfl)
                (try simp only [Act.put, List.setIfInBounds_toArray, List.set_cons_zero, List.set_cons_succ])
                refine wpAnyH_take (i := 7) (oi := { dst := some 105, op := Op.indexAddr 26 (Operand.tmp 103) (Operand.tmp 104), type := 0, pos := "heads.go:171", after := #[{ on := 5, ground := Ground.data }, { on := 6, ground := Ground.data }], guard := none }) (v := ?_) rfl (by kernel_rfl) (by kernel_rfl) (by kernel_rfl) (fun _ _ _ h => h) (Or.inl ⟨by rfl, ?_⟩) (by assumption) ?_
                rotate_left
                · intro wz hSz; (try dsimp only at hSz); go_simp; all_goals (with_reducible rfl)
                (try simp only [Act.put, List.setIfInBounds_toArray, List.set_cons_zero, List.set_cons_succ])
                refine wpAnyH_take (i := 8) (oi := { dst := some 106, op := Op.load 3 (Operand.tmp 105), type := 3, pos := "heads.go:171", after := #[{ on := 7, ground := Ground.data }], guard := none }) (v := ?_) rfl (by kernel_rfl) (by kernel_rfl) (by kernel_rfl) (fun _ _ _ h => h) (Or.inl ⟨by rfl, ?_⟩) (by assumption) ?_
                rotate_left
                · intro wz hSz; (try dsimp only at hSz); go_simp; all_goals (with_reducible rfl)
                (try simp only [Act.put, List.setIfInBounds_toArray, List.set_cons_zero, List.set_cons_succ])
                refine wpAnyH_take (i := 9) (oi := { dst := some 107, op := Op.binOp BinOp.eql 3 (Operand.tmp 101) (Operand.tmp 106) 3, type := 4, pos := "heads.go:171", after := #[{ on := 3, ground := Ground.data }, { on := 8, ground := Ground.data }], guard := none }) (v := ?_) rfl (by kernel_rfl) (by kernel_rfl) (by kernel_rfl) (fun _ _ _ h => h) (Or.inl ⟨by rfl, ?_⟩) (by assumption) ?_
                rotate_left
                · intro wz hSz; (try dsimp only at hSz); go_simp; all_goals (with_reducible rfl)
                (try simp only [Act.put, List.setIfInBounds_toArray, List.set_cons_zero, List.set_cons_succ])
                refine wpAnyH_done (by kernel_rfl) ?_ _
                refine NoPanic.normal ?_
                replace T := T.drew
                replace Hx := Hx.drew
                replace Rz := Rz.drew
                replace Bx := Bx.drew
                replace By := By.drew
                replace hb := hb.drew
                replace own := own.drew
                have zvd : nv < wr.drew.heap.size := zv
                generalize wr.drew = Yd at *
                have px := hR _ own
                obtain ⟨-, py, pz⟩ := hP _ hb
                obtain ⟨_, pb, _⟩ := id By
                by_cases d2 : yn = 2
                · subst d2
                  rw [if_pos rfl] at aw1
                  go_upto_region 27 with (first | (go_at_call 51; (with_reducible refine Calls.mono (hUI _) ?_); rintro e Yd ⟨rfl, rfl⟩) | (go_at_call 51; (with_reducible refine Calls.mono (hUW _) ?_); rintro e Yd ⟨rfl, rfl⟩))
                  clear px py pz pb
                  obtain ⟨_, hx, hf⟩ := id Hx
                  go_upto_region 28 with (at_builtin; (refine wpList_append_mine _ rfl _ _ 27 rfl (nv + 1) 21 i21 _ 1 4 Try.underlying27 hj hj0 hj1 hj2 rfl (by decide) (.slice a2 k e2) k (v32 k (inF A I (nxF G C A I W M))) rfl (own_bel T.o2 belN1) ⟨Yd.heap.size, 0, none⟩ 1 1 [.int .i32 ui] rfl rfl (cells_at (W := Yd) rfl _ _) (all_one rfl) (by decide) (by unfold maxLen; omega) (by omega) (by simp; omega) ?_); intro g1 c1 y1 o1 hg1 hat1 _ _; have O1 := only_of_grown hg1; have at1 : (Value.slice a2 k e2).ownBlock = some g1 ∨ Yd.heap.size ≤ g1 := hat1.imp id (fun h => by simp at h; omega); rw [sI ui in1.symm] at o1; have T1x := T3.app2 T O1 at1 o1; have nb1 : ∀ q, q < (nv + 1) → ¬ (Value.slice a2 k e2).ownBlock = some q := (fun q hq h => by have := (own_lt T.o2 q h).1; omega); have H1x := Hx.only O1 (nb1 _ (by omega)); have R1x := Rz.only O1 (nb1 _ (by omega)); have B1x := Bx.only O1 (nb1 _ (by omega)); have b1x := bel_only hb O1 (Nat.le_refl _) (fun q hq h => nb1 q (by omega) h); have zy1 := O1.size; obtain ⟨_, hx1, hf1⟩ := id H1x; clear hg1 hat1 o1)
                  have T2 := T1x.only (only_of_set y1 nv 1 (.slice (some ⟨g1, 0, none⟩) (k + 1) c1)) (fun q hq h => by omega)
                  have Hx2 : Has (y1.setCell ⟨nv, 1, none⟩ (.slice (some ⟨g1, 0, none⟩) (k + 1) c1)) nv #[.slice (some ⟨r, 0, none⟩) G.length uc, .slice (some ⟨g1, 0, none⟩) (k + 1) c1, .slice a3 k e3] := by simpa using H1x.set 1 (by simp) (.slice (some ⟨g1, 0, none⟩) (k + 1) c1)
                  have Rz2 := R1x.far (c := nv) (i := 1) (by omega) (.slice (some ⟨g1, 0, none⟩) (k + 1) c1)
                  have Bx2 := B1x.far (c := nv) (i := 1) (by omega) (.slice (some ⟨g1, 0, none⟩) (k + 1) c1)
                  have hb2 : Below w.heap.size w (y1.setCell ⟨nv, 1, none⟩ (.slice (some ⟨g1, 0, none⟩) (k + 1) c1)) := b1x.setCell (p := ⟨nv, 1, none⟩) (by simp; omega) _
                  have zs1 : y1.heap.size ≤ (y1.setCell ⟨nv, 1, none⟩ (.slice (some ⟨g1, 0, none⟩) (k + 1) c1)).heap.size := by simp [World.setCell]
                  have ow1 := own_only2 (own_only2 own O1 (fun q hq h => by have e : r = q := (by injection hq); have b := (own_lt T.o2 q h).1; omega)) (only_of_set y1 nv 1 (.slice (some ⟨g1, 0, none⟩) (k + 1) c1)) (fun q hq h => by have e : r = q := (by injection hq); omega)
                  have By1 := (By.only O1 (nb1 _ (by omega))).far (c := nv) (i := 1) (by omega) (.slice (some ⟨g1, 0, none⟩) (k + 1) c1)
                  clear T1x H1x R1x B1x b1x hx1 hf1
                  generalize (y1.setCell ⟨nv, 1, none⟩ (.slice (some ⟨g1, 0, none⟩) (k + 1) c1)) = Y1 at *
                  obtain ⟨_, hxb, hfb⟩ := id Hx2
                  go_upto_region 20 with (at_builtin; (refine wpList_append_mine _ rfl _ _ 27 rfl (nv + 1) 21 i21 _ 1 4 Try.underlying27 hj hj0 hj1 hj2 rfl (by decide) (.slice a3 k e3) k (v32 k (awF W (nxF G C A I W M))) rfl (own_bel T2.o3 belN1) ⟨Y1.heap.size, 0, none⟩ 1 1 [.int .i32 0] rfl rfl (cells_at (W := Y1) rfl _ _) (all_one rfl) (by decide) (by unfold maxLen; omega) (by omega) (by simp; omega) ?_); intro g2 c2 y2 o2 hg2 hat2 _ _; have O2 := only_of_grown hg2; have at2 : (Value.slice a3 k e3).ownBlock = some g2 ∨ Y1.heap.size ≤ g2 := hat2.imp id (fun h => by simp at h; omega); rw [sW 0 aw1.symm] at o2; have T2x := T3.app3 T2 O2 at2 o2; have nb2 : ∀ q, q < (nv + 1) → ¬ (Value.slice a3 k e3).ownBlock = some q := (fun q hq h => by have := (own_lt T2.o3 q h).1; omega); have H2x := Hx2.only O2 (nb2 _ (by omega)); have R2x := Rz2.only O2 (nb2 _ (by omega)); have B2x := Bx2.only O2 (nb2 _ (by omega)); have b2x := bel_only hb2 O2 (Nat.le_refl _) (fun q hq h => nb2 q (by omega) h); have zy2 := O2.size; obtain ⟨_, hx2, hf2⟩ := id H2x; clear hg2 hat2 o2)
                  have T4 := T2x.only (only_of_set y2 nv 2 (.slice (some ⟨g2, 0, none⟩) (k + 1) c2)) (fun q hq h => by omega)
                  have Hx4 : Has (y2.setCell ⟨nv, 2, none⟩ (.slice (some ⟨g2, 0, none⟩) (k + 1) c2)) nv #[.slice (some ⟨r, 0, none⟩) G.length uc, .slice (some ⟨g1, 0, none⟩) (k + 1) c1, .slice (some ⟨g2, 0, none⟩) (k + 1) c2] := by simpa using H2x.set 2 (by simp) (.slice (some ⟨g2, 0, none⟩) (k + 1) c2)
                  have Rz4 := R2x.far (c := nv) (i := 2) (by omega) (.slice (some ⟨g2, 0, none⟩) (k + 1) c2)
                  have Bx4 := B2x.far (c := nv) (i := 2) (by omega) (.slice (some ⟨g2, 0, none⟩) (k + 1) c2)
                  have hb4 : Below w.heap.size w (y2.setCell ⟨nv, 2, none⟩ (.slice (some ⟨g2, 0, none⟩) (k + 1) c2)) := b2x.setCell (p := ⟨nv, 2, none⟩) (by simp; omega) _
                  have zs2 : y2.heap.size ≤ (y2.setCell ⟨nv, 2, none⟩ (.slice (some ⟨g2, 0, none⟩) (k + 1) c2)).heap.size := by simp [World.setCell]
                  have ow2 := own_only2 (own_only2 ow1 O2 (fun q hq h => by have e : r = q := (by injection hq); have b := (own_lt T2.o3 q h).1; omega)) (only_of_set y2 nv 2 (.slice (some ⟨g2, 0, none⟩) (k + 1) c2)) (fun q hq h => by have e : r = q := (by injection hq); omega)
                  have By2 := (By1.only O2 (nb2 _ (by omega))).far (c := nv) (i := 2) (by omega) (.slice (some ⟨g2, 0, none⟩) (k + 1) c2)
                  clear T2x H2x R2x B2x b2x hx2 hf2
                  generalize (y2.setCell ⟨nv, 2, none⟩ (.slice (some ⟨g2, 0, none⟩) (k + 1) c2)) = Y2 at *
                  go_wp2_with fail
                  go_roundw
                  case rel => exact ⟨k + 1, _, _, by omega, by go_num, T4, Hx4, ow2, Bx4, By2, Rz4, hb4⟩
                  case measure => simp [intOf]; omega
                · have D2 : (yn != 2) = true := by simpa using d2
                  rw [if_neg d2] at aw1
                  go_upto_region 27 with (first | (go_at_call 51; (with_reducible refine Calls.mono (hUI _) ?_); rintro e Yd ⟨rfl, rfl⟩) | (go_at_call 51; (with_reducible refine Calls.mono (hUW _) ?_); rintro e Yd ⟨rfl, rfl⟩))
                  clear px py pz pb
                  obtain ⟨_, hx, hf⟩ := id Hx
                  go_upto_region 28 with (at_builtin; (refine wpList_append_mine _ rfl _ _ 27 rfl (nv + 1) 21 i21 _ 1 4 Try.underlying27 hj hj0 hj1 hj2 rfl (by decide) (.slice a2 k e2) k (v32 k (inF A I (nxF G C A I W M))) rfl (own_bel T.o2 belN1) ⟨Yd.heap.size, 0, none⟩ 1 1 [.int .i32 ui] rfl rfl (cells_at (W := Yd) rfl _ _) (all_one rfl) (by decide) (by unfold maxLen; omega) (by omega) (by simp; omega) ?_); intro g1 c1 y1 o1 hg1 hat1 _ _; have O1 := only_of_grown hg1; have at1 : (Value.slice a2 k e2).ownBlock = some g1 ∨ Yd.heap.size ≤ g1 := hat1.imp id (fun h => by simp at h; omega); rw [sI ui in1.symm] at o1; have T1x := T3.app2 T O1 at1 o1; have nb1 : ∀ q, q < (nv + 1) → ¬ (Value.slice a2 k e2).ownBlock = some q := (fun q hq h => by have := (own_lt T.o2 q h).1; omega); have H1x := Hx.only O1 (nb1 _ (by omega)); have R1x := Rz.only O1 (nb1 _ (by omega)); have B1x := Bx.only O1 (nb1 _ (by omega)); have b1x := bel_only hb O1 (Nat.le_refl _) (fun q hq h => nb1 q (by omega) h); have zy1 := O1.size; obtain ⟨_, hx1, hf1⟩ := id H1x; clear hg1 hat1 o1)
                  have T2 := T1x.only (only_of_set y1 nv 1 (.slice (some ⟨g1, 0, none⟩) (k + 1) c1)) (fun q hq h => by omega)
                  have Hx2 : Has (y1.setCell ⟨nv, 1, none⟩ (.slice (some ⟨g1, 0, none⟩) (k + 1) c1)) nv #[.slice (some ⟨r, 0, none⟩) G.length uc, .slice (some ⟨g1, 0, none⟩) (k + 1) c1, .slice a3 k e3] := by simpa using H1x.set 1 (by simp) (.slice (some ⟨g1, 0, none⟩) (k + 1) c1)
                  have Rz2 := R1x.far (c := nv) (i := 1) (by omega) (.slice (some ⟨g1, 0, none⟩) (k + 1) c1)
                  have Bx2 := B1x.far (c := nv) (i := 1) (by omega) (.slice (some ⟨g1, 0, none⟩) (k + 1) c1)
                  have hb2 : Below w.heap.size w (y1.setCell ⟨nv, 1, none⟩ (.slice (some ⟨g1, 0, none⟩) (k + 1) c1)) := b1x.setCell (p := ⟨nv, 1, none⟩) (by simp; omega) _
                  have zs1 : y1.heap.size ≤ (y1.setCell ⟨nv, 1, none⟩ (.slice (some ⟨g1, 0, none⟩) (k + 1) c1)).heap.size := by simp [World.setCell]
                  have ow1 := own_only2 (own_only2 own O1 (fun q hq h => by have e : r = q := (by injection hq); have b := (own_lt T.o2 q h).1; omega)) (only_of_set y1 nv 1 (.slice (some ⟨g1, 0, none⟩) (k + 1) c1)) (fun q hq h => by have e : r = q := (by injection hq); omega)
                  have By1 := (By.only O1 (nb1 _ (by omega))).far (c := nv) (i := 1) (by omega) (.slice (some ⟨g1, 0, none⟩) (k + 1) c1)
                  clear T1x H1x R1x B1x b1x hx1 hf1
                  generalize (y1.setCell ⟨nv, 1, none⟩ (.slice (some ⟨g1, 0, none⟩) (k + 1) c1)) = Y1 at *
                  obtain ⟨_, hxb, hfb⟩ := id Hx2
                  go_upto_region 20 with (at_builtin; (refine wpList_append_mine _ rfl _ _ 27 rfl (nv + 1) 21 i21 _ 1 4 Try.underlying27 hj hj0 hj1 hj2 rfl (by decide) (.slice a3 k e3) k (v32 k (awF W (nxF G C A I W M))) rfl (own_bel T2.o3 belN1) ⟨Y1.heap.size, 0, none⟩ 1 1 [.int .i32 uw] rfl rfl (cells_at (W := Y1) rfl _ _) (all_one rfl) (by decide) (by unfold maxLen; omega) (by omega) (by simp; omega) ?_); intro g2 c2 y2 o2 hg2 hat2 _ _; have O2 := only_of_grown hg2; have at2 : (Value.slice a3 k e3).ownBlock = some g2 ∨ Y1.heap.size ≤ g2 := hat2.imp id (fun h => by simp at h; omega); rw [sW uw aw1.symm] at o2; have T2x := T3.app3 T2 O2 at2 o2; have nb2 : ∀ q, q < (nv + 1) → ¬ (Value.slice a3 k e3).ownBlock = some q := (fun q hq h => by have := (own_lt T2.o3 q h).1; omega); have H2x := Hx2.only O2 (nb2 _ (by omega)); have R2x := Rz2.only O2 (nb2 _ (by omega)); have B2x := Bx2.only O2 (nb2 _ (by omega)); have b2x := bel_only hb2 O2 (Nat.le_refl _) (fun q hq h => nb2 q (by omega) h); have zy2 := O2.size; obtain ⟨_, hx2, hf2⟩ := id H2x; clear hg2 hat2 o2)
                  have T4 := T2x.only (only_of_set y2 nv 2 (.slice (some ⟨g2, 0, none⟩) (k + 1) c2)) (fun q hq h => by omega)
                  have Hx4 : Has (y2.setCell ⟨nv, 2, none⟩ (.slice (some ⟨g2, 0, none⟩) (k + 1) c2)) nv #[.slice (some ⟨r, 0, none⟩) G.length uc, .slice (some ⟨g1, 0, none⟩) (k + 1) c1, .slice (some ⟨g2, 0, none⟩) (k + 1) c2] := by simpa using H2x.set 2 (by simp) (.slice (some ⟨g2, 0, none⟩) (k + 1) c2)
                  have Rz4 := R2x.far (c := nv) (i := 2) (by omega) (.slice (some ⟨g2, 0, none⟩) (k + 1) c2)
                  have Bx4 := B2x.far (c := nv) (i := 2) (by omega) (.slice (some ⟨g2, 0, none⟩) (k + 1) c2)
                  have hb4 : Below w.heap.size w (y2.setCell ⟨nv, 2, none⟩ (.slice (some ⟨g2, 0, none⟩) (k + 1) c2)) := b2x.setCell (p := ⟨nv, 2, none⟩) (by simp; omega) _
                  have zs2 : y2.heap.size ≤ (y2.setCell ⟨nv, 2, none⟩ (.slice (some ⟨g2, 0, none⟩) (k + 1) c2)).heap.size := by simp [World.setCell]
                  have ow2 := own_only2 (own_only2 ow1 O2 (fun q hq h => by have e : r = q := (by injection hq); have b := (own_lt T2.o3 q h).1; omega)) (only_of_set y2 nv 2 (.slice (some ⟨g2, 0, none⟩) (k + 1) c2)) (fun q hq h => by have e : r = q := (by injection hq); omega)
                  have By2 := (By1.only O2 (nb2 _ (by omega))).far (c := nv) (i := 2) (by omega) (.slice (some ⟨g2, 0, none⟩) (k + 1) c2)
                  clear T2x H2x R2x B2x b2x hx2 hf2
                  generalize (y2.setCell ⟨nv, 2, none⟩ (.slice (some ⟨g2, 0, none⟩) (k + 1) c2)) = Y2 at *
                  go_wp2_with fail
                  go_roundw
                  case rel => exact ⟨k + 1, _, _, by omega, by go_num, T4, Hx4, ow2, Bx4, By2, Rz4, hb4⟩
                  case measure => simp [intOf]; omega
              · have D1 : (yn == ya) = false := by simpa using d1
                rw [if_neg d1] at in1
                refine wp_region_noPanic ?_
                refine wp_region_held_drew (S := fun w' => (w'.cell? ⟨w.heap.size + 1, 0, none⟩ = some (.slice (some ⟨gA, oA, none⟩) A.length cA) ∧ w'.cell? ⟨w.heap.size + 1, 1, none⟩ = some (.slice (some ⟨gI, oI, none⟩) I.length cI) ∧ w'.cell? ⟨w.heap.size + 1, 2, none⟩ = some (.slice (some ⟨gW, oW, none⟩) W.length cW)) ∧ w'.cell? ⟨r, k, none⟩ = some (.int .i64 yn) ∧ w'.cell? ⟨gA, oA + k, none⟩ = some (.int .i64 ya)) (by kernel_rfl) ?_ (fun hHeld => ?_)
                · (try dsimp only)
                  exact ⟨has3 By.drew, hR _ own.drew, (hP _ hb.drew).1⟩
                refine wpAnyH_take (i := 0) (oi := { dst := some 98, op := Op.move (Operand.tmp 8), type := 26, pos := "heads.go:171", after := #[], guard := none }) (v := ?_) rfl (by kernel_rfl) (by kernel_rfl) (by kernel_rfl) (fun _ _ _ h => h) (Or.inl ⟨by rfl, ?_⟩) (by assumption) ?_
                rotate_left
                · intro wz hSz; (try dsimp only at hSz); go_simp; all_goals (with_reducible rfl)
                (try simp only [Act.put, List.setIfInBounds_toArray, List.set_cons_zero, List.set_cons_succ])
                refine wpAnyH_take (i := 1) (oi := { dst := some 99, op := Op.move (Operand.tmp 12), type := 3, pos := "heads.go:171", after := #[], guard := none }) (v := ?_) rfl (by kernel_rfl) (by kernel_rfl) (by kernel_rfl) (fun _ _ _ h => h) (Or.inl ⟨by rfl, ?_⟩) (by assumption) ?_
                rotate_left
                · intro wz hSz; (try dsimp only at hSz); go_simp; all_goals (with_reducible rfl)
                (try simp only [Act.put, List.setIfInBounds_toArray, List.set_cons_zero, List.set_cons_succ])
                refine wpAnyH_take (i := 2) (oi := { dst := some 100, op := Op.indexAddr 26 (Operand.tmp 98) (Operand.tmp 99), type := 0, pos := "heads.go:171", after := #[{ on := 0, ground := Ground.data }, { on := 1, ground := Ground.data }], guard := none }) (v := ?_) rfl (by kernel_rfl) (by kernel_rfl) (by kernel_rfl) (fun _ _ _ h => h) (Or.inl ⟨by rfl, ?_⟩) (by assumption) ?_
                rotate_left
                · intro wz hSz; (try dsimp only at hSz); go_simp; all_goals (with_reducible rfl)
                (try simp only [Act.put, List.setIfInBounds_toArray, List.set_cons_zero, List.set_cons_succ])
                refine wpAnyH_take (i := 3) (oi := { dst := some 101, op := Op.load 3 (Operand.tmp 100), type := 3, pos := "heads.go:171", after := #[{ on := 2, ground := Ground.data }], guard := none }) (v := ?_) rfl (by kernel_rfl) (by kernel_rfl) (by kernel_rfl) (fun _ _ _ h => h) (Or.inl ⟨by rfl, ?_⟩) (by assumption) ?_
                rotate_left
                · intro wz hSz; (try dsimp only at hSz); go_simp; all_goals (with_reducible rfl)
                (try simp only [Act.put, List.setIfInBounds_toArray, List.set_cons_zero, List.set_cons_succ])
                refine wpAnyH_take (i := 4) (oi := { dst := some 102, op := Op.fieldAddr 29 (Operand.tmp 4) 0, type := 0, pos := "heads.go:171", after := #[], guard := none }) (v := ?_) rfl (by kernel_rfl) (by kernel_rfl) (by kernel_rfl) (fun _ _ _ h => h) (Or.inl ⟨by rfl, ?_⟩) (by assumption) ?_
                rotate_left
                · intro wz hSz; (try dsimp only at hSz); go_simp; all_goals (with_reducible rfl)
                (try simp only [Act.put, List.setIfInBounds_toArray, List.set_cons_zero, List.set_cons_succ])
                refine wpAnyH_take (i := 5) (oi := { dst := some 103, op := Op.load 26 (Operand.tmp 102), type := 26, pos := "heads.go:171", after := #[{ on := 4, ground := Ground.data }], guard := none }) (v := ?_) rfl (by kernel_rfl) (by kernel_rfl) (by kernel_rfl) (fun _ _ _ h => h) (Or.inl ⟨by rfl, ?_⟩) (by assumption) ?_
                rotate_left
                · intro wz hSz; (try dsimp only at hSz); go_simp; all_goals (with_reducible rfl)
                (try simp only [Act.put, List.setIfInBounds_toArray, List.set_cons_zero, List.set_cons_succ])
                refine wpAnyH_take (i := 6) (oi := { dst := some 104, op := Op.move (Operand.tmp 12), type := 3, pos := "heads.go:171", after := #[], guard := none }) (v := ?_) rfl (by kernel_rfl) (by kernel_rfl) (by kernel_rfl) (fun _ _ _ h => h) (Or.inl ⟨by rfl, ?_⟩) (by assumption) ?_
                rotate_left
                · intro wz hSz; (try dsimp only at hSz); go_simp; all_goals (with_reducible rfl)
                (try simp only [Act.put, List.setIfInBounds_toArray, List.set_cons_zero, List.set_cons_succ])
                refine wpAnyH_take (i := 7) (oi := { dst := some 105, op := Op.indexAddr 26 (Operand.tmp 103) (Operand.tmp 104), type := 0, pos := "heads.go:171", after := #[{ on := 5, ground := Ground.data }, { on := 6, ground := Ground.data }], guard := none }) (v := ?_) rfl (by kernel_rfl) (by kernel_rfl) (by kernel_rfl) (fun _ _ _ h => h) (Or.inl ⟨by rfl, ?_⟩) (by assumption) ?_
                rotate_left
                · intro wz hSz; (try dsimp only at hSz); go_simp; all_goals (with_reducible rfl)
                (try simp only [Act.put, List.setIfInBounds_toArray, List.set_cons_zero, List.set_cons_succ])
                refine wpAnyH_take (i := 8) (oi := { dst := some 106, op := Op.load 3 (Operand.tmp 105), type := 3, pos := "heads.go:171", after := #[{ on := 7, ground := Ground.data }], guard := none }) (v := ?_) rfl (by kernel_rfl) (by kernel_rfl) (by kernel_rfl) (fun _ _ _ h => h) (Or.inl ⟨by rfl, ?_⟩) (by assumption) ?_
                rotate_left
                · intro wz hSz; (try dsimp only at hSz); go_simp; all_goals (with_reducible rfl)
                (try simp only [Act.put, List.setIfInBounds_toArray, List.set_cons_zero, List.set_cons_succ])
                refine wpAnyH_take (i := 9) (oi := { dst := some 107, op := Op.binOp BinOp.eql 3 (Operand.tmp 101) (Operand.tmp 106) 3, type := 4, pos := "heads.go:171", after := #[{ on := 3, ground := Ground.data }, { on := 8, ground := Ground.data }], guard := none }) (v := ?_) rfl (by kernel_rfl) (by kernel_rfl) (by kernel_rfl) (fun _ _ _ h => h) (Or.inl ⟨by rfl, ?_⟩) (by assumption) ?_
                rotate_left
                · intro wz hSz; (try dsimp only at hSz); go_simp; all_goals (with_reducible rfl)
                (try simp only [Act.put, List.setIfInBounds_toArray, List.set_cons_zero, List.set_cons_succ])
                refine wpAnyH_done (by kernel_rfl) ?_ _
                refine NoPanic.normal ?_
                replace T := T.drew
                replace Hx := Hx.drew
                replace Rz := Rz.drew
                replace Bx := Bx.drew
                replace By := By.drew
                replace hb := hb.drew
                replace own := own.drew
                have zvd : nv < wr.drew.heap.size := zv
                generalize wr.drew = Yd at *
                have px := hR _ own
                obtain ⟨-, py, pz⟩ := hP _ hb
                obtain ⟨_, pb, _⟩ := id By
                by_cases d2 : yn = 2
                · subst d2
                  rw [if_pos rfl] at aw1
                  go_upto_region 27 with (first | (go_at_call 51; (with_reducible refine Calls.mono (hUI _) ?_); rintro e Yd ⟨rfl, rfl⟩) | (go_at_call 51; (with_reducible refine Calls.mono (hUW _) ?_); rintro e Yd ⟨rfl, rfl⟩))
                  clear px py pz pb
                  obtain ⟨_, hx, hf⟩ := id Hx
                  go_upto_region 28 with (at_builtin; (refine wpList_append_mine _ rfl _ _ 27 rfl (nv + 1) 21 i21 _ 1 4 Try.underlying27 hj hj0 hj1 hj2 rfl (by decide) (.slice a2 k e2) k (v32 k (inF A I (nxF G C A I W M))) rfl (own_bel T.o2 belN1) ⟨Yd.heap.size, 0, none⟩ 1 1 [.int .i32 1] rfl rfl (cells_at (W := Yd) rfl _ _) (all_one rfl) (by decide) (by unfold maxLen; omega) (by omega) (by simp; omega) ?_); intro g1 c1 y1 o1 hg1 hat1 _ _; have O1 := only_of_grown hg1; have at1 : (Value.slice a2 k e2).ownBlock = some g1 ∨ Yd.heap.size ≤ g1 := hat1.imp id (fun h => by simp at h; omega); rw [sI 1 in1.symm] at o1; have T1x := T3.app2 T O1 at1 o1; have nb1 : ∀ q, q < (nv + 1) → ¬ (Value.slice a2 k e2).ownBlock = some q := (fun q hq h => by have := (own_lt T.o2 q h).1; omega); have H1x := Hx.only O1 (nb1 _ (by omega)); have R1x := Rz.only O1 (nb1 _ (by omega)); have B1x := Bx.only O1 (nb1 _ (by omega)); have b1x := bel_only hb O1 (Nat.le_refl _) (fun q hq h => nb1 q (by omega) h); have zy1 := O1.size; obtain ⟨_, hx1, hf1⟩ := id H1x; clear hg1 hat1 o1)
                  have T2 := T1x.only (only_of_set y1 nv 1 (.slice (some ⟨g1, 0, none⟩) (k + 1) c1)) (fun q hq h => by omega)
                  have Hx2 : Has (y1.setCell ⟨nv, 1, none⟩ (.slice (some ⟨g1, 0, none⟩) (k + 1) c1)) nv #[.slice (some ⟨r, 0, none⟩) G.length uc, .slice (some ⟨g1, 0, none⟩) (k + 1) c1, .slice a3 k e3] := by simpa using H1x.set 1 (by simp) (.slice (some ⟨g1, 0, none⟩) (k + 1) c1)
                  have Rz2 := R1x.far (c := nv) (i := 1) (by omega) (.slice (some ⟨g1, 0, none⟩) (k + 1) c1)
                  have Bx2 := B1x.far (c := nv) (i := 1) (by omega) (.slice (some ⟨g1, 0, none⟩) (k + 1) c1)
                  have hb2 : Below w.heap.size w (y1.setCell ⟨nv, 1, none⟩ (.slice (some ⟨g1, 0, none⟩) (k + 1) c1)) := b1x.setCell (p := ⟨nv, 1, none⟩) (by simp; omega) _
                  have zs1 : y1.heap.size ≤ (y1.setCell ⟨nv, 1, none⟩ (.slice (some ⟨g1, 0, none⟩) (k + 1) c1)).heap.size := by simp [World.setCell]
                  have ow1 := own_only2 (own_only2 own O1 (fun q hq h => by have e : r = q := (by injection hq); have b := (own_lt T.o2 q h).1; omega)) (only_of_set y1 nv 1 (.slice (some ⟨g1, 0, none⟩) (k + 1) c1)) (fun q hq h => by have e : r = q := (by injection hq); omega)
                  have By1 := (By.only O1 (nb1 _ (by omega))).far (c := nv) (i := 1) (by omega) (.slice (some ⟨g1, 0, none⟩) (k + 1) c1)
                  clear T1x H1x R1x B1x b1x hx1 hf1
                  generalize (y1.setCell ⟨nv, 1, none⟩ (.slice (some ⟨g1, 0, none⟩) (k + 1) c1)) = Y1 at *
                  obtain ⟨_, hxb, hfb⟩ := id Hx2
                  go_upto_region 20 with (at_builtin; (refine wpList_append_mine _ rfl _ _ 27 rfl (nv + 1) 21 i21 _ 1 4 Try.underlying27 hj hj0 hj1 hj2 rfl (by decide) (.slice a3 k e3) k (v32 k (awF W (nxF G C A I W M))) rfl (own_bel T2.o3 belN1) ⟨Y1.heap.size, 0, none⟩ 1 1 [.int .i32 0] rfl rfl (cells_at (W := Y1) rfl _ _) (all_one rfl) (by decide) (by unfold maxLen; omega) (by omega) (by simp; omega) ?_); intro g2 c2 y2 o2 hg2 hat2 _ _; have O2 := only_of_grown hg2; have at2 : (Value.slice a3 k e3).ownBlock = some g2 ∨ Y1.heap.size ≤ g2 := hat2.imp id (fun h => by simp at h; omega); rw [sW 0 aw1.symm] at o2; have T2x := T3.app3 T2 O2 at2 o2; have nb2 : ∀ q, q < (nv + 1) → ¬ (Value.slice a3 k e3).ownBlock = some q := (fun q hq h => by have := (own_lt T2.o3 q h).1; omega); have H2x := Hx2.only O2 (nb2 _ (by omega)); have R2x := Rz2.only O2 (nb2 _ (by omega)); have B2x := Bx2.only O2 (nb2 _ (by omega)); have b2x := bel_only hb2 O2 (Nat.le_refl _) (fun q hq h => nb2 q (by omega) h); have zy2 := O2.size; obtain ⟨_, hx2, hf2⟩ := id H2x; clear hg2 hat2 o2)
                  have T4 := T2x.only (only_of_set y2 nv 2 (.slice (some ⟨g2, 0, none⟩) (k + 1) c2)) (fun q hq h => by omega)
                  have Hx4 : Has (y2.setCell ⟨nv, 2, none⟩ (.slice (some ⟨g2, 0, none⟩) (k + 1) c2)) nv #[.slice (some ⟨r, 0, none⟩) G.length uc, .slice (some ⟨g1, 0, none⟩) (k + 1) c1, .slice (some ⟨g2, 0, none⟩) (k + 1) c2] := by simpa using H2x.set 2 (by simp) (.slice (some ⟨g2, 0, none⟩) (k + 1) c2)
                  have Rz4 := R2x.far (c := nv) (i := 2) (by omega) (.slice (some ⟨g2, 0, none⟩) (k + 1) c2)
                  have Bx4 := B2x.far (c := nv) (i := 2) (by omega) (.slice (some ⟨g2, 0, none⟩) (k + 1) c2)
                  have hb4 : Below w.heap.size w (y2.setCell ⟨nv, 2, none⟩ (.slice (some ⟨g2, 0, none⟩) (k + 1) c2)) := b2x.setCell (p := ⟨nv, 2, none⟩) (by simp; omega) _
                  have zs2 : y2.heap.size ≤ (y2.setCell ⟨nv, 2, none⟩ (.slice (some ⟨g2, 0, none⟩) (k + 1) c2)).heap.size := by simp [World.setCell]
                  have ow2 := own_only2 (own_only2 ow1 O2 (fun q hq h => by have e : r = q := (by injection hq); have b := (own_lt T2.o3 q h).1; omega)) (only_of_set y2 nv 2 (.slice (some ⟨g2, 0, none⟩) (k + 1) c2)) (fun q hq h => by have e : r = q := (by injection hq); omega)
                  have By2 := (By1.only O2 (nb2 _ (by omega))).far (c := nv) (i := 2) (by omega) (.slice (some ⟨g2, 0, none⟩) (k + 1) c2)
                  clear T2x H2x R2x B2x b2x hx2 hf2
                  generalize (y2.setCell ⟨nv, 2, none⟩ (.slice (some ⟨g2, 0, none⟩) (k + 1) c2)) = Y2 at *
                  go_wp2_with fail
                  go_roundw
                  case rel => exact ⟨k + 1, _, _, by omega, by go_num, T4, Hx4, ow2, Bx4, By2, Rz4, hb4⟩
                  case measure => simp [intOf]; omega
                · have D2 : (yn != 2) = true := by simpa using d2
                  rw [if_neg d2] at aw1
                  go_upto_region 27 with (first | (go_at_call 51; (with_reducible refine Calls.mono (hUI _) ?_); rintro e Yd ⟨rfl, rfl⟩) | (go_at_call 51; (with_reducible refine Calls.mono (hUW _) ?_); rintro e Yd ⟨rfl, rfl⟩))
                  clear px py pz pb
                  obtain ⟨_, hx, hf⟩ := id Hx
                  go_upto_region 28 with (at_builtin; (refine wpList_append_mine _ rfl _ _ 27 rfl (nv + 1) 21 i21 _ 1 4 Try.underlying27 hj hj0 hj1 hj2 rfl (by decide) (.slice a2 k e2) k (v32 k (inF A I (nxF G C A I W M))) rfl (own_bel T.o2 belN1) ⟨Yd.heap.size, 0, none⟩ 1 1 [.int .i32 1] rfl rfl (cells_at (W := Yd) rfl _ _) (all_one rfl) (by decide) (by unfold maxLen; omega) (by omega) (by simp; omega) ?_); intro g1 c1 y1 o1 hg1 hat1 _ _; have O1 := only_of_grown hg1; have at1 : (Value.slice a2 k e2).ownBlock = some g1 ∨ Yd.heap.size ≤ g1 := hat1.imp id (fun h => by simp at h; omega); rw [sI 1 in1.symm] at o1; have T1x := T3.app2 T O1 at1 o1; have nb1 : ∀ q, q < (nv + 1) → ¬ (Value.slice a2 k e2).ownBlock = some q := (fun q hq h => by have := (own_lt T.o2 q h).1; omega); have H1x := Hx.only O1 (nb1 _ (by omega)); have R1x := Rz.only O1 (nb1 _ (by omega)); have B1x := Bx.only O1 (nb1 _ (by omega)); have b1x := bel_only hb O1 (Nat.le_refl _) (fun q hq h => nb1 q (by omega) h); have zy1 := O1.size; obtain ⟨_, hx1, hf1⟩ := id H1x; clear hg1 hat1 o1)
                  have T2 := T1x.only (only_of_set y1 nv 1 (.slice (some ⟨g1, 0, none⟩) (k + 1) c1)) (fun q hq h => by omega)
                  have Hx2 : Has (y1.setCell ⟨nv, 1, none⟩ (.slice (some ⟨g1, 0, none⟩) (k + 1) c1)) nv #[.slice (some ⟨r, 0, none⟩) G.length uc, .slice (some ⟨g1, 0, none⟩) (k + 1) c1, .slice a3 k e3] := by simpa using H1x.set 1 (by simp) (.slice (some ⟨g1, 0, none⟩) (k + 1) c1)
                  have Rz2 := R1x.far (c := nv) (i := 1) (by omega) (.slice (some ⟨g1, 0, none⟩) (k + 1) c1)
                  have Bx2 := B1x.far (c := nv) (i := 1) (by omega) (.slice (some ⟨g1, 0, none⟩) (k + 1) c1)
                  have hb2 : Below w.heap.size w (y1.setCell ⟨nv, 1, none⟩ (.slice (some ⟨g1, 0, none⟩) (k + 1) c1)) := b1x.setCell (p := ⟨nv, 1, none⟩) (by simp; omega) _
                  have zs1 : y1.heap.size ≤ (y1.setCell ⟨nv, 1, none⟩ (.slice (some ⟨g1, 0, none⟩) (k + 1) c1)).heap.size := by simp [World.setCell]
                  have ow1 := own_only2 (own_only2 own O1 (fun q hq h => by have e : r = q := (by injection hq); have b := (own_lt T.o2 q h).1; omega)) (only_of_set y1 nv 1 (.slice (some ⟨g1, 0, none⟩) (k + 1) c1)) (fun q hq h => by have e : r = q := (by injection hq); omega)
                  have By1 := (By.only O1 (nb1 _ (by omega))).far (c := nv) (i := 1) (by omega) (.slice (some ⟨g1, 0, none⟩) (k + 1) c1)
                  clear T1x H1x R1x B1x b1x hx1 hf1
                  generalize (y1.setCell ⟨nv, 1, none⟩ (.slice (some ⟨g1, 0, none⟩) (k + 1) c1)) = Y1 at *
                  obtain ⟨_, hxb, hfb⟩ := id Hx2
                  go_upto_region 20 with (at_builtin; (refine wpList_append_mine _ rfl _ _ 27 rfl (nv + 1) 21 i21 _ 1 4 Try.underlying27 hj hj0 hj1 hj2 rfl (by decide) (.slice a3 k e3) k (v32 k (awF W (nxF G C A I W M))) rfl (own_bel T2.o3 belN1) ⟨Y1.heap.size, 0, none⟩ 1 1 [.int .i32 uw] rfl rfl (cells_at (W := Y1) rfl _ _) (all_one rfl) (by decide) (by unfold maxLen; omega) (by omega) (by simp; omega) ?_); intro g2 c2 y2 o2 hg2 hat2 _ _; have O2 := only_of_grown hg2; have at2 : (Value.slice a3 k e3).ownBlock = some g2 ∨ Y1.heap.size ≤ g2 := hat2.imp id (fun h => by simp at h; omega); rw [sW uw aw1.symm] at o2; have T2x := T3.app3 T2 O2 at2 o2; have nb2 : ∀ q, q < (nv + 1) → ¬ (Value.slice a3 k e3).ownBlock = some q := (fun q hq h => by have := (own_lt T2.o3 q h).1; omega); have H2x := Hx2.only O2 (nb2 _ (by omega)); have R2x := Rz2.only O2 (nb2 _ (by omega)); have B2x := Bx2.only O2 (nb2 _ (by omega)); have b2x := bel_only hb2 O2 (Nat.le_refl _) (fun q hq h => nb2 q (by omega) h); have zy2 := O2.size; obtain ⟨_, hx2, hf2⟩ := id H2x; clear hg2 hat2 o2)
                  have T4 := T2x.only (only_of_set y2 nv 2 (.slice (some ⟨g2, 0, none⟩) (k + 1) c2)) (fun q hq h => by omega)
                  have Hx4 : Has (y2.setCell ⟨nv, 2, none⟩ (.slice (some ⟨g2, 0, none⟩) (k + 1) c2)) nv #[.slice (some ⟨r, 0, none⟩) G.length uc, .slice (some ⟨g1, 0, none⟩) (k + 1) c1, .slice (some ⟨g2, 0, none⟩) (k + 1) c2] := by simpa using H2x.set 2 (by simp) (.slice (some ⟨g2, 0, none⟩) (k + 1) c2)
                  have Rz4 := R2x.far (c := nv) (i := 2) (by omega) (.slice (some ⟨g2, 0, none⟩) (k + 1) c2)
                  have Bx4 := B2x.far (c := nv) (i := 2) (by omega) (.slice (some ⟨g2, 0, none⟩) (k + 1) c2)
                  have hb4 : Below w.heap.size w (y2.setCell ⟨nv, 2, none⟩ (.slice (some ⟨g2, 0, none⟩) (k + 1) c2)) := b2x.setCell (p := ⟨nv, 2, none⟩) (by simp; omega) _
                  have zs2 : y2.heap.size ≤ (y2.setCell ⟨nv, 2, none⟩ (.slice (some ⟨g2, 0, none⟩) (k + 1) c2)).heap.size := by simp [World.setCell]
                  have ow2 := own_only2 (own_only2 ow1 O2 (fun q hq h => by have e : r = q := (by injection hq); have b := (own_lt T2.o3 q h).1; omega)) (only_of_set y2 nv 2 (.slice (some ⟨g2, 0, none⟩) (k + 1) c2)) (fun q hq h => by have e : r = q := (by injection hq); omega)
                  have By2 := (By1.only O2 (nb2 _ (by omega))).far (c := nv) (i := 2) (by omega) (.slice (some ⟨g2, 0, none⟩) (k + 1) c2)
                  clear T2x H2x R2x B2x b2x hx2 hf2
                  generalize (y2.setCell ⟨nv, 2, none⟩ (.slice (some ⟨g2, 0, none⟩) (k + 1) c2)) = Y2 at *
                  go_wp2_with fail
                  go_roundw
                  case rel => exact ⟨k + 1, _, _, by omega, by go_num, T4, Hx4, ow2, Bx4, By2, Rz4, hb4⟩
                  case measure => simp [intOf]; omega
            case neg =>
              have t1 : ¬ (k : Int) < (G.length : Int) := by omega
              have ek : k = G.length := by omega
              subst ek
              obtain ⟨_, r1, r2⟩ := id Rz
              obtain ⟨_, hx1, _⟩ := id Hx
              go_wp2_with fail
              have O : Only (fun q => q = w.heap.size + 1 + 1) wr (((wr.setCell ⟨w.heap.size + 1 + 1, 0, none⟩ (.slice ua G.length uc)).setCell ⟨w.heap.size + 1 + 1, 1, none⟩ (.slice a2 G.length e2)).setCell ⟨w.heap.size + 1 + 1, 2, none⟩ (.slice a3 G.length e3)) := ((only_of_set _ _ _ _).trans (only_of_set _ _ _ _)).trans (only_of_set _ _ _ _)
              have HH : Has (((wr.setCell ⟨w.heap.size + 1 + 1, 0, none⟩ (.slice ua G.length uc)).setCell ⟨w.heap.size + 1 + 1, 1, none⟩ (.slice a2 G.length e2)).setCell ⟨w.heap.size + 1 + 1, 2, none⟩ (.slice a3 G.length e3)) (w.heap.size + 1 + 1) #[.slice ua G.length uc, .slice a2 G.length e2, .slice a3 G.length e3] := by simpa using ((Rz.set 0 (by simp) (.slice ua G.length uc)).set 1 (by simp) (.slice a2 G.length e2)).set 2 (by simp) (.slice a3 G.length e3)
              have bF := bel_only hb O (Nat.le_refl _) (fun q hq h => by omega)
              have TF := T.only O (fun q hq h => by omega)
              have oF := own_only2 own O (fun q hq h => by have := (own_lt own q hq).1; omega)
              generalize (((wr.setCell ⟨w.heap.size + 1 + 1, 0, none⟩ (.slice ua G.length uc)).setCell ⟨w.heap.size + 1 + 1, 1, none⟩ (.slice a2 G.length e2)).setCell ⟨w.heap.size + 1 + 1, 2, none⟩ (.slice a3 G.length e3)) = WF at *
              obtain ⟨_, k1, _⟩ := id HH
              exact bodyPost_ret (v := .tuple #[.agg #[.slice ua G.length uc, .slice a2 G.length e2, .slice a3 G.length e3], .int .i64 0]) (by simp [results, Try.results31, go_sem, k1]) rfl ⟨⟨_, _, _, rfl, own_base oF (by omega), own_base TF.o2 (by omega), own_base TF.o3 (by omega), (fun q h1 h2 => by have := hu q h1; have := (own_lt TF.o2 q h2).1; omega), (fun q h1 h2 => by have := hu q h1; have := (own_lt TF.o3 q h2).1; omega), TF.d23⟩, bF⟩
end Go.Proofs.Ytbonmajnkbggcab
