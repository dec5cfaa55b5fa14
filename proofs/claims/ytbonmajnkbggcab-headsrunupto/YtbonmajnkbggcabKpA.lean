import Derived.Test.YtbonmajnkbggcabRmB
import Derived.Test.YtbonmajnkbggcabTbB
import Derived.Test.YtbonmajnkbggcabSmT
import Derived.Test.YtbonmajnkbggcabHqA
import Derived.Deep.RegionHeld3
namespace Go.Proofs.Ytbonmajnkbggcab
open Go.RowKit
set_option linter.unusedVariables false


theorem fl_cut {α : Type} {sz : Nat} {cs : α → List Value} (hl : ∀ x, (cs x).length = sz) {w : World} {base e g cap : Nat} {L : List α} {ms : List Value} (h : w.ownsRow base e sz (.slice (some ⟨g, 0, none⟩) (L.length + 1) cap) (L.length + 1) (cellsF cs L ++ ms)) : Fl sz cs w (.slice (some ⟨g, 0, none⟩) L.length cap) L := by
  refine .inr ⟨⟨g, 0, none⟩, cap, rfl, by have := own_cap h (by omega); omega, .inr ⟨rfl, (own_lt h g rfl).2, fun i hi j u hu => ?_⟩⟩
  have hj : j < sz := by have := (List.getElem?_eq_some_iff.1 hu).1; rw [hl] at this; exact this
  show w.cell? ⟨g, 0 + i * sz + j, none⟩ = some u
  rw [Nat.zero_add]
  refine own_reads h rfl _ _ ?_
  have hlt : i * sz + j < L.length * sz := by
    have h1 : (i + 1) * sz ≤ L.length * sz := Nat.mul_le_mul_right _ hi
    rw [Nat.succ_mul] at h1
    omega
  rw [List.getElem?_append_left (by rw [cellsF_len hl]; exact hlt), cellsF_get hl L i j hi hj]
  exact hu
theorem mark_cell {w : World} {base e sz m off g cap : Nat} {u : Value} {xs ms : List Value} (h : w.ownsRow base e sz (.slice (some ⟨g, 0, none⟩) (m + 1) cap) (m + 1) (xs ++ ms)) (hl : xs.length = m * sz) (h0 : ms[off]? = some u) : w.cell? ⟨g, m * sz + off, none⟩ = some u := by
  refine own_reads h rfl _ _ ?_
  rw [List.getElem?_append_right (by omega), hl, Nat.add_sub_cancel_left]; exact h0
theorem RoomR.below {B : Nat} {w w' : World} {G : List Gp} {C : List Cf} {A I W : List Int} {M : List Nat} {g1 e1 g2 e2 g3 e3 g4 e4 g5 e5 g6 e6 : Nat} (h : RoomR B w G C A I W M g1 e1 g2 e2 g3 e3 g4 e4 g5 e5 g6 e6) (hb : Below w.heap.size w w') : RoomR B w' G C A I W M g1 e1 g2 e2 g3 e3 g4 e4 g5 e5 g6 e6 :=
  ⟨own_bel h.fg hb, own_bel h.fc hb, own_bel h.fa hb, own_bel h.fi hb, own_bel h.fw hb, own_bel h.fm hb⟩
theorem RoomR.base {B B' : Nat} {w : World} {G : List Gp} {C : List Cf} {A I W : List Int} {M : List Nat} {g1 e1 g2 e2 g3 e3 g4 e4 g5 e5 g6 e6 : Nat} (h : RoomR B w G C A I W M g1 e1 g2 e2 g3 e3 g4 e4 g5 e5 g6 e6) (hb : B' ≤ B) : RoomR B' w G C A I W M g1 e1 g2 e2 g3 e3 g4 e4 g5 e5 g6 e6 :=
  ⟨own_base h.fg hb, own_base h.fc hb, own_base h.fa hb, own_base h.fi hb, own_base h.fw hb, own_base h.fm hb⟩
set_option maxRecDepth 100000 in
set_option maxHeartbeats 4000000 in
theorem kept_any (G : List Gp) (C : List Cf) (A I W : List Int) (M : List Nat) (vg vc v1 v2 v3 vm : Value) (g1 e1 g2 e2 g3 e3 g4 e4 g5 e5 g6 e6 : Nat) (w : World) (h1 : Fl 5 Gp.cs w vg G) (h2 : Fl 4 Cf.cs w vc C) (h3 : Fl 1 n64 w v1 A) (h4 : Fl 1 n32 w v2 I) (h5 : Fl 1 n32 w v3 W) (lG : G.length ≤ 2932031007317) (lC : C.length ≤ 4398046511000) (lA : A.length ≤ 17592186044000) (lI : I.length ≤ 35184372088000) (lW : W.length ≤ 35184372088000) (h6 : Fl 1 u64 w vm M) (lM : M.length ≤ 17592186044000) (R : RoomR 0 w G C A I W M g1 e1 g2 e2 g3 e3 g4 e4 g5 e5 g6 e6) :
    Calls Try.prog 20 #[.agg #[.slice (some ⟨g1, 0, none⟩) (G.length + 1) e1, .slice (some ⟨g2, 0, none⟩) (C.length + 1) e2, .slice (some ⟨g3, 0, none⟩) (A.length + 1) e3, .slice (some ⟨g4, 0, none⟩) (I.length + 1) e4, .slice (some ⟨g5, 0, none⟩) (W.length + 1) e5, .slice (some ⟨g6, 0, none⟩) (M.length + 1) e6], .agg #[vg, vc], .agg #[v1, v2, v3], vm] w fun e w' => e = .returned (.bool true) ∧ Below w.heap.size w w' := by
  have hTb := fun (X : World) => tables_any g1 g2 g3 g4 g5 g6 G.length C.length A.length I.length W.length M.length e1 e2 e3 e4 e5 e6 X (own_cap R.fg (by omega)) (by omega) (own_cap R.fc (by omega)) (by omega)
  have hHd := fun (X : World) => heads_any g1 g2 g3 g4 g5 g6 G.length C.length A.length I.length W.length M.length e1 e2 e3 e4 e5 e6 X (own_cap R.fa (by omega)) (by omega) (own_cap R.fi (by omega)) (by omega) (own_cap R.fw (by omega)) (by omega)
  have hTe := fun (X : World) (hX : Below w.heap.size w X) => tablesEqual_any G C _ _ vg vc X ((fl_cut gp_len R.fg).below hX) ((fl_cut cf_len R.fc).below hX) (h1.below hX) (h2.below hX) lG lC
  have hHe := fun (X : World) (hX : Below w.heap.size w X) => headsEqual_any A I W _ _ _ v1 v2 v3 X ((fl_cut n64_len R.fa).below hX) ((fl_cut n32_len R.fi).below hX) ((fl_cut n32_len R.fw).below hX) (h3.below hX) (h4.below hX) (h5.below hX) lA lI lW
  obtain ⟨ka, kc, kv, km⟩ := (fl_cut u64_len R.fm).nums
  cases kv
  obtain ⟨va, cg, rfl, -⟩ := h1.any
  obtain ⟨vb, cc, rfl, -⟩ := h2.any
  obtain ⟨vA, cA, rfl, -⟩ := h3.any
  obtain ⟨vI, cI, rfl, -⟩ := h4.any
  obtain ⟨vW, cW, rfl, -⟩ := h5.any
  obtain ⟨vM, cM, rfl, kM⟩ := h6.nums
  clear h1 h2 h3 h4 h5 h6
  have D00 : Has (((w.alloc (.cells #[.slice (some ⟨g1, 0, none⟩) (G.length + 1) e1, .slice (some ⟨g2, 0, none⟩) (C.length + 1) e2, .slice (some ⟨g3, 0, none⟩) (A.length + 1) e3, .slice (some ⟨g4, 0, none⟩) (I.length + 1) e4, .slice (some ⟨g5, 0, none⟩) (W.length + 1) e5, .slice (some ⟨g6, 0, none⟩) (M.length + 1) e6] 33)).alloc (.cells #[.slice va G.length cg, .slice vb C.length cc] 25)).alloc (.cells #[.slice vA A.length cA, .slice vI I.length cI, .slice vW W.length cW] 29)) w.heap.size #[.slice (some ⟨g1, 0, none⟩) (G.length + 1) e1, .slice (some ⟨g2, 0, none⟩) (C.length + 1) e2, .slice (some ⟨g3, 0, none⟩) (A.length + 1) e3, .slice (some ⟨g4, 0, none⟩) (I.length + 1) e4, .slice (some ⟨g5, 0, none⟩) (W.length + 1) e5, .slice (some ⟨g6, 0, none⟩) (M.length + 1) e6] := ((Has.new _ _ _ rfl).alloc _).alloc _
  have D01 : Has (((w.alloc (.cells #[.slice (some ⟨g1, 0, none⟩) (G.length + 1) e1, .slice (some ⟨g2, 0, none⟩) (C.length + 1) e2, .slice (some ⟨g3, 0, none⟩) (A.length + 1) e3, .slice (some ⟨g4, 0, none⟩) (I.length + 1) e4, .slice (some ⟨g5, 0, none⟩) (W.length + 1) e5, .slice (some ⟨g6, 0, none⟩) (M.length + 1) e6] 33)).alloc (.cells #[.slice va G.length cg, .slice vb C.length cc] 25)).alloc (.cells #[.slice vA A.length cA, .slice vI I.length cI, .slice vW W.length cW] 29)) (w.heap.size + 1) #[.slice va G.length cg, .slice vb C.length cc] := (Has.new _ _ _ (by simp)).alloc _
  have D02 : Has (((w.alloc (.cells #[.slice (some ⟨g1, 0, none⟩) (G.length + 1) e1, .slice (some ⟨g2, 0, none⟩) (C.length + 1) e2, .slice (some ⟨g3, 0, none⟩) (A.length + 1) e3, .slice (some ⟨g4, 0, none⟩) (I.length + 1) e4, .slice (some ⟨g5, 0, none⟩) (W.length + 1) e5, .slice (some ⟨g6, 0, none⟩) (M.length + 1) e6] 33)).alloc (.cells #[.slice va G.length cg, .slice vb C.length cc] 25)).alloc (.cells #[.slice vA A.length cA, .slice vI I.length cI, .slice vW W.length cW] 29)) (w.heap.size + 1 + 1) #[.slice vA A.length cA, .slice vI I.length cI, .slice vW W.length cW] := Has.new _ _ _ (by simp)
  have H0 : Below w.heap.size w (((w.alloc (.cells #[.slice (some ⟨g1, 0, none⟩) (G.length + 1) e1, .slice (some ⟨g2, 0, none⟩) (C.length + 1) e2, .slice (some ⟨g3, 0, none⟩) (A.length + 1) e3, .slice (some ⟨g4, 0, none⟩) (I.length + 1) e4, .slice (some ⟨g5, 0, none⟩) (W.length + 1) e5, .slice (some ⟨g6, 0, none⟩) (M.length + 1) e6] 33)).alloc (.cells #[.slice va G.length cg, .slice vb C.length cc] 25)).alloc (.cells #[.slice vA A.length cA, .slice vI I.length cI, .slice vW W.length cW] 29)) := bel3
  have z1 := (own_lt R.fg g1 rfl).2
  have z2 := (own_lt R.fc g2 rfl).2
  have z3 := (own_lt R.fa g3 rfl).2
  have z4 := (own_lt R.fi g4 rfl).2
  have z5 := (own_lt R.fw g5 rfl).2
  have z6 := (own_lt R.fm g6 rfl).2
  have q0 := (H0.cell (p := ⟨g1, _, none⟩) z1).trans (mark_cell (off := 0) R.fg (cellsF_len gp_len G) rfl)
  have q1 := (H0.cell (p := ⟨g1, _, none⟩) z1).trans (mark_cell (off := 1) R.fg (cellsF_len gp_len G) rfl)
  have q2 := (H0.cell (p := ⟨g1, _, none⟩) z1).trans (mark_cell (off := 2) R.fg (cellsF_len gp_len G) rfl)
  have q3 := (H0.cell (p := ⟨g1, _, none⟩) z1).trans (mark_cell (off := 3) R.fg (cellsF_len gp_len G) rfl)
  have q4 := (H0.cell (p := ⟨g1, _, none⟩) z1).trans (mark_cell (off := 4) R.fg (cellsF_len gp_len G) rfl)
  have r0 := (H0.cell (p := ⟨g2, _, none⟩) z2).trans (mark_cell (off := 0) R.fc (cellsF_len cf_len C) rfl)
  have r1 := (H0.cell (p := ⟨g2, _, none⟩) z2).trans (mark_cell (off := 1) R.fc (cellsF_len cf_len C) rfl)
  have r2 := (H0.cell (p := ⟨g2, _, none⟩) z2).trans (mark_cell (off := 2) R.fc (cellsF_len cf_len C) rfl)
  have r3 := (H0.cell (p := ⟨g2, _, none⟩) z2).trans (mark_cell (off := 3) R.fc (cellsF_len cf_len C) rfl)
  have s3 := (H0.cell (p := ⟨g3, _, none⟩) z3).trans (mark_cell (off := 0) R.fa (cellsF_len n64_len A) rfl)
  have s4 := (H0.cell (p := ⟨g4, _, none⟩) z4).trans (mark_cell (off := 0) R.fi (cellsF_len n32_len I) rfl)
  have s5 := (H0.cell (p := ⟨g5, _, none⟩) z5).trans (mark_cell (off := 0) R.fw (cellsF_len n32_len W) rfl)
  have s6 := (H0.cell (p := ⟨g6, _, none⟩) z6).trans (mark_cell (off := 0) R.fm (cellsF_len u64_len M) rfl)
  simp only [Nat.add_zero, Nat.mul_one] at q0 r0 s3 s4 s5 s6
  clear R
  go_enter Try.func20, Try.ntmps20
  go_upto_region 1 with fail
  generalize (((w.alloc (.cells #[.slice (some ⟨g1, 0, none⟩) (G.length + 1) e1, .slice (some ⟨g2, 0, none⟩) (C.length + 1) e2, .slice (some ⟨g3, 0, none⟩) (A.length + 1) e3, .slice (some ⟨g4, 0, none⟩) (I.length + 1) e4, .slice (some ⟨g5, 0, none⟩) (W.length + 1) e5, .slice (some ⟨g6, 0, none⟩) (M.length + 1) e6] 33)).alloc (.cells #[.slice va G.length cg, .slice vb C.length cc] 25)).alloc (.cells #[.slice vA A.length cA, .slice vI I.length cI, .slice vW W.length cW] 29)) = W0 at *
  obtain ⟨_, y0, _⟩ := id D00
  obtain ⟨_, y1, _⟩ := id D01
  obtain ⟨_, y2, _⟩ := id D02
  have i1 : (G.length : Int) < ((G.length + 1 : Nat) : Int) := by omega
  have i2 : (C.length : Int) < ((C.length + 1 : Nat) : Int) := by omega
  have i3 : (A.length : Int) < ((A.length + 1 : Nat) : Int) := by omega
  have i4 : (I.length : Int) < ((I.length + 1 : Nat) : Int) := by omega
  have i5 : (W.length : Int) < ((W.length + 1 : Nat) : Int) := by omega
  have i6 : (M.length : Int) < ((M.length + 1 : Nat) : Int) := by omega
  go_wp2
  go_loopw [9] (fun t wr => ∃ k q : Nat, k ≤ M.length ∧ t = .int .i64 (k : Int) ∧ wr = W0.drewN q) (fun t _ => M.length - (intOf t).toNat)
  case atStart => exact ⟨0, 0, by omega, rfl, rfl⟩
  case round =>
    clear q0 q1 q2 q3 q4 r0 r1 r2 r3 s3 s4 s5 s6 i1 i2 i3 i4 i5 y1 y2
    obtain ⟨k, q, hk, rfl, rfl⟩ := hrel
    by_cases hlt : k < M.length
    · obtain ⟨gm, om, rfl, hgm, PM⟩ := kM.resolve_left (by intro e; rw [e] at hlt; simp at hlt)
      obtain ⟨gn, on, en, hgn, PN⟩ := km.resolve_left (by intro e; rw [e] at hlt; simp at hlt)
      cases en
      have p0 := (H0.cell (p := ⟨gm, _, none⟩) hgm).trans (PM k hlt _ rfl)
      have p1 := (H0.cell (p := ⟨g6, _, none⟩) hgn).trans (PN k hlt _ rfl)
      rw [Nat.zero_add] at p1
      have t1 : (k : Int) < (M.length : Int) := by omega
      have t0 : (0 : Int) ≤ (k : Int) := by omega
      have t3 : (k : Int) < ((M.length + 1 : Nat) : Int) := by omega
      have t2 : k + 1 ≤ M.length := hlt
      generalize M[k] = x0 at *
      clear PM PN kM km
      go_wp2
      go_quiet (fail)
      go_wp2
      go_roundw
      case rel => exact ⟨k + 1, q + nq, by omega, by go_num, rfl⟩
      case measure => simp [intOf]; omega
    · have t1 : ¬ (k : Int) < (M.length : Int) := by omega
      clear kM km y0
      go_upto_region 10 with fail
      replace D00 := (D00.drewN q).drew
      replace D01 := (D01.drewN q).drew
      replace D02 := (D02.drewN q).drew
      replace H0 := (bel_drewN (n := q) H0).drew
      refine wp_region_noPanic ?_
      refine wp_region_held_drew (S := fun w' => (w'.cell? ⟨w.heap.size, 0, none⟩ = some (.slice (some ⟨g1, 0, none⟩) (G.length + 1) e1) ∧ w'.cell? ⟨w.heap.size, 1, none⟩ = some (.slice (some ⟨g2, 0, none⟩) (C.length + 1) e2) ∧ w'.cell? ⟨w.heap.size, 2, none⟩ = some (.slice (some ⟨g3, 0, none⟩) (A.length + 1) e3) ∧ w'.cell? ⟨w.heap.size, 3, none⟩ = some (.slice (some ⟨g4, 0, none⟩) (I.length + 1) e4) ∧ w'.cell? ⟨w.heap.size, 4, none⟩ = some (.slice (some ⟨g5, 0, none⟩) (W.length + 1) e5) ∧ w'.cell? ⟨w.heap.size, 5, none⟩ = some (.slice (some ⟨g6, 0, none⟩) (M.length + 1) e6)) ∧ (w'.cell? ⟨w.heap.size + 1, 0, none⟩ = some (.slice va G.length cg) ∧ w'.cell? ⟨w.heap.size + 1, 1, none⟩ = some (.slice vb C.length cc)) ∧ (w'.cell? ⟨w.heap.size + 1 + 1, 0, none⟩ = some (.slice vA A.length cA) ∧ w'.cell? ⟨w.heap.size + 1 + 1, 1, none⟩ = some (.slice vI I.length cI) ∧ w'.cell? ⟨w.heap.size + 1 + 1, 2, none⟩ = some (.slice vW W.length cW))) (by kernel_rfl) ?_ (fun hHeld => ?_)
      · (try dsimp only)
        exact ⟨has6 D00, has2b D01, has3 D02⟩
      refine wpAnyH_take (i := 0) (oi := { dst := some 88, op := Op.load 33 (Operand.tmp 4), type := 33, pos := "headslaw.go:112", after := #[], guard := none }) (v := ?_) rfl (by kernel_rfl) (by kernel_rfl) (by kernel_rfl) (fun _ _ _ h => h) (Or.inl ⟨by rfl, ?_⟩) (by assumption) ?_
      rotate_left
      · intro wz hSz; (try dsimp only at hSz); go_simp; all_goals (with_reducible rfl)
      (try simp only [Act.put, List.setIfInBounds_toArray, List.set_cons_zero, List.set_cons_succ])
      refine wpAnyH_take (i := 2) (oi := { dst := some 90, op := Op.load 25 (Operand.tmp 5), type := 25, pos := "headslaw.go:112", after := #[], guard := none }) (v := ?_) rfl (by kernel_rfl) (by kernel_rfl) (by kernel_rfl) (fun _ _ _ h => h) (Or.inl ⟨by rfl, ?_⟩) (by assumption) ?_
      rotate_left
      · intro wz hSz; (try dsimp only at hSz); go_simp; all_goals (with_reducible rfl)
      (try simp only [Act.put, List.setIfInBounds_toArray, List.set_cons_zero, List.set_cons_succ])
      refine wpAnyH_ready (rs := [1]) (by kernel_rfl) (by simp) ?_
      refine AllReadyH.cons (o := { dst := some 89, op := Op.call { callee := Callee.value (Operand.func 10), args := #[Operand.tmp 88], argTypes := #[33] }, type := 25, pos := "headslaw.go:112", after := #[{ on := 0, ground := Ground.data }], guard := none }) rfl (fun K hK => ?_) AllReadyH.nil
      go_simp
      (go_at_call 10; (with_reducible refine Calls.mono (hTb _) ?_); rintro e w1 ⟨rfl, hb1⟩; have H1 := bel_after H0 H0.size hb1; have D10 := D00.below hb1; have D11 := D01.below hb1; have D12 := D02.below hb1; clear hb1)
      go_wp2_with fail
      refine hK.out _ _ ?_ (fun hHeld => ?_)
      · (try dsimp only)
        exact ⟨has6 D10, has2b D11, has3 D12⟩
      clear hK K
      (try simp only [Act.put, List.setIfInBounds_toArray, List.set_cons_zero, List.set_cons_succ])
      refine wpAnyH_ready (rs := [3]) (by kernel_rfl) (by simp) ?_
      refine AllReadyH.cons (o := { dst := some 91, op := Op.call { callee := Callee.value (Operand.func 43), args := #[Operand.tmp 89, Operand.tmp 90], argTypes := #[25, 25] }, type := 4, pos := "headslaw.go:112", after := #[{ on := 1, ground := Ground.data }, { on := 2, ground := Ground.data }, { on := 1, ground := Ground.chain }], guard := none }) rfl (fun K hK => ?_) AllReadyH.nil
      go_simp
      (go_at_call 43; (with_reducible refine Calls.mono (hTe _ (by exact H1)) ?_); rintro e w2 ⟨rfl, hb2⟩; have H2 := bel_after H1 H1.size hb2; have D20 := D10.below hb2; have D21 := D11.below hb2; have D22 := D12.below hb2; clear hb2)
      go_wp2_with fail
      refine hK.out _ _ ?_ (fun hHeld => ?_)
      · (try dsimp only)
        exact ⟨has6 D20, has2b D21, has3 D22⟩
      clear hK K
      (try simp only [Act.put, List.setIfInBounds_toArray, List.set_cons_zero, List.set_cons_succ])
      refine wpAnyH_take (i := 4) (oi := { dst := some 92, op := Op.move (Operand.tmp 91), type := 4, pos := "headslaw.go:112", after := #[{ on := 3, ground := Ground.data }, { on := 3, ground := Ground.chain }], guard := none }) (v := ?_) rfl (by kernel_rfl) (by kernel_rfl) (by kernel_rfl) (fun _ _ _ h => h) (Or.inl ⟨by rfl, ?_⟩) (by assumption) ?_
      rotate_left
      · intro wz hSz; (try dsimp only at hSz); go_simp; all_goals (with_reducible rfl)
      (try simp only [Act.put, List.setIfInBounds_toArray, List.set_cons_zero, List.set_cons_succ])
      refine wpAnyH_take (i := 5) (oi := { dst := some 93, op := Op.load 33 (Operand.tmp 4), type := 33, pos := "headslaw.go:112", after := #[{ on := 4, ground := Ground.guard }], guard := some (4, true) }) (v := ?_) rfl (by kernel_rfl) (by kernel_rfl) (by kernel_rfl) (fun _ _ _ h => h) (Or.inl ⟨by rfl, ?_⟩) (by assumption) ?_
      rotate_left
      · intro wz hSz; (try dsimp only at hSz); go_simp; all_goals (with_reducible rfl)
      (try simp only [Act.put, List.setIfInBounds_toArray, List.set_cons_zero, List.set_cons_succ])
      refine wpAnyH_take (i := 7) (oi := { dst := some 95, op := Op.load 29 (Operand.tmp 6), type := 29, pos := "headslaw.go:112", after := #[{ on := 4, ground := Ground.guard }], guard := some (4, true) }) (v := ?_) rfl (by kernel_rfl) (by kernel_rfl) (by kernel_rfl) (fun _ _ _ h => h) (Or.inl ⟨by rfl, ?_⟩) (by assumption) ?_
      rotate_left
      · intro wz hSz; (try dsimp only at hSz); go_simp; all_goals (with_reducible rfl)
      (try simp only [Act.put, List.setIfInBounds_toArray, List.set_cons_zero, List.set_cons_succ])
      refine wpAnyH_ready (rs := [6]) (by kernel_rfl) (by simp) ?_
      refine AllReadyH.cons (o := { dst := some 94, op := Op.call { callee := Callee.value (Operand.func 11), args := #[Operand.tmp 93], argTypes := #[33] }, type := 29, pos := "headslaw.go:112", after := #[{ on := 5, ground := Ground.data }, { on := 4, ground := Ground.chain }, { on := 4, ground := Ground.guard }], guard := some (4, true) }) rfl (fun K hK => ?_) AllReadyH.nil
      go_simp
      (go_at_call 11; (with_reducible refine Calls.mono (hHd _) ?_); rintro e w3 ⟨rfl, hb3⟩; have H3 := bel_after H2 H2.size hb3; have D30 := D20.below hb3; have D31 := D21.below hb3; have D32 := D22.below hb3; clear hb3)
      go_wp2_with fail
      refine hK.out _ _ ?_ (fun hHeld => ?_)
      · (try dsimp only)
        exact ⟨has6 D30, has2b D31, has3 D32⟩
      clear hK K
      (try simp only [Act.put, List.setIfInBounds_toArray, List.set_cons_zero, List.set_cons_succ])
      refine wpAnyH_ready (rs := [8]) (by kernel_rfl) (by simp) ?_
      refine AllReadyH.cons (o := { dst := some 96, op := Op.call { callee := Callee.value (Operand.func 26), args := #[Operand.tmp 94, Operand.tmp 95], argTypes := #[29, 29] }, type := 4, pos := "headslaw.go:112", after := #[{ on := 6, ground := Ground.data }, { on := 7, ground := Ground.data }, { on := 6, ground := Ground.chain }, { on := 4, ground := Ground.guard }], guard := some (4, true) }) rfl (fun K hK => ?_) AllReadyH.nil
      go_simp
      (go_at_call 26; (with_reducible refine Calls.mono (hHe _ (by exact H3)) ?_); rintro e w4 ⟨rfl, hb4⟩; have H4 := bel_after H3 H3.size hb4; have D40 := D30.below hb4; have D41 := D31.below hb4; have D42 := D32.below hb4; clear hb4)
      go_wp2_with fail
      refine hK.out _ _ ?_ (fun hHeld => ?_)
      · (try dsimp only)
        exact ⟨has6 D40, has2b D41, has3 D42⟩
      clear hK K
      (try simp only [Act.put, List.setIfInBounds_toArray, List.set_cons_zero, List.set_cons_succ])
      refine wpAnyH_take (i := 9) (oi := { dst := some 97, op := Op.pick (Operand.tmp 92) (Operand.tmp 96) (Operand.const (Value.bool false)), type := 4, pos := "headslaw.go:112", after := #[{ on := 4, ground := Ground.data }, { on := 8, ground := Ground.data }], guard := none }) (v := ?_) rfl (by kernel_rfl) (by kernel_rfl) (by kernel_rfl) (fun _ _ _ h => h) (Or.inl ⟨by rfl, ?_⟩) (by assumption) ?_
      rotate_left
      · intro wz hSz; (try dsimp only at hSz); go_simp; all_goals (with_reducible rfl)
      (try simp only [Act.put, List.setIfInBounds_toArray, List.set_cons_zero, List.set_cons_succ])
      refine wpAnyH_take (i := 10) (oi := { dst := some 8, op := Op.assign (Operand.tmp 97), type := 4, pos := "headslaw.go:112", after := #[{ on := 9, ground := Ground.data }, { on := 8, ground := Ground.chain }, { on := 0, ground := Ground.phase }, { on := 1, ground := Ground.phase }, { on := 2, ground := Ground.phase }, { on := 3, ground := Ground.phase }, { on := 4, ground := Ground.phase }, { on := 5, ground := Ground.phase }, { on := 6, ground := Ground.phase }, { on := 7, ground := Ground.phase }, { on := 8, ground := Ground.phase }, { on := 9, ground := Ground.phase }], guard := none }) (v := ?_) rfl (by kernel_rfl) (by kernel_rfl) (by kernel_rfl) (fun _ _ _ h => h) (Or.inl ⟨by rfl, ?_⟩) (by assumption) ?_
      rotate_left
      · intro wz hSz; (try dsimp only at hSz); go_simp; all_goals (with_reducible rfl)
      (try simp only [Act.put, List.setIfInBounds_toArray, List.set_cons_zero, List.set_cons_succ])
      refine wpAnyH_done (by kernel_rfl) ?_ _
      refine NoPanic.normal ?_
      go_wp2_with fail
      go_ret
      exact ⟨rfl, H4⟩
end Go.Proofs.Ytbonmajnkbggcab
