import Derived.Test.YtjfieclmagbfbaaGreatDoorJBnC
set_option linter.unusedSimpArgs false
set_option linter.unusedVariables false
set_option maxRecDepth 100000
set_option maxHeartbeats 8000000
namespace Go.Proofs.YtjfieclmagbfbaaGreatDoor
open Go.RowKit
theorem zFp (L : List Nd) (v u : Value) (w : World) (h1 : Fl 5 Nd.cs w v L) (h2 : Fl 5 Nd.cs w u L) (hG : L.length ≤ 2932031007317) :
  Calls Tryz.prog 75 #[v, u] w fun e w' => e = .returned (.bool true) ∧ Below w.heap.size w w' := by
 obtain ⟨a1, c1, rfl, k1⟩ := h1.any
 obtain ⟨a3, c3, rfl, k3⟩ := h2.any
 clear h1 h2
 go_enter Tryz.func75, Tryz.ntmps75
 go_wp2_with fail
 go_loopw [5] (fun t wr => ∃ k q : Nat, k ≤ L.length ∧ t = .int .i64 (k : Int) ∧ wr = w.drewN q) (fun t _ => L.length - (intOf t).toNat)
 case atStart => exact ⟨0, 0, by omega, rfl, rfl⟩
 case round =>
  obtain ⟨k, q, hk, rfl, rfl⟩ := hrel
  by_cases hlt : k < L.length
  ·obtain ⟨g1, o1, rfl, hg1, P1⟩ := k1.resolve_left (by intro e; rw [e] at hlt; simp at hlt)
   obtain ⟨g3, o3, rfl, hg3, P3⟩ := k3.resolve_left (by intro e; rw [e] at hlt; simp at hlt); have p0 := (P1 k hlt 0 _ rfl); have p1 := (P1 k hlt 1 _ rfl); have p2 := (P1 k hlt 2 _ rfl); have p3 := (P1 k hlt 3 _ rfl); have p4 := (P1 k hlt 4 _ rfl); have r0 := (P3 k hlt 0 _ rfl); have r1 := (P3 k hlt 1 _ rfl); have r2 := (P3 k hlt 2 _ rfl); have r3 := (P3 k hlt 3 _ rfl); have r4 := (P3 k hlt 4 _ rfl); simp only [Nat.add_zero] at p0 r0; have t1 : (k : Int) < (L.length : Int) := by omega
   have t0 : (0 : Int) ≤ (k : Int) := by omega
   have t2 : k + 1 ≤ L.length := hlt; generalize L[k].op = x0 at *; generalize L[k].val = x1 at *; generalize L[k].name = x2 at *; generalize L[k].line = x3 at *; generalize L[k].col = x4 at *; clear P1 P3 k1 k3; go_wp2
   go_quiet (fail)
   go_wp2; go_roundw
   case rel => exact ⟨k + 1, q + nq, by omega, by go_num, rfl⟩
   case measure => simp [intOf]; omega
  ·have t1 : ¬ (k : Int) < (L.length : Int) := by omega
   clear k1 k3; go_wp2; go_ret; exact ⟨rfl, below_drewN _ _⟩
theorem zEp (L : List ByteArray) (v u : Value) (w : World) (h1 : Fl 1 txC w v L) (h2 : Fl 1 txC w u L) (hG : L.length ≤ 8796093022100) :
  Calls Tryz.prog 51 #[v, u] w fun e w' => e = .returned (.bool true) ∧ Below w.heap.size w w' := by
 obtain ⟨a1, c1, rfl, k1⟩ := h1.any
 obtain ⟨a3, c3, rfl, k3⟩ := h2.any
 clear h1 h2
 go_enter Tryz.func51, Tryz.ntmps51
 go_wp2_with fail
 go_loopw [5] (fun t wr => ∃ k q : Nat, k ≤ L.length ∧ t = .int .i64 (k : Int) ∧ wr = w.drewN q) (fun t _ => L.length - (intOf t).toNat)
 case atStart => exact ⟨0, 0, by omega, rfl, rfl⟩
 case round =>
  obtain ⟨k, q, hk, rfl, rfl⟩ := hrel
  by_cases hlt : k < L.length
  ·obtain ⟨g1, o1, rfl, hg1, P1⟩ := k1.resolve_left (by intro e; rw [e] at hlt; simp at hlt)
   obtain ⟨g3, o3, rfl, hg3, P3⟩ := k3.resolve_left (by intro e; rw [e] at hlt; simp at hlt); have p0 := (P1 k hlt 0 _ rfl); have r0 := (P3 k hlt 0 _ rfl); simp only [Nat.add_zero, Nat.mul_one] at p0 r0; have t1 : (k : Int) < (L.length : Int) := by omega
   have t0 : (0 : Int) ≤ (k : Int) := by omega
   have t2 : k + 1 ≤ L.length := hlt; generalize L[k] = x0 at *; clear P1 P3 k1 k3; go_wp2
   go_quiet (fail)
   go_wp2; go_roundw
   case rel => exact ⟨k + 1, q + nq, by omega, by go_num, rfl⟩
   case measure => simp [intOf]; omega
  ·have t1 : ¬ (k : Int) < (L.length : Int) := by omega
   clear k1 k3; go_wp2; go_ret; exact ⟨rfl, below_drewN _ _⟩
theorem zEa (L : List St) (v u : Value) (S1 S2 : Nat → Prop) (w : World) (h1 : Sts S1 w v L) (h2 : Sts S2 w u L) :
  Calls Tryz.prog 76 #[v, u] w fun e w' => e = .returned (.bool true) ∧ Below w.heap.size w w' := by
 obtain ⟨a1, c1, rfl, hlen, k1⟩ := Rows.any h1
 obtain ⟨a3, c3, rfl, -, k3⟩ := Rows.any h2
 clear h1 h2
 go_enter Tryz.func76, Tryz.ntmps76
 go_wp2_with fail
 go_loopw [5] (fun t wr => ∃ k : Nat, k ≤ L.length ∧ t = .int .i64 (k : Int) ∧ Hid (Below w.heap.size w wr)) (fun t _ => L.length - (intOf t).toNat)
 case atStart => exact ⟨0, by omega, rfl, Below.refl _ _⟩
 case round =>
  obtain ⟨k, hk, rfl, hb'⟩ := hrel; have hb := hb'.out
  by_cases hlt : k < L.length
  ·obtain ⟨g1, o1, rfl, _, hg1, P1⟩ := k1.resolve_left (by intro e; rw [e] at hlt; simp at hlt)
   obtain ⟨g3, o3, rfl, _, hg3, P3⟩ := k3.resolve_left (by intro e; rw [e] at hlt; simp at hlt); obtain ⟨cs1, _, ⟨v1, rfl, q1⟩, P1⟩ := P1 k hlt; obtain ⟨cs3, _, ⟨v3, rfl, q3⟩, P3⟩ := P3 k hlt; have hl5 : L[k].expr.length ≤ 2932031007317 := Rows.le q1; obtain ⟨va1, vc1, rfl, -⟩ := Rows.any q1; obtain ⟨va3, vc3, rfl, -⟩ := Rows.any q3; have hN := fun (X : World) (hX : Below w.heap.size w X) => zFp L[k].expr _ _ X ((Exs.flat q1).below hX) ((Exs.flat q3).below hX) hl5
   have p0 := (hb.cell (p := ⟨g1, _, none⟩) hg1).trans (P1 0 _ rfl); have r0 := (hb.cell (p := ⟨g3, _, none⟩) hg3).trans (P3 0 _ rfl); have p1 := (hb.cell (p := ⟨g1, _, none⟩) hg1).trans (P1 1 _ rfl); have r1 := (hb.cell (p := ⟨g3, _, none⟩) hg3).trans (P3 1 _ rfl); have p2 := (hb.cell (p := ⟨g1, _, none⟩) hg1).trans (P1 2 _ rfl); have r2 := (hb.cell (p := ⟨g3, _, none⟩) hg3).trans (P3 2 _ rfl); have p3 := (hb.cell (p := ⟨g1, _, none⟩) hg1).trans (P1 3 _ rfl); have r3 := (hb.cell (p := ⟨g3, _, none⟩) hg3).trans (P3 3 _ rfl); have p4 := (hb.cell (p := ⟨g1, _, none⟩) hg1).trans (P1 4 _ rfl); have r4 := (hb.cell (p := ⟨g3, _, none⟩) hg3).trans (P3 4 _ rfl); have p5 := (hb.cell (p := ⟨g1, _, none⟩) hg1).trans (P1 5 _ rfl); have r5 := (hb.cell (p := ⟨g3, _, none⟩) hg3).trans (P3 5 _ rfl); simp only [Nat.add_zero] at p0 r0; have t1 : (k : Int) < (L.length : Int) := by omega
   have t0 : (0 : Int) ≤ (k : Int) := by omega
   have hbn0 : Below w.heap.size w wr.drew := hb.drew; clear P1 P3 k1 k3 q1 q3; generalize L[k].expr.length = nx at *; generalize L[k].kind = x0 at *; generalize L[k].name = x1 at *; generalize L[k].ix = x2 at *; generalize L[k].line = x4 at *; generalize L[k].col = x5 at *
   go_wp2_with fail
   refine wp_region_noPanic ?_; refine wp_region_held_drew (S := fun w' => w'.cell? ⟨g1, o1 + k * 6, none⟩ = some (.int .i64 x0) ∧ w'.cell? ⟨g1, o1 + k * 6 + 1, none⟩ = some (.string x1) ∧ w'.cell? ⟨g1, o1 + k * 6 + 2, none⟩ = some (.int .i64 x2) ∧ w'.cell? ⟨g1, o1 + k * 6 + 3, none⟩ = some (.slice va1 nx vc1) ∧ w'.cell? ⟨g1, o1 + k * 6 + 4, none⟩ = some (.int .i64 x4) ∧ w'.cell? ⟨g1, o1 + k * 6 + 5, none⟩ = some (.int .i64 x5) ∧ w'.cell? ⟨g3, o3 + k * 6, none⟩ = some (.int .i64 x0) ∧ w'.cell? ⟨g3, o3 + k * 6 + 1, none⟩ = some (.string x1) ∧ w'.cell? ⟨g3, o3 + k * 6 + 2, none⟩ = some (.int .i64 x2) ∧ w'.cell? ⟨g3, o3 + k * 6 + 3, none⟩ = some (.slice va3 nx vc3) ∧ w'.cell? ⟨g3, o3 + k * 6 + 4, none⟩ = some (.int .i64 x4) ∧ w'.cell? ⟨g3, o3 + k * 6 + 5, none⟩ = some (.int .i64 x5)) (by kernel_rfl) ?_ (fun hHeld => ?_)
   ·(try dsimp only)
    exact ⟨p0, p1, p2, p3, p4, p5, r0, r1, r2, r3, r4, r5⟩
   refine tkY 0 ?_; refine tkY 1 ?_; refine tkY 2 ?_; refine tkY 3 ?_; refine tkY 4 ?_; refine tkY 5 ?_; refine tkY 6 ?_; refine tkY 7 ?_; refine tkY 8 ?_; refine tkY 9 ?_; refine tkY 10 ?_; refine tkY 11 ?_; refine tkY 12 ?_; refine tkY 13 ?_; refine tkY 14 ?_; refine tkY 15 ?_; refine tkY 16 ?_; refine tkY 17 ?_; refine tkY 18 ?_; refine tkY 19 ?_; refine tkY 20 ?_; refine tkY 21 ?_; refine tkY 22 ?_; refine tkY 23 ?_; refine tkY 24 ?_; refine tkY 25 ?_; refine tkY 26 ?_; refine tkY 27 ?_; refine tkY 28 ?_; refine tkY 29 ?_; refine tkY 30 ?_; refine tkY 31 ?_; refine tkY 32 ?_; refine tkY 33 ?_; refine tkY 34 ?_; refine tkY 35 ?_; refine tkY 36 ?_; refine tkY 37 ?_; refine tkY 38 ?_; refine tkY 39 ?_; refine tkY 40 ?_; refine tkY 41 ?_; refine tkY 42 ?_; refine tkY 43 ?_; refine tkY 44 ?_; refine tkY 45 ?_; refine tkY 46 ?_; refine tkY 47 ?_; refine tkY 48 ?_; refine tkY 49 ?_; refine tkY 50 ?_; refine tkY 51 ?_; refine tkY 52 ?_; refine tkY 53 ?_; refine tkY 54 ?_; refine tkY 55 ?_; refine tkY 56 ?_; refine tkY 57 ?_; refine tkY 58 ?_; refine tkY 59 ?_; refine tkY 60 ?_; refine wpAnyH_ready (rs := [61]) (by kernel_rfl) (by simp) ?_; refine AllReadyH.cons (o := ⟨some 78, .call { callee := Callee.value (.func 75), args := #[.tmp 72, .tmp 77], argTypes := #[56, 56] }, 4, "sound.go:283", #[⟨55, .data⟩, ⟨60, .data⟩, ⟨50, .chain⟩, ⟨50, .guard⟩], some (50, false)⟩) rfl (fun K hK => ?_) AllReadyH.nil
   go_simp
   go_at_call 75
   (with_reducible refine Calls.mono (hN _ (by exact hbn0)) ?_)
   rintro e wn ⟨rfl, hbn⟩
   go_wp2_with fail
   refine hK.out _ _ ?_ (fun hHeld => ?_)
   ·(try dsimp only)
    obtain ⟨h0, h1, h2, h3, h4, h5, h6, h7, h8, h9, h10, h11⟩ := hHeld; exact ⟨(hbn.cell (p := ⟨g1, _, none⟩) (zAb h0)).trans h0, (hbn.cell (p := ⟨g1, _, none⟩) (zAb h1)).trans h1, (hbn.cell (p := ⟨g1, _, none⟩) (zAb h2)).trans h2, (hbn.cell (p := ⟨g1, _, none⟩) (zAb h3)).trans h3, (hbn.cell (p := ⟨g1, _, none⟩) (zAb h4)).trans h4, (hbn.cell (p := ⟨g1, _, none⟩) (zAb h5)).trans h5, (hbn.cell (p := ⟨g3, _, none⟩) (zAb h6)).trans h6, (hbn.cell (p := ⟨g3, _, none⟩) (zAb h7)).trans h7, (hbn.cell (p := ⟨g3, _, none⟩) (zAb h8)).trans h8, (hbn.cell (p := ⟨g3, _, none⟩) (zAb h9)).trans h9, (hbn.cell (p := ⟨g3, _, none⟩) (zAb h10)).trans h10, (hbn.cell (p := ⟨g3, _, none⟩) (zAb h11)).trans h11⟩
   clear hK K
   (try simp only [Act.put, List.setIfInBounds_toArray, List.set_cons_zero, List.set_cons_succ])
   refine tkY 62 ?_; refine tkY 63 ?_; refine wpAnyH_done (by kernel_rfl) ?_ _; refine NoPanic.normal ?_
   go_wp2_with fail
   have hb2 : Hid (Below w.heap.size w wn) := zAa hbn0 hbn0.size hbn; go_roundw
   case rel => exact ⟨k + 1, by omega, by go_num, hb2⟩
   case measure => simp [intOf]; omega
  ·have t1 : ¬ (k : Int) < (L.length : Int) := by omega
   clear k1 k3
   go_wp2_with fail
   go_ret; exact ⟨rfl, hb⟩
theorem sameStage_any (x : Ts) (ea1 da1 la1 na1 ea2 da2 la2 na2 : Option Addr) (ec1 dc1 lc1 nc1 ec2 dc2 lc2 nc2 : Nat) (S1 S2 : Nat → Prop) (w : World) (h1 : TsR S1 w [.string x.name, .int .i64 x.id, .int .u64 x.green, .slice ea1 x.enter.length ec1, .slice da1 x.during.length dc1, .slice la1 x.leave.length lc1, .slice na1 x.nexts.length nc1] x) (h2 : TsR S2 w [.string x.name, .int .i64 x.id, .int .u64 x.green, .slice ea2 x.enter.length ec2, .slice da2 x.during.length dc2, .slice la2 x.leave.length lc2, .slice na2 x.nexts.length nc2] x) :
  Calls Tryz.prog 52 #[.agg #[.string x.name, .int .i64 x.id, .int .u64 x.green, .slice ea1 x.enter.length ec1, .slice da1 x.during.length dc1, .slice la1 x.leave.length lc1, .slice na1 x.nexts.length nc1], .agg #[.string x.name, .int .i64 x.id, .int .u64 x.green, .slice ea2 x.enter.length ec2, .slice da2 x.during.length dc2, .slice la2 x.leave.length lc2, .slice na2 x.nexts.length nc2]] w fun e w' => e = .returned (.bool true) ∧ Below w.heap.size w w' := by
 obtain ⟨_, _, _, _, e1, q1, q2, q3, q4⟩ := h1
 obtain ⟨_, _, _, _, e2, t1', t2', t3', t4'⟩ := h2
 simp only [List.cons.injEq, and_true, true_and] at e1 e2
 obtain ⟨rfl, rfl, rfl, rfl⟩ := e1
 obtain ⟨rfl, rfl, rfl, rfl⟩ := e2
 obtain ⟨_, _, e1, hlen, k1⟩ := Rows.any q4
 obtain ⟨_, _, e2, -, k3⟩ := Rows.any t4'
 injection e1 with e1 _ e1'
 injection e2 with e2 _ e2'
 subst e1
 subst e1'
 subst e2
 subst e2'
 clear q4 t4'
 have hb0 : Below w.heap.size w ((w.alloc (.cells #[.string x.name, .int .i64 x.id, .int .u64 x.green, .slice ea1 x.enter.length ec1, .slice da1 x.during.length dc1, .slice la1 x.leave.length lc1, .slice na1 x.nexts.length nc1] 51)).alloc (.cells #[.string x.name, .int .i64 x.id, .int .u64 x.green, .slice ea2 x.enter.length ec2, .slice da2 x.during.length dc2, .slice la2 x.leave.length lc2, .slice na2 x.nexts.length nc2] 51)) := belA
 have K1 : Has ((w.alloc (.cells #[.string x.name, .int .i64 x.id, .int .u64 x.green, .slice ea1 x.enter.length ec1, .slice da1 x.during.length dc1, .slice la1 x.leave.length lc1, .slice na1 x.nexts.length nc1] 51)).alloc (.cells #[.string x.name, .int .i64 x.id, .int .u64 x.green, .slice ea2 x.enter.length ec2, .slice da2 x.during.length dc2, .slice la2 x.leave.length lc2, .slice na2 x.nexts.length nc2] 51)) w.heap.size #[.string x.name, .int .i64 x.id, .int .u64 x.green, .slice ea1 x.enter.length ec1, .slice da1 x.during.length dc1, .slice la1 x.leave.length lc1, .slice na1 x.nexts.length nc1] := (Has.new _ _ _ rfl).alloc _
 have K2 : Has ((w.alloc (.cells #[.string x.name, .int .i64 x.id, .int .u64 x.green, .slice ea1 x.enter.length ec1, .slice da1 x.during.length dc1, .slice la1 x.leave.length lc1, .slice na1 x.nexts.length nc1] 51)).alloc (.cells #[.string x.name, .int .i64 x.id, .int .u64 x.green, .slice ea2 x.enter.length ec2, .slice da2 x.during.length dc2, .slice la2 x.leave.length lc2, .slice na2 x.nexts.length nc2] 51)) (w.heap.size + 1) #[.string x.name, .int .i64 x.id, .int .u64 x.green, .slice ea2 x.enter.length ec2, .slice da2 x.during.length dc2, .slice la2 x.leave.length lc2, .slice na2 x.nexts.length nc2] := Has.new _ _ _ (by simp)
 go_enter Tryz.func52, Tryz.ntmps52
 go_wp2_with fail
 generalize ((w.alloc (.cells #[.string x.name, .int .i64 x.id, .int .u64 x.green, .slice ea1 x.enter.length ec1, .slice da1 x.during.length dc1, .slice la1 x.leave.length lc1, .slice na1 x.nexts.length nc1] 51)).alloc (.cells #[.string x.name, .int .i64 x.id, .int .u64 x.green, .slice ea2 x.enter.length ec2, .slice da2 x.during.length dc2, .slice la2 x.leave.length lc2, .slice na2 x.nexts.length nc2] 51)) = Y at *
 go_loopw [5] (fun t wr => ∃ k : Nat, k ≤ x.nexts.length ∧ t = .int .i64 (k : Int) ∧ Hid (Below Y.heap.size Y wr)) (fun t _ => x.nexts.length - (intOf t).toNat)
 case atStart => exact ⟨0, by omega, rfl, Below.refl _ _⟩
 case round =>
  obtain ⟨k, hk, rfl, hb'⟩ := hrel; have hb := zAa hb0 hb0.size hb'.out; have J1 := K1.below hb'.out; have J2 := K2.below hb'.out
  by_cases hlt : k < x.nexts.length
  ·obtain ⟨g1, o1, rfl, _, hg1, P1⟩ := k1.resolve_left (by intro e; rw [e] at hlt; simp at hlt)
   obtain ⟨g3, o3, rfl, _, hg3, P3⟩ := k3.resolve_left (by intro e; rw [e] at hlt; simp at hlt); obtain ⟨cs1, _, ⟨v1, rfl, w1⟩, P1⟩ := P1 k hlt; obtain ⟨cs3, _, ⟨v3, rfl, w3⟩, P3⟩ := P3 k hlt; have hl5 : x.nexts[k].wh.length ≤ 2932031007317 := Rows.le w1; obtain ⟨va1, vc1, rfl, -⟩ := Rows.any w1; obtain ⟨va3, vc3, rfl, -⟩ := Rows.any w3; have hN := fun (X : World) (hX : Below w.heap.size w X) => zFp x.nexts[k].wh _ _ X ((Exs.flat w1).below hX) ((Exs.flat w3).below hX) hl5
   have p0 := (hb.cell (p := ⟨g1, _, none⟩) hg1).trans (P1 0 _ rfl); have r0 := (hb.cell (p := ⟨g3, _, none⟩) hg3).trans (P3 0 _ rfl); have p1 := (hb.cell (p := ⟨g1, _, none⟩) hg1).trans (P1 1 _ rfl); have r1 := (hb.cell (p := ⟨g3, _, none⟩) hg3).trans (P3 1 _ rfl); simp only [Nat.add_zero] at p0 r0; have y1 := J1.2.1 6; have y2 := J2.2.1 6; simp only [List.getElem?_toArray, List.getElem?_cons_succ, List.getElem?_cons_zero] at y1 y2; obtain ⟨_, j1, _⟩ := id J1; obtain ⟨_, j2, _⟩ := id J2; have t1 : (k : Int) < (x.nexts.length : Int) := by omega
   have t0 : (0 : Int) ≤ (k : Int) := by omega
   have hbn0 : Below w.heap.size w wr.drew := hb.drew; clear P1 P3 k1 k3 w1 w3; generalize x.nexts[k].wh.length = nx at *; generalize x.nexts[k].dst = x0 at *
   go_wp2_with fail
   refine wp_region_noPanic ?_; refine wp_region_held_drew (S := fun w' => w'.cell? ⟨w.heap.size, 6, none⟩ = some (.slice (some ⟨g1, o1, none⟩) x.nexts.length nc1) ∧ w'.cell? ⟨w.heap.size + 1, 6, none⟩ = some (.slice (some ⟨g3, o3, none⟩) x.nexts.length nc2) ∧ w'.cell? ⟨g1, o1 + k * 2, none⟩ = some (.int .i64 x0) ∧ w'.cell? ⟨g1, o1 + k * 2 + 1, none⟩ = some (.slice va1 nx vc1) ∧ w'.cell? ⟨g3, o3 + k * 2, none⟩ = some (.int .i64 x0) ∧ w'.cell? ⟨g3, o3 + k * 2 + 1, none⟩ = some (.slice va3 nx vc3)) (by kernel_rfl) ?_ (fun hHeld => ?_)
   ·(try dsimp only)
    exact ⟨y1, y2, p0, p1, r0, r1⟩
   refine tkY 0 ?_; refine tkY 1 ?_; refine tkY 2 ?_; refine tkY 3 ?_; refine tkY 4 ?_; refine tkY 5 ?_; refine tkY 6 ?_; refine tkY 7 ?_; refine tkY 8 ?_; refine tkY 9 ?_; refine tkY 10 ?_; refine tkY 11 ?_; refine tkY 12 ?_; refine tkY 13 ?_; refine tkY 14 ?_; refine tkY 15 ?_; refine tkY 16 ?_; refine tkY 17 ?_; refine tkY 18 ?_; refine tkY 19 ?_; refine tkY 20 ?_; refine tkY 21 ?_; refine tkY 22 ?_; refine tkY 23 ?_; refine tkY 24 ?_; refine tkY 25 ?_; refine wpAnyH_ready (rs := [26]) (by kernel_rfl) (by simp) ?_; refine AllReadyH.cons (o := ⟨some 67, .call { callee := Callee.value (.func 75), args := #[.tmp 60, .tmp 66], argTypes := #[56, 56] }, 4, "sound.go:296", #[⟨19, .data⟩, ⟨25, .data⟩, ⟨13, .chain⟩, ⟨13, .guard⟩], some (13, false)⟩) rfl (fun K hK => ?_) AllReadyH.nil
   go_simp
   go_at_call 75
   (with_reducible refine Calls.mono (hN _ (by exact hbn0)) ?_)
   rintro e wn ⟨rfl, hbn⟩
   go_wp2_with fail
   refine hK.out _ _ ?_ (fun hHeld => ?_)
   ·(try dsimp only)
    obtain ⟨h0, h1, h2, h3, h4, h5⟩ := hHeld; exact ⟨(hbn.cell (p := ⟨w.heap.size, _, none⟩) (zAb h0)).trans h0, (hbn.cell (p := ⟨w.heap.size + 1, _, none⟩) (zAb h1)).trans h1, (hbn.cell (p := ⟨g1, _, none⟩) (zAb h2)).trans h2, (hbn.cell (p := ⟨g1, _, none⟩) (zAb h3)).trans h3, (hbn.cell (p := ⟨g3, _, none⟩) (zAb h4)).trans h4, (hbn.cell (p := ⟨g3, _, none⟩) (zAb h5)).trans h5⟩
   clear hK K
   (try simp only [Act.put, List.setIfInBounds_toArray, List.set_cons_zero, List.set_cons_succ])
   refine tkY 27 ?_; refine tkY 28 ?_; refine wpAnyH_done (by kernel_rfl) ?_ _; refine NoPanic.normal ?_
   go_wp2_with fail
   have hb2 : Hid (Below Y.heap.size Y wn) := zAa hb'.out.drew hb'.out.size hbn; go_roundw
   case rel => exact ⟨k + 1, by omega, by go_num, hb2⟩
   case measure => simp [intOf]; omega
  ·have t1 : ¬ (k : Int) < (x.nexts.length : Int) := by omega
   clear k1 k3; obtain ⟨_, j1, _⟩ := id J1; obtain ⟨_, j2, _⟩ := id J2
   go_wp2_with fail
   go_at_call 76
   (with_reducible refine Calls.mono (zEa x.enter _ _ _ _ wr (q1.below hb) (t1'.below hb)) ?_)
   rintro e wa ⟨rfl, ha⟩; have hba := zAa hb hb.size ha; have J1 := J1.below ha; have J2 := J2.below ha; clear j1 j2; obtain ⟨_, j1, _⟩ := id J1; obtain ⟨_, j2, _⟩ := id J2
   go_wp2_with fail
   go_at_call 76
   (with_reducible refine Calls.mono (zEa x.during _ _ _ _ wa (q2.below hba) (t2'.below hba)) ?_)
   rintro e wb ⟨rfl, hb2⟩; have hbb := zAa hba hba.size hb2; have J1 := J1.below hb2; have J2 := J2.below hb2; clear j1 j2; obtain ⟨_, j1, _⟩ := id J1; obtain ⟨_, j2, _⟩ := id J2
   go_wp2_with fail
   go_at_call 76
   (with_reducible refine Calls.mono (zEa x.leave _ _ _ _ wb (q3.below hbb) (t3'.below hbb)) ?_)
   rintro e wc ⟨rfl, hb3⟩; have hbc := zAa hbb hbb.size hb3
   go_wp2_with fail
   go_ret; exact ⟨rfl, hbc⟩
def ckM (Q : List Bool) (x1 : Int) (t : Nat) : Bool := (decide (x1 ≠ -1) && sn Q x1.toNat) || sn Q t
theorem clashes_any (G : List Gp) (C : List Cf) (D : List Dt) (TM CT : List ByteArray) (VR : List Vr) (SG : List Ts) (pn : ByteArray) (ga ca da ta ka va sa wa : Option Addr) (gc cc dc tc kc vc sc mb ra rc qa qc wc : Nat) (stt : Int) (Q : List Bool) (x1 : Int) (t : Nat) (w : World) (hQ : BlR w qa SG.length Q) (ht : t < SG.length) (hf : x1 = -1 ∨ ∃ k : Nat, x1 = (k : Int) ∧ k < SG.length) :
  Calls Tryz.prog 42 #[(.agg #[.string pn, .slice ga G.length gc, .slice ca C.length cc, .slice da D.length dc, .slice ta TM.length tc, .slice ka CT.length kc, .slice va VR.length vc, .slice sa SG.length sc, .int .i64 stt, .slice ga G.length gc, .map (some mb), .slice (some ⟨ra, 0, none⟩) SG.length rc, .slice (some ⟨qa, 0, none⟩) SG.length qc, .slice wa G.length wc]), .agg #[.int .i64 x1, .int .i64 (t : Int)]] w fun e w' => e = .returned (.bool (ckM Q x1 t)) ∧ Below w.heap.size w w' := by
 have hb0 : Below w.heap.size w ((w.alloc (.cells #[.string pn, .slice ga G.length gc, .slice ca C.length cc, .slice da D.length dc, .slice ta TM.length tc, .slice ka CT.length kc, .slice va VR.length vc, .slice sa SG.length sc, .int .i64 stt, .slice ga G.length gc, .map (some mb), .slice (some ⟨ra, 0, none⟩) SG.length rc, .slice (some ⟨qa, 0, none⟩) SG.length qc, .slice wa G.length wc] 82)).alloc (.cells #[.int .i64 x1, .int .i64 (t : Int)] 102)) := ((Below.refl _ _).alloc (Nat.le_refl _) _).alloc (by simp) _
 have K0 : Has ((w.alloc (.cells #[.string pn, .slice ga G.length gc, .slice ca C.length cc, .slice da D.length dc, .slice ta TM.length tc, .slice ka CT.length kc, .slice va VR.length vc, .slice sa SG.length sc, .int .i64 stt, .slice ga G.length gc, .map (some mb), .slice (some ⟨ra, 0, none⟩) SG.length rc, .slice (some ⟨qa, 0, none⟩) SG.length qc, .slice wa G.length wc] 82)).alloc (.cells #[.int .i64 x1, .int .i64 (t : Int)] 102)) w.heap.size #[.string pn, .slice ga G.length gc, .slice ca C.length cc, .slice da D.length dc, .slice ta TM.length tc, .slice ka CT.length kc, .slice va VR.length vc, .slice sa SG.length sc, .int .i64 stt, .slice ga G.length gc, .map (some mb), .slice (some ⟨ra, 0, none⟩) SG.length rc, .slice (some ⟨qa, 0, none⟩) SG.length qc, .slice wa G.length wc] := (Has.new w #[.string pn, .slice ga G.length gc, .slice ca C.length cc, .slice da D.length dc, .slice ta TM.length tc, .slice ka CT.length kc, .slice va VR.length vc, .slice sa SG.length sc, .int .i64 stt, .slice ga G.length gc, .map (some mb), .slice (some ⟨ra, 0, none⟩) SG.length rc, .slice (some ⟨qa, 0, none⟩) SG.length qc, .slice wa G.length wc] 82 rfl).alloc _
 have M0 : Has ((w.alloc (.cells #[.string pn, .slice ga G.length gc, .slice ca C.length cc, .slice da D.length dc, .slice ta TM.length tc, .slice ka CT.length kc, .slice va VR.length vc, .slice sa SG.length sc, .int .i64 stt, .slice ga G.length gc, .map (some mb), .slice (some ⟨ra, 0, none⟩) SG.length rc, .slice (some ⟨qa, 0, none⟩) SG.length qc, .slice wa G.length wc] 82)).alloc (.cells #[.int .i64 x1, .int .i64 (t : Int)] 102)) (w.heap.size + 1) #[.int .i64 x1, .int .i64 (t : Int)] := by
  have := Has.new (w.alloc (.cells #[.string pn, .slice ga G.length gc, .slice ca C.length cc, .slice da D.length dc, .slice ta TM.length tc, .slice ka CT.length kc, .slice va VR.length vc, .slice sa SG.length sc, .int .i64 stt, .slice ga G.length gc, .map (some mb), .slice (some ⟨ra, 0, none⟩) SG.length rc, .slice (some ⟨qa, 0, none⟩) SG.length qc, .slice wa G.length wc] 82)) #[.int .i64 x1, .int .i64 (t : Int)] 102 rfl
  simpa using this
 obtain ⟨_, v1, v2⟩ := id K0
 obtain ⟨_, m1, m2⟩ := id M0
 have z1 := (hb0.cell (p := ⟨qa, t, none⟩) hQ.1).trans (hQ.2 t ht)
 have z2 := fun (k : Nat) (hk : k < SG.length) => (hb0.cell (p := ⟨qa, k, none⟩) hQ.1).trans (hQ.2 k hk)
 have t1 : (t : Int) < (SG.length : Int) := by omega
 have t0 : (0 : Int) ≤ (t : Int) := by omega
 rcases hf with rfl | ⟨k, rfl, hk⟩
 ·have hA : ckM Q (-1) t = sn Q t := by simp [ckM]
  rw [hA]; go_enter Tryz.func42, Tryz.ntmps42
  go_wp2_with fail
  go_ret; exact ⟨rfl, hb0⟩
 ·have s1 : (k : Int) < (SG.length : Int) := by omega
  have s0 : (0 : Int) ≤ (k : Int) := by omega
  have s2 : ¬ (k : Int) = -1 := by omega
  have hA : ckM Q (k : Int) t = (sn Q k || sn Q t) := by simp [ckM, s2]
  rw [hA]; have z3 := z2 k hk; clear z2; generalize sn Q k = b1 at *
  cases b1 with
  | true =>
    go_enter Tryz.func42, Tryz.ntmps42
    go_wp2_with fail
    go_ret; exact ⟨rfl, hb0⟩
  | false =>
    go_enter Tryz.func42, Tryz.ntmps42
    go_wp2_with fail
    go_ret; exact ⟨rfl, hb0⟩
theorem longest_any (G : List Gp) (C : List Cf) (D : List Dt) (TM CT : List ByteArray) (VR : List Vr) (SG : List Ts) (pn : ByteArray) (ga ca da ta ka va sa wa : Option Addr) (gc cc dc tc kc vc sc mb ra rc qa qc wc : Nat) (stt : Int) (ws : Nat → Int) (x1 : Int) (t F T : Nat) (w : World) (hS : Tss (fun _ => True) w (.slice sa SG.length sc) SG) (hF : F < 18446744073709551616) (hT : T < 18446744073709551616) (hG : Fl 5 Gp.cs w (.slice ga G.length gc) G) (lG : G.length ≤ 2932031007317) (mins : ∀ (k : Nat) (hk : k < G.length), 0 ≤ G[k].amber ∧ G[k].amber ≤ 60 ∧ 0 ≤ G[k].lead ∧ G[k].lead ≤ 60)
  (hws : G = [] ∨ ∃ gw, wa = some ⟨gw, 0, none⟩ ∧ gw < w.heap.size ∧ ∀ i, i < G.length → w.cell? ⟨gw, i, none⟩ = some (.int .i64 (ws i)) ∧ 0 ≤ ws i ∧ ws i ≤ 3600) (ht : t < SG.length) (hgt : SG[t].green = (T : Int)) (hf : (x1 = -1 ∧ F = 0) ∨ ∃ (k : Nat) (hk : k < SG.length), x1 = (k : Int) ∧ SG[k].green = (F : Int)) :
  Calls Tryz.prog 43 #[(.agg #[.string pn, .slice ga G.length gc, .slice ca C.length cc, .slice da D.length dc, .slice ta TM.length tc, .slice ka CT.length kc, .slice va VR.length vc, .slice sa SG.length sc, .int .i64 stt, .slice ga G.length gc, .map (some mb), .slice (some ⟨ra, 0, none⟩) SG.length rc, .slice (some ⟨qa, 0, none⟩) SG.length qc, .slice wa G.length wc]), .agg #[.int .i64 x1, .int .i64 (t : Int)]] w fun e w' => e = .returned (.int .i64 (thF F T ws G 0 0)) ∧ Below w.heap.size w w' := by
 obtain ⟨_, _, e1, _, kS⟩ := Rows.any hS
 injection e1 with e1 _ e2
 subst e1
 subst e2
 clear hS
 obtain ⟨g, o, rfl, _, hg, hx⟩ := kS.resolve_left (by intro e; rw [e] at ht; simp at ht)
 clear kS
 have hb0 : Below w.heap.size w ((w.alloc (.cells #[.string pn, .slice ga G.length gc, .slice ca C.length cc, .slice da D.length dc, .slice ta TM.length tc, .slice ka CT.length kc, .slice va VR.length vc, .slice (some ⟨g, o, none⟩) SG.length sc, .int .i64 stt, .slice ga G.length gc, .map (some mb), .slice (some ⟨ra, 0, none⟩) SG.length rc, .slice (some ⟨qa, 0, none⟩) SG.length qc, .slice wa G.length wc] 82)).alloc (.cells #[.int .i64 x1, .int .i64 (t : Int)] 102)) := ((Below.refl _ _).alloc (Nat.le_refl _) _).alloc (by simp) _
 have K0 : Has ((w.alloc (.cells #[.string pn, .slice ga G.length gc, .slice ca C.length cc, .slice da D.length dc, .slice ta TM.length tc, .slice ka CT.length kc, .slice va VR.length vc, .slice (some ⟨g, o, none⟩) SG.length sc, .int .i64 stt, .slice ga G.length gc, .map (some mb), .slice (some ⟨ra, 0, none⟩) SG.length rc, .slice (some ⟨qa, 0, none⟩) SG.length qc, .slice wa G.length wc] 82)).alloc (.cells #[.int .i64 x1, .int .i64 (t : Int)] 102)) w.heap.size #[.string pn, .slice ga G.length gc, .slice ca C.length cc, .slice da D.length dc, .slice ta TM.length tc, .slice ka CT.length kc, .slice va VR.length vc, .slice (some ⟨g, o, none⟩) SG.length sc, .int .i64 stt, .slice ga G.length gc, .map (some mb), .slice (some ⟨ra, 0, none⟩) SG.length rc, .slice (some ⟨qa, 0, none⟩) SG.length qc, .slice wa G.length wc] := (Has.new w #[.string pn, .slice ga G.length gc, .slice ca C.length cc, .slice da D.length dc, .slice ta TM.length tc, .slice ka CT.length kc, .slice va VR.length vc, .slice (some ⟨g, o, none⟩) SG.length sc, .int .i64 stt, .slice ga G.length gc, .map (some mb), .slice (some ⟨ra, 0, none⟩) SG.length rc, .slice (some ⟨qa, 0, none⟩) SG.length qc, .slice wa G.length wc] 82 rfl).alloc _
 have M0 : Has ((w.alloc (.cells #[.string pn, .slice ga G.length gc, .slice ca C.length cc, .slice da D.length dc, .slice ta TM.length tc, .slice ka CT.length kc, .slice va VR.length vc, .slice (some ⟨g, o, none⟩) SG.length sc, .int .i64 stt, .slice ga G.length gc, .map (some mb), .slice (some ⟨ra, 0, none⟩) SG.length rc, .slice (some ⟨qa, 0, none⟩) SG.length qc, .slice wa G.length wc] 82)).alloc (.cells #[.int .i64 x1, .int .i64 (t : Int)] 102)) (w.heap.size + 1) #[.int .i64 x1, .int .i64 (t : Int)] := by
  have := Has.new (w.alloc (.cells #[.string pn, .slice ga G.length gc, .slice ca C.length cc, .slice da D.length dc, .slice ta TM.length tc, .slice ka CT.length kc, .slice va VR.length vc, .slice (some ⟨g, o, none⟩) SG.length sc, .int .i64 stt, .slice ga G.length gc, .map (some mb), .slice (some ⟨ra, 0, none⟩) SG.length rc, .slice (some ⟨qa, 0, none⟩) SG.length qc, .slice wa G.length wc] 82)) #[.int .i64 x1, .int .i64 (t : Int)] 102 rfl
  simpa using this
 obtain ⟨_, v1, v2⟩ := id K0
 obtain ⟨_, m1, m2⟩ := id M0
 have hbn0 : Below w.heap.size w ((w.alloc (.cells #[.string pn, .slice ga G.length gc, .slice ca C.length cc, .slice da D.length dc, .slice ta TM.length tc, .slice ka CT.length kc, .slice va VR.length vc, .slice (some ⟨g, o, none⟩) SG.length sc, .int .i64 stt, .slice ga G.length gc, .map (some mb), .slice (some ⟨ra, 0, none⟩) SG.length rc, .slice (some ⟨qa, 0, none⟩) SG.length qc, .slice wa G.length wc] 82)).alloc (.cells #[.int .i64 x1, .int .i64 (t : Int)] 102)).drew := hb0.drew
 have kth := fun (X : World) (hX : Below w.heap.size w X) => through_any G (.slice ga G.length gc) (.map (some mb)) F T ws wa wc X hF hT (hG.below hX) lG mins (by
  rcases hws with h | ⟨gw, h1, h2, h3⟩
  ·exact .inl h
  ·exact .inr ⟨gw, h1, Nat.lt_of_lt_of_le h2 hX.size, fun i hi => ⟨(hX.cell (p := ⟨gw, _, none⟩) h2).trans (h3 i hi).1, (h3 i hi).2⟩⟩)
 have hgn := fun (k : Nat) (hk : k < SG.length) (M : Nat) (hM : SG[k].green = (M : Int)) => (show ((w.alloc (.cells #[.string pn, .slice ga G.length gc, .slice ca C.length cc, .slice da D.length dc, .slice ta TM.length tc, .slice ka CT.length kc, .slice va VR.length vc, .slice (some ⟨g, o, none⟩) SG.length sc, .int .i64 stt, .slice ga G.length gc, .map (some mb), .slice (some ⟨ra, 0, none⟩) SG.length rc, .slice (some ⟨qa, 0, none⟩) SG.length qc, .slice wa G.length wc] 82)).alloc (.cells #[.int .i64 x1, .int .i64 (t : Int)] 102)).cell? ⟨g, o + k * 7 + 2, none⟩ = some (.int .u64 (M : Int)) by
  obtain ⟨cs, _, ⟨ve, vd, vl, vn, rfl, q1, q2, q3, q4⟩, P2⟩ := hx k hk; rw [← hM]; exact (hb0.cell (p := ⟨g, _, none⟩) hg).trans (P2 2 _ rfl))
 have y1 := hgn t ht T hgt
 have y2 : ((w.alloc (.cells #[.string pn, .slice ga G.length gc, .slice ca C.length cc, .slice da D.length dc, .slice ta TM.length tc, .slice ka CT.length kc, .slice va VR.length vc, .slice (some ⟨g, o, none⟩) SG.length sc, .int .i64 stt, .slice ga G.length gc, .map (some mb), .slice (some ⟨ra, 0, none⟩) SG.length rc, .slice (some ⟨qa, 0, none⟩) SG.length qc, .slice wa G.length wc] 82)).alloc (.cells #[.int .i64 x1, .int .i64 (t : Int)] 102)).cell? ⟨w.heap.size, 7, none⟩ = some (.slice (some ⟨g, o, none⟩) SG.length sc) := v1 7
 have y3 : ((w.alloc (.cells #[.string pn, .slice ga G.length gc, .slice ca C.length cc, .slice da D.length dc, .slice ta TM.length tc, .slice ka CT.length kc, .slice va VR.length vc, .slice (some ⟨g, o, none⟩) SG.length sc, .int .i64 stt, .slice ga G.length gc, .map (some mb), .slice (some ⟨ra, 0, none⟩) SG.length rc, .slice (some ⟨qa, 0, none⟩) SG.length qc, .slice wa G.length wc] 82)).alloc (.cells #[.int .i64 x1, .int .i64 (t : Int)] 102)).cell? ⟨w.heap.size, 9, none⟩ = some (.slice ga G.length gc) := v1 9
 have y4 : ((w.alloc (.cells #[.string pn, .slice ga G.length gc, .slice ca C.length cc, .slice da D.length dc, .slice ta TM.length tc, .slice ka CT.length kc, .slice va VR.length vc, .slice (some ⟨g, o, none⟩) SG.length sc, .int .i64 stt, .slice ga G.length gc, .map (some mb), .slice (some ⟨ra, 0, none⟩) SG.length rc, .slice (some ⟨qa, 0, none⟩) SG.length qc, .slice wa G.length wc] 82)).alloc (.cells #[.int .i64 x1, .int .i64 (t : Int)] 102)).cell? ⟨w.heap.size, 10, none⟩ = some (.map (some mb)) := v1 10
 have y5 : ((w.alloc (.cells #[.string pn, .slice ga G.length gc, .slice ca C.length cc, .slice da D.length dc, .slice ta TM.length tc, .slice ka CT.length kc, .slice va VR.length vc, .slice (some ⟨g, o, none⟩) SG.length sc, .int .i64 stt, .slice ga G.length gc, .map (some mb), .slice (some ⟨ra, 0, none⟩) SG.length rc, .slice (some ⟨qa, 0, none⟩) SG.length qc, .slice wa G.length wc] 82)).alloc (.cells #[.int .i64 x1, .int .i64 (t : Int)] 102)).cell? ⟨w.heap.size, 13, none⟩ = some (.slice wa G.length wc) := v1 13
 have y6 : ((w.alloc (.cells #[.string pn, .slice ga G.length gc, .slice ca C.length cc, .slice da D.length dc, .slice ta TM.length tc, .slice ka CT.length kc, .slice va VR.length vc, .slice (some ⟨g, o, none⟩) SG.length sc, .int .i64 stt, .slice ga G.length gc, .map (some mb), .slice (some ⟨ra, 0, none⟩) SG.length rc, .slice (some ⟨qa, 0, none⟩) SG.length qc, .slice wa G.length wc] 82)).alloc (.cells #[.int .i64 x1, .int .i64 (t : Int)] 102)).cell? ⟨w.heap.size + 1, 1, none⟩ = some (.int .i64 (t : Int)) := m1 1
 have t1 : (t : Int) < (SG.length : Int) := by omega
 have t0 : (0 : Int) ≤ (t : Int) := by omega
 clear hx hgt hG hws
 rcases hf with ⟨rfl, rfl⟩ | ⟨k, hk, rfl, hkF⟩
 ·clear hgn
  go_enter Tryz.func43, Tryz.ntmps43
  go_wp2_with fail
  refine wp_region_noPanic ?_; refine wp_region_held_drew (S := fun w' => w'.cell? ⟨g, o + t * 7 + 2, none⟩ = some (.int .u64 (T : Int)) ∧ w'.cell? ⟨w.heap.size, 7, none⟩ = some (.slice (some ⟨g, o, none⟩) SG.length sc) ∧ w'.cell? ⟨w.heap.size, 9, none⟩ = some (.slice ga G.length gc) ∧ w'.cell? ⟨w.heap.size, 10, none⟩ = some (.map (some mb)) ∧ w'.cell? ⟨w.heap.size, 13, none⟩ = some (.slice wa G.length wc) ∧ w'.cell? ⟨w.heap.size + 1, 1, none⟩ = some (.int .i64 (t : Int))) (by kernel_rfl) ?_ (fun hHeld => ?_)
  ·(try dsimp only)
   exact ⟨y1, y2, y3, y4, y5, y6⟩
  refine tkY 0 ?_; refine tkY 1 ?_; refine tkY 2 ?_; refine tkY 3 ?_; refine tkY 4 ?_; refine tkY 5 ?_; refine tkY 6 ?_; refine tkY 7 ?_; refine tkY 8 ?_; refine tkY 9 ?_; refine tkY 10 ?_; refine tkY 11 ?_; refine tkY 12 ?_; refine wpAnyH_ready (rs := [13]) (by kernel_rfl) (by simp) ?_; refine AllReadyH.cons (o := ⟨some 30, .call { callee := Callee.value (.func 71), args := #[.tmp 18, .tmp 19, .tmp 27, .tmp 29], argTypes := #[79, 47, 47, 80] }, 3, "plan.go:71", #[⟨1, .data⟩, ⟨2, .data⟩, ⟨10, .data⟩, ⟨12, .data⟩], none⟩) rfl (fun K hK => ?_) AllReadyH.nil
  go_simp
  go_at_call 71
  (with_reducible refine Calls.mono (kth _ (by exact hbn0)) ?_)
  rintro e wn ⟨rfl, hbn⟩
  go_wp2_with fail
  refine hK.out _ _ ?_ (fun hHeld => ?_)
  ·(try dsimp only)
   obtain ⟨h0, h1, h2, h3, h4, h5⟩ := hHeld; exact ⟨(hbn.cell (p := ⟨g, _, none⟩) (zAb h0)).trans h0, (hbn.cell (p := ⟨w.heap.size, _, none⟩) (zAb h1)).trans h1, (hbn.cell (p := ⟨w.heap.size, _, none⟩) (zAb h2)).trans h2, (hbn.cell (p := ⟨w.heap.size, _, none⟩) (zAb h3)).trans h3, (hbn.cell (p := ⟨w.heap.size, _, none⟩) (zAb h4)).trans h4, (hbn.cell (p := ⟨w.heap.size + 1, _, none⟩) (zAb h5)).trans h5⟩
  clear hK K
  (try simp only [Act.put, List.setIfInBounds_toArray, List.set_cons_zero, List.set_cons_succ])
  refine tkY 14 ?_; refine wpAnyH_done (by kernel_rfl) ?_ _; refine NoPanic.normal ?_
  go_wp2_with fail
  go_ret; exact ⟨rfl, zAa hbn0 hbn0.size hbn⟩
 ·have s1 : (k : Int) < (SG.length : Int) := by omega
  have s0 : (0 : Int) ≤ (k : Int) := by omega
  have s2 : ¬ (k : Int) = -1 := by omega
  have y7 := hgn k hk F hkF; clear hgn hkF; go_enter Tryz.func43, Tryz.ntmps43
  go_wp2_with fail
  refine wp_region_noPanic ?_; refine wp_region_held_drew (S := fun w' => w'.cell? ⟨g, o + t * 7 + 2, none⟩ = some (.int .u64 (T : Int)) ∧ w'.cell? ⟨w.heap.size, 7, none⟩ = some (.slice (some ⟨g, o, none⟩) SG.length sc) ∧ w'.cell? ⟨w.heap.size, 9, none⟩ = some (.slice ga G.length gc) ∧ w'.cell? ⟨w.heap.size, 10, none⟩ = some (.map (some mb)) ∧ w'.cell? ⟨w.heap.size, 13, none⟩ = some (.slice wa G.length wc) ∧ w'.cell? ⟨w.heap.size + 1, 1, none⟩ = some (.int .i64 (t : Int))) (by kernel_rfl) ?_ (fun hHeld => ?_)
  ·(try dsimp only)
   exact ⟨y1, y2, y3, y4, y5, y6⟩
  refine tkY 0 ?_; refine tkY 1 ?_; refine tkY 2 ?_; refine tkY 3 ?_; refine tkY 4 ?_; refine tkY 5 ?_; refine tkY 6 ?_; refine tkY 7 ?_; refine tkY 8 ?_; refine tkY 9 ?_; refine tkY 10 ?_; refine tkY 11 ?_; refine tkY 12 ?_; refine wpAnyH_ready (rs := [13]) (by kernel_rfl) (by simp) ?_; refine AllReadyH.cons (o := ⟨some 30, .call { callee := Callee.value (.func 71), args := #[.tmp 18, .tmp 19, .tmp 27, .tmp 29], argTypes := #[79, 47, 47, 80] }, 3, "plan.go:71", #[⟨1, .data⟩, ⟨2, .data⟩, ⟨10, .data⟩, ⟨12, .data⟩], none⟩) rfl (fun K hK => ?_) AllReadyH.nil
  go_simp
  go_at_call 71
  (with_reducible refine Calls.mono (kth _ (by exact hbn0)) ?_)
  rintro e wn ⟨rfl, hbn⟩
  go_wp2_with fail
  refine hK.out _ _ ?_ (fun hHeld => ?_)
  ·(try dsimp only)
   obtain ⟨h0, h1, h2, h3, h4, h5⟩ := hHeld; exact ⟨(hbn.cell (p := ⟨g, _, none⟩) (zAb h0)).trans h0, (hbn.cell (p := ⟨w.heap.size, _, none⟩) (zAb h1)).trans h1, (hbn.cell (p := ⟨w.heap.size, _, none⟩) (zAb h2)).trans h2, (hbn.cell (p := ⟨w.heap.size, _, none⟩) (zAb h3)).trans h3, (hbn.cell (p := ⟨w.heap.size, _, none⟩) (zAb h4)).trans h4, (hbn.cell (p := ⟨w.heap.size + 1, _, none⟩) (zAb h5)).trans h5⟩
  clear hK K
  (try simp only [Act.put, List.setIfInBounds_toArray, List.set_cons_zero, List.set_cons_succ])
  refine tkY 14 ?_; refine wpAnyH_done (by kernel_rfl) ?_ _; refine NoPanic.normal ?_
  go_wp2_with fail
  go_ret; exact ⟨rfl, zAa hbn0 hbn0.size hbn⟩
end Go.Proofs.YtjfieclmagbfbaaGreatDoor
