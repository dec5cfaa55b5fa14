import Derived.Test.YtnicolaphmffkaaGreatDoorTkk
import Derived.Test.YtnicolaphmffkaaGreatDoorMaF
namespace Go.Proofs.YtnicolaphmffkaaGreatDoor
open Go.RowKit
set_option linter.unusedVariables false
set_option linter.unusedSimpArgs false

set_option maxRecDepth 100000 in
set_option maxHeartbeats 8000000 in
theorem sameNodes_any (L : List Nd) (v u : Value) (w : World) (h1 : Fl 5 Nd.cs w v L) (h2 : Fl 5 Nd.cs w u L) (hG : L.length ≤ 2932031007317) :
    Calls Tryz.prog 15 #[v, u] w fun e w' => e = .returned (.bool true) ∧ Below w.heap.size w w' := by
  obtain ⟨a1, c1, rfl, k1⟩ := h1.any
  obtain ⟨a3, c3, rfl, k3⟩ := h2.any
  clear h1 h2
  go_enter Tryz.func15, Tryz.ntmps15
  go_wp2_with fail
  go_loopw [5] (fun t wr => ∃ k q : Nat, k ≤ L.length ∧ t = .int .i64 (k : Int) ∧ wr = w.drewN q) (fun t _ => L.length - (intOf t).toNat)
  case atStart => exact ⟨0, 0, by omega, rfl, rfl⟩
  case round =>
    obtain ⟨k, q, hk, rfl, rfl⟩ := hrel
    by_cases hlt : k < L.length
    · obtain ⟨g1, o1, rfl, hg1, P1⟩ := k1.resolve_left (by intro e; rw [e] at hlt; simp at hlt)
      obtain ⟨g3, o3, rfl, hg3, P3⟩ := k3.resolve_left (by intro e; rw [e] at hlt; simp at hlt)
      have p0 := (P1 k hlt 0 _ rfl)
      have p1 := (P1 k hlt 1 _ rfl)
      have p2 := (P1 k hlt 2 _ rfl)
      have p3 := (P1 k hlt 3 _ rfl)
      have p4 := (P1 k hlt 4 _ rfl)
      have r0 := (P3 k hlt 0 _ rfl)
      have r1 := (P3 k hlt 1 _ rfl)
      have r2 := (P3 k hlt 2 _ rfl)
      have r3 := (P3 k hlt 3 _ rfl)
      have r4 := (P3 k hlt 4 _ rfl)
      simp only [Nat.add_zero] at p0 r0
      have t1 : (k : Int) < (L.length : Int) := by omega
      have t0 : (0 : Int) ≤ (k : Int) := by omega
      have t2 : k + 1 ≤ L.length := hlt
      generalize L[k].op = x0 at *
      generalize L[k].val = x1 at *
      generalize L[k].name = x2 at *
      generalize L[k].line = x3 at *
      generalize L[k].col = x4 at *
      clear P1 P3 k1 k3
      go_wp2
      go_quiet (fail)
      go_wp2
      go_roundw
      case rel => exact ⟨k + 1, q + nq, by omega, by go_num, rfl⟩
      case measure => simp [intOf]; omega
    · have t1 : ¬ (k : Int) < (L.length : Int) := by omega
      clear k1 k3
      go_wp2
      go_ret
      exact ⟨rfl, below_drewN _ _⟩
set_option maxRecDepth 100000 in
set_option maxHeartbeats 8000000 in
theorem sameStrings_any (L : List ByteArray) (v u : Value) (w : World) (h1 : Fl 1 txC w v L) (h2 : Fl 1 txC w u L) (hG : L.length ≤ 8796093022100) :
    Calls Tryz.prog 46 #[v, u] w fun e w' => e = .returned (.bool true) ∧ Below w.heap.size w w' := by
  obtain ⟨a1, c1, rfl, k1⟩ := h1.any
  obtain ⟨a3, c3, rfl, k3⟩ := h2.any
  clear h1 h2
  go_enter Tryz.func46, Tryz.ntmps46
  go_wp2_with fail
  go_loopw [5] (fun t wr => ∃ k q : Nat, k ≤ L.length ∧ t = .int .i64 (k : Int) ∧ wr = w.drewN q) (fun t _ => L.length - (intOf t).toNat)
  case atStart => exact ⟨0, 0, by omega, rfl, rfl⟩
  case round =>
    obtain ⟨k, q, hk, rfl, rfl⟩ := hrel
    by_cases hlt : k < L.length
    · obtain ⟨g1, o1, rfl, hg1, P1⟩ := k1.resolve_left (by intro e; rw [e] at hlt; simp at hlt)
      obtain ⟨g3, o3, rfl, hg3, P3⟩ := k3.resolve_left (by intro e; rw [e] at hlt; simp at hlt)
      have p0 := (P1 k hlt 0 _ rfl)
      have r0 := (P3 k hlt 0 _ rfl)
      simp only [Nat.add_zero, Nat.mul_one] at p0 r0
      have t1 : (k : Int) < (L.length : Int) := by omega
      have t0 : (0 : Int) ≤ (k : Int) := by omega
      have t2 : k + 1 ≤ L.length := hlt
      generalize L[k] = x0 at *
      clear P1 P3 k1 k3
      go_wp2
      go_quiet (fail)
      go_wp2
      go_roundw
      case rel => exact ⟨k + 1, q + nq, by omega, by go_num, rfl⟩
      case measure => simp [intOf]; omega
    · have t1 : ¬ (k : Int) < (L.length : Int) := by omega
      clear k1 k3
      go_wp2
      go_ret
      exact ⟨rfl, below_drewN _ _⟩
set_option maxRecDepth 100000 in
set_option maxHeartbeats 8000000 in
theorem sameStmts_any (L : List St) (v u : Value) (S1 S2 : Nat → Prop) (w : World) (h1 : Sts S1 w v L) (h2 : Sts S2 w u L) :
    Calls Tryz.prog 84 #[v, u] w fun e w' => e = .returned (.bool true) ∧ Below w.heap.size w w' := by
  obtain ⟨a1, c1, rfl, hlen, k1⟩ := Rows.any h1
  obtain ⟨a3, c3, rfl, -, k3⟩ := Rows.any h2
  clear h1 h2
  go_enter Tryz.func84, Tryz.ntmps84
  go_wp2_with fail
  go_loopw [5] (fun t wr => ∃ k : Nat, k ≤ L.length ∧ t = .int .i64 (k : Int) ∧ Hid (Below w.heap.size w wr)) (fun t _ => L.length - (intOf t).toNat)
  case atStart => exact ⟨0, by omega, rfl, Below.refl _ _⟩
  case round =>
    obtain ⟨k, hk, rfl, hb'⟩ := hrel
    have hb := hb'.out
    by_cases hlt : k < L.length
    · obtain ⟨g1, o1, rfl, _, hg1, P1⟩ := k1.resolve_left (by intro e; rw [e] at hlt; simp at hlt)
      obtain ⟨g3, o3, rfl, _, hg3, P3⟩ := k3.resolve_left (by intro e; rw [e] at hlt; simp at hlt)
      obtain ⟨cs1, _, ⟨v1, rfl, q1⟩, P1⟩ := P1 k hlt
      obtain ⟨cs3, _, ⟨v3, rfl, q3⟩, P3⟩ := P3 k hlt
      have hl5 : L[k].expr.length ≤ 2932031007317 := Rows.le q1
      obtain ⟨va1, vc1, rfl, -⟩ := Rows.any q1
      obtain ⟨va3, vc3, rfl, -⟩ := Rows.any q3
      have hN := fun (X : World) (hX : Below w.heap.size w X) => sameNodes_any L[k].expr _ _ X ((Exs.flat q1).below hX) ((Exs.flat q3).below hX) hl5
      have p0 := (hb.cell (p := ⟨g1, _, none⟩) hg1).trans (P1 0 _ rfl)
      have r0 := (hb.cell (p := ⟨g3, _, none⟩) hg3).trans (P3 0 _ rfl)
      have p1 := (hb.cell (p := ⟨g1, _, none⟩) hg1).trans (P1 1 _ rfl)
      have r1 := (hb.cell (p := ⟨g3, _, none⟩) hg3).trans (P3 1 _ rfl)
      have p2 := (hb.cell (p := ⟨g1, _, none⟩) hg1).trans (P1 2 _ rfl)
      have r2 := (hb.cell (p := ⟨g3, _, none⟩) hg3).trans (P3 2 _ rfl)
      have p3 := (hb.cell (p := ⟨g1, _, none⟩) hg1).trans (P1 3 _ rfl)
      have r3 := (hb.cell (p := ⟨g3, _, none⟩) hg3).trans (P3 3 _ rfl)
      have p4 := (hb.cell (p := ⟨g1, _, none⟩) hg1).trans (P1 4 _ rfl)
      have r4 := (hb.cell (p := ⟨g3, _, none⟩) hg3).trans (P3 4 _ rfl)
      have p5 := (hb.cell (p := ⟨g1, _, none⟩) hg1).trans (P1 5 _ rfl)
      have r5 := (hb.cell (p := ⟨g3, _, none⟩) hg3).trans (P3 5 _ rfl)
      simp only [Nat.add_zero] at p0 r0
      have t1 : (k : Int) < (L.length : Int) := by omega
      have t0 : (0 : Int) ≤ (k : Int) := by omega
      have hbn0 : Below w.heap.size w wr.drew := hb.drew
      clear P1 P3 k1 k3 q1 q3
      generalize L[k].expr.length = nx at *
      generalize L[k].kind = x0 at *
      generalize L[k].name = x1 at *
      generalize L[k].ix = x2 at *
      generalize L[k].line = x4 at *
      generalize L[k].col = x5 at *
      go_wp2_with fail
      refine wp_region_noPanic ?_
      refine wp_region_held_drew (S := fun w' => w'.cell? ⟨g1, o1 + k * 6, none⟩ = some (.int .i64 x0) ∧ w'.cell? ⟨g1, o1 + k * 6 + 1, none⟩ = some (.string x1) ∧ w'.cell? ⟨g1, o1 + k * 6 + 2, none⟩ = some (.int .i64 x2) ∧ w'.cell? ⟨g1, o1 + k * 6 + 3, none⟩ = some (.slice va1 nx vc1) ∧ w'.cell? ⟨g1, o1 + k * 6 + 4, none⟩ = some (.int .i64 x4) ∧ w'.cell? ⟨g1, o1 + k * 6 + 5, none⟩ = some (.int .i64 x5) ∧ w'.cell? ⟨g3, o3 + k * 6, none⟩ = some (.int .i64 x0) ∧ w'.cell? ⟨g3, o3 + k * 6 + 1, none⟩ = some (.string x1) ∧ w'.cell? ⟨g3, o3 + k * 6 + 2, none⟩ = some (.int .i64 x2) ∧ w'.cell? ⟨g3, o3 + k * 6 + 3, none⟩ = some (.slice va3 nx vc3) ∧ w'.cell? ⟨g3, o3 + k * 6 + 4, none⟩ = some (.int .i64 x4) ∧ w'.cell? ⟨g3, o3 + k * 6 + 5, none⟩ = some (.int .i64 x5)) (by kernel_rfl) ?_ (fun hHeld => ?_)
      · (try dsimp only)
        exact ⟨p0, p1, p2, p3, p4, p5, r0, r1, r2, r3, r4, r5⟩
      refine tkY 0 ⟨some 17, .move (.tmp 0), 78, "sound.go:283", #[], none⟩ ?_ rfl ⟨by rfl, ?_⟩ ?_
      rotate_left
      · intro wz hSz; (try dsimp only at hSz); go_simp; all_goals (with_reducible rfl)
      (try simp only [Act.put, List.setIfInBounds_toArray, List.set_cons_zero, List.set_cons_succ])
      refine tkY 1 ⟨some 18, .move (.tmp 5), 3, "sound.go:283", #[], none⟩ ?_ rfl ⟨by rfl, ?_⟩ ?_
      rotate_left
      · intro wz hSz; (try dsimp only at hSz); go_simp; all_goals (with_reducible rfl)
      (try simp only [Act.put, List.setIfInBounds_toArray, List.set_cons_zero, List.set_cons_succ])
      refine tkY 2 ⟨some 19, .indexAddr 78 (.tmp 17) (.tmp 18), 0, "sound.go:283", #[⟨0, .data⟩, ⟨1, .data⟩], none⟩ ?_ rfl ⟨by rfl, ?_⟩ ?_
      rotate_left
      · intro wz hSz; (try dsimp only at hSz); go_simp; all_goals (with_reducible rfl)
      (try simp only [Act.put, List.setIfInBounds_toArray, List.set_cons_zero, List.set_cons_succ])
      refine tkY 3 ⟨some 20, .fieldAddr 133 (.tmp 19) 0, 0, "sound.go:283", #[⟨2, .data⟩], none⟩ ?_ rfl ⟨by rfl, ?_⟩ ?_
      rotate_left
      · intro wz hSz; (try dsimp only at hSz); go_simp; all_goals (with_reducible rfl)
      (try simp only [Act.put, List.setIfInBounds_toArray, List.set_cons_zero, List.set_cons_succ])
      refine tkY 4 ⟨some 21, .load 3 (.tmp 20), 3, "sound.go:283", #[⟨3, .data⟩], none⟩ ?_ rfl ⟨by rfl, ?_⟩ ?_
      rotate_left
      · intro wz hSz; (try dsimp only at hSz); go_simp; all_goals (with_reducible rfl)
      (try simp only [Act.put, List.setIfInBounds_toArray, List.set_cons_zero, List.set_cons_succ])
      refine tkY 5 ⟨some 22, .move (.tmp 1), 78, "sound.go:283", #[], none⟩ ?_ rfl ⟨by rfl, ?_⟩ ?_
      rotate_left
      · intro wz hSz; (try dsimp only at hSz); go_simp; all_goals (with_reducible rfl)
      (try simp only [Act.put, List.setIfInBounds_toArray, List.set_cons_zero, List.set_cons_succ])
      refine tkY 6 ⟨some 23, .move (.tmp 5), 3, "sound.go:283", #[], none⟩ ?_ rfl ⟨by rfl, ?_⟩ ?_
      rotate_left
      · intro wz hSz; (try dsimp only at hSz); go_simp; all_goals (with_reducible rfl)
      (try simp only [Act.put, List.setIfInBounds_toArray, List.set_cons_zero, List.set_cons_succ])
      refine tkY 7 ⟨some 24, .indexAddr 78 (.tmp 22) (.tmp 23), 0, "sound.go:283", #[⟨5, .data⟩, ⟨6, .data⟩], none⟩ ?_ rfl ⟨by rfl, ?_⟩ ?_
      rotate_left
      · intro wz hSz; (try dsimp only at hSz); go_simp; all_goals (with_reducible rfl)
      (try simp only [Act.put, List.setIfInBounds_toArray, List.set_cons_zero, List.set_cons_succ])
      refine tkY 8 ⟨some 25, .fieldAddr 133 (.tmp 24) 0, 0, "sound.go:283", #[⟨7, .data⟩], none⟩ ?_ rfl ⟨by rfl, ?_⟩ ?_
      rotate_left
      · intro wz hSz; (try dsimp only at hSz); go_simp; all_goals (with_reducible rfl)
      (try simp only [Act.put, List.setIfInBounds_toArray, List.set_cons_zero, List.set_cons_succ])
      refine tkY 9 ⟨some 26, .load 3 (.tmp 25), 3, "sound.go:283", #[⟨8, .data⟩], none⟩ ?_ rfl ⟨by rfl, ?_⟩ ?_
      rotate_left
      · intro wz hSz; (try dsimp only at hSz); go_simp; all_goals (with_reducible rfl)
      (try simp only [Act.put, List.setIfInBounds_toArray, List.set_cons_zero, List.set_cons_succ])
      refine tkY 10 ⟨some 27, .binOp BinOp.neq 3 (.tmp 21) (.tmp 26) 3, 4, "sound.go:283", #[⟨4, .data⟩, ⟨9, .data⟩], none⟩ ?_ rfl ⟨by rfl, ?_⟩ ?_
      rotate_left
      · intro wz hSz; (try dsimp only at hSz); go_simp; all_goals (with_reducible rfl)
      (try simp only [Act.put, List.setIfInBounds_toArray, List.set_cons_zero, List.set_cons_succ])
      refine tkY 11 ⟨some 28, .move (.tmp 27), 4, "sound.go:283", #[⟨10, .data⟩], none⟩ ?_ rfl ⟨by rfl, ?_⟩ ?_
      rotate_left
      · intro wz hSz; (try dsimp only at hSz); go_simp; all_goals (with_reducible rfl)
      (try simp only [Act.put, List.setIfInBounds_toArray, List.set_cons_zero, List.set_cons_succ])
      refine tkY 12 ⟨some 29, .move (.tmp 0), 78, "sound.go:283", #[⟨11, .guard⟩], some (11, false)⟩ ?_ rfl ⟨by rfl, ?_⟩ ?_
      rotate_left
      · intro wz hSz; (try dsimp only at hSz); go_simp; all_goals (with_reducible rfl)
      (try simp only [Act.put, List.setIfInBounds_toArray, List.set_cons_zero, List.set_cons_succ])
      refine tkY 13 ⟨some 30, .move (.tmp 5), 3, "sound.go:283", #[⟨11, .guard⟩], some (11, false)⟩ ?_ rfl ⟨by rfl, ?_⟩ ?_
      rotate_left
      · intro wz hSz; (try dsimp only at hSz); go_simp; all_goals (with_reducible rfl)
      (try simp only [Act.put, List.setIfInBounds_toArray, List.set_cons_zero, List.set_cons_succ])
      refine tkY 14 ⟨some 31, .indexAddr 78 (.tmp 29) (.tmp 30), 0, "sound.go:283", #[⟨12, .data⟩, ⟨13, .data⟩, ⟨11, .guard⟩], some (11, false)⟩ ?_ rfl ⟨by rfl, ?_⟩ ?_
      rotate_left
      · intro wz hSz; (try dsimp only at hSz); go_simp; all_goals (with_reducible rfl)
      (try simp only [Act.put, List.setIfInBounds_toArray, List.set_cons_zero, List.set_cons_succ])
      refine tkY 15 ⟨some 32, .fieldAddr 133 (.tmp 31) 1, 0, "sound.go:283", #[⟨14, .data⟩, ⟨11, .guard⟩], some (11, false)⟩ ?_ rfl ⟨by rfl, ?_⟩ ?_
      rotate_left
      · intro wz hSz; (try dsimp only at hSz); go_simp; all_goals (with_reducible rfl)
      (try simp only [Act.put, List.setIfInBounds_toArray, List.set_cons_zero, List.set_cons_succ])
      refine tkY 16 ⟨some 33, .load 9 (.tmp 32), 9, "sound.go:283", #[⟨15, .data⟩, ⟨11, .guard⟩], some (11, false)⟩ ?_ rfl ⟨by rfl, ?_⟩ ?_
      rotate_left
      · intro wz hSz; (try dsimp only at hSz); go_simp; all_goals (with_reducible rfl)
      (try simp only [Act.put, List.setIfInBounds_toArray, List.set_cons_zero, List.set_cons_succ])
      refine tkY 17 ⟨some 34, .move (.tmp 1), 78, "sound.go:283", #[⟨11, .guard⟩], some (11, false)⟩ ?_ rfl ⟨by rfl, ?_⟩ ?_
      rotate_left
      · intro wz hSz; (try dsimp only at hSz); go_simp; all_goals (with_reducible rfl)
      (try simp only [Act.put, List.setIfInBounds_toArray, List.set_cons_zero, List.set_cons_succ])
      refine tkY 18 ⟨some 35, .move (.tmp 5), 3, "sound.go:283", #[⟨11, .guard⟩], some (11, false)⟩ ?_ rfl ⟨by rfl, ?_⟩ ?_
      rotate_left
      · intro wz hSz; (try dsimp only at hSz); go_simp; all_goals (with_reducible rfl)
      (try simp only [Act.put, List.setIfInBounds_toArray, List.set_cons_zero, List.set_cons_succ])
      refine tkY 19 ⟨some 36, .indexAddr 78 (.tmp 34) (.tmp 35), 0, "sound.go:283", #[⟨17, .data⟩, ⟨18, .data⟩, ⟨11, .guard⟩], some (11, false)⟩ ?_ rfl ⟨by rfl, ?_⟩ ?_
      rotate_left
      · intro wz hSz; (try dsimp only at hSz); go_simp; all_goals (with_reducible rfl)
      (try simp only [Act.put, List.setIfInBounds_toArray, List.set_cons_zero, List.set_cons_succ])
      refine tkY 20 ⟨some 37, .fieldAddr 133 (.tmp 36) 1, 0, "sound.go:283", #[⟨19, .data⟩, ⟨11, .guard⟩], some (11, false)⟩ ?_ rfl ⟨by rfl, ?_⟩ ?_
      rotate_left
      · intro wz hSz; (try dsimp only at hSz); go_simp; all_goals (with_reducible rfl)
      (try simp only [Act.put, List.setIfInBounds_toArray, List.set_cons_zero, List.set_cons_succ])
      refine tkY 21 ⟨some 38, .load 9 (.tmp 37), 9, "sound.go:283", #[⟨20, .data⟩, ⟨11, .guard⟩], some (11, false)⟩ ?_ rfl ⟨by rfl, ?_⟩ ?_
      rotate_left
      · intro wz hSz; (try dsimp only at hSz); go_simp; all_goals (with_reducible rfl)
      (try simp only [Act.put, List.setIfInBounds_toArray, List.set_cons_zero, List.set_cons_succ])
      refine tkY 22 ⟨some 39, .binOp BinOp.neq 9 (.tmp 33) (.tmp 38) 9, 4, "sound.go:283", #[⟨16, .data⟩, ⟨21, .data⟩, ⟨11, .guard⟩], some (11, false)⟩ ?_ rfl ⟨by rfl, ?_⟩ ?_
      rotate_left
      · intro wz hSz; (try dsimp only at hSz); go_simp; all_goals (with_reducible rfl)
      (try simp only [Act.put, List.setIfInBounds_toArray, List.set_cons_zero, List.set_cons_succ])
      refine tkY 23 ⟨some 40, .pick (.tmp 28) (.const (Value.bool true)) (.tmp 39), 4, "sound.go:283", #[⟨11, .data⟩, ⟨22, .data⟩], none⟩ ?_ rfl ⟨by rfl, ?_⟩ ?_
      rotate_left
      · intro wz hSz; (try dsimp only at hSz); go_simp; all_goals (with_reducible rfl)
      (try simp only [Act.put, List.setIfInBounds_toArray, List.set_cons_zero, List.set_cons_succ])
      refine tkY 24 ⟨some 41, .move (.tmp 40), 4, "sound.go:283", #[⟨23, .data⟩, ⟨11, .chain⟩], none⟩ ?_ rfl ⟨by rfl, ?_⟩ ?_
      rotate_left
      · intro wz hSz; (try dsimp only at hSz); go_simp; all_goals (with_reducible rfl)
      (try simp only [Act.put, List.setIfInBounds_toArray, List.set_cons_zero, List.set_cons_succ])
      refine tkY 25 ⟨some 42, .move (.tmp 0), 78, "sound.go:283", #[⟨24, .guard⟩], some (24, false)⟩ ?_ rfl ⟨by rfl, ?_⟩ ?_
      rotate_left
      · intro wz hSz; (try dsimp only at hSz); go_simp; all_goals (with_reducible rfl)
      (try simp only [Act.put, List.setIfInBounds_toArray, List.set_cons_zero, List.set_cons_succ])
      refine tkY 26 ⟨some 43, .move (.tmp 5), 3, "sound.go:283", #[⟨24, .guard⟩], some (24, false)⟩ ?_ rfl ⟨by rfl, ?_⟩ ?_
      rotate_left
      · intro wz hSz; (try dsimp only at hSz); go_simp; all_goals (with_reducible rfl)
      (try simp only [Act.put, List.setIfInBounds_toArray, List.set_cons_zero, List.set_cons_succ])
      refine tkY 27 ⟨some 44, .indexAddr 78 (.tmp 42) (.tmp 43), 0, "sound.go:283", #[⟨25, .data⟩, ⟨26, .data⟩, ⟨24, .guard⟩], some (24, false)⟩ ?_ rfl ⟨by rfl, ?_⟩ ?_
      rotate_left
      · intro wz hSz; (try dsimp only at hSz); go_simp; all_goals (with_reducible rfl)
      (try simp only [Act.put, List.setIfInBounds_toArray, List.set_cons_zero, List.set_cons_succ])
      refine tkY 28 ⟨some 45, .fieldAddr 133 (.tmp 44) 2, 0, "sound.go:283", #[⟨27, .data⟩, ⟨24, .guard⟩], some (24, false)⟩ ?_ rfl ⟨by rfl, ?_⟩ ?_
      rotate_left
      · intro wz hSz; (try dsimp only at hSz); go_simp; all_goals (with_reducible rfl)
      (try simp only [Act.put, List.setIfInBounds_toArray, List.set_cons_zero, List.set_cons_succ])
      refine tkY 29 ⟨some 46, .load 3 (.tmp 45), 3, "sound.go:283", #[⟨28, .data⟩, ⟨24, .guard⟩], some (24, false)⟩ ?_ rfl ⟨by rfl, ?_⟩ ?_
      rotate_left
      · intro wz hSz; (try dsimp only at hSz); go_simp; all_goals (with_reducible rfl)
      (try simp only [Act.put, List.setIfInBounds_toArray, List.set_cons_zero, List.set_cons_succ])
      refine tkY 30 ⟨some 47, .move (.tmp 1), 78, "sound.go:283", #[⟨24, .guard⟩], some (24, false)⟩ ?_ rfl ⟨by rfl, ?_⟩ ?_
      rotate_left
      · intro wz hSz; (try dsimp only at hSz); go_simp; all_goals (with_reducible rfl)
      (try simp only [Act.put, List.setIfInBounds_toArray, List.set_cons_zero, List.set_cons_succ])
      refine tkY 31 ⟨some 48, .move (.tmp 5), 3, "sound.go:283", #[⟨24, .guard⟩], some (24, false)⟩ ?_ rfl ⟨by rfl, ?_⟩ ?_
      rotate_left
      · intro wz hSz; (try dsimp only at hSz); go_simp; all_goals (with_reducible rfl)
      (try simp only [Act.put, List.setIfInBounds_toArray, List.set_cons_zero, List.set_cons_succ])
      refine tkY 32 ⟨some 49, .indexAddr 78 (.tmp 47) (.tmp 48), 0, "sound.go:283", #[⟨30, .data⟩, ⟨31, .data⟩, ⟨24, .guard⟩], some (24, false)⟩ ?_ rfl ⟨by rfl, ?_⟩ ?_
      rotate_left
      · intro wz hSz; (try dsimp only at hSz); go_simp; all_goals (with_reducible rfl)
      (try simp only [Act.put, List.setIfInBounds_toArray, List.set_cons_zero, List.set_cons_succ])
      refine tkY 33 ⟨some 50, .fieldAddr 133 (.tmp 49) 2, 0, "sound.go:283", #[⟨32, .data⟩, ⟨24, .guard⟩], some (24, false)⟩ ?_ rfl ⟨by rfl, ?_⟩ ?_
      rotate_left
      · intro wz hSz; (try dsimp only at hSz); go_simp; all_goals (with_reducible rfl)
      (try simp only [Act.put, List.setIfInBounds_toArray, List.set_cons_zero, List.set_cons_succ])
      refine tkY 34 ⟨some 51, .load 3 (.tmp 50), 3, "sound.go:283", #[⟨33, .data⟩, ⟨24, .guard⟩], some (24, false)⟩ ?_ rfl ⟨by rfl, ?_⟩ ?_
      rotate_left
      · intro wz hSz; (try dsimp only at hSz); go_simp; all_goals (with_reducible rfl)
      (try simp only [Act.put, List.setIfInBounds_toArray, List.set_cons_zero, List.set_cons_succ])
      refine tkY 35 ⟨some 52, .binOp BinOp.neq 3 (.tmp 46) (.tmp 51) 3, 4, "sound.go:283", #[⟨29, .data⟩, ⟨34, .data⟩, ⟨24, .guard⟩], some (24, false)⟩ ?_ rfl ⟨by rfl, ?_⟩ ?_
      rotate_left
      · intro wz hSz; (try dsimp only at hSz); go_simp; all_goals (with_reducible rfl)
      (try simp only [Act.put, List.setIfInBounds_toArray, List.set_cons_zero, List.set_cons_succ])
      refine tkY 36 ⟨some 53, .pick (.tmp 41) (.const (Value.bool true)) (.tmp 52), 4, "sound.go:283", #[⟨24, .data⟩, ⟨35, .data⟩], none⟩ ?_ rfl ⟨by rfl, ?_⟩ ?_
      rotate_left
      · intro wz hSz; (try dsimp only at hSz); go_simp; all_goals (with_reducible rfl)
      (try simp only [Act.put, List.setIfInBounds_toArray, List.set_cons_zero, List.set_cons_succ])
      refine tkY 37 ⟨some 54, .move (.tmp 53), 4, "sound.go:283", #[⟨36, .data⟩, ⟨24, .chain⟩], none⟩ ?_ rfl ⟨by rfl, ?_⟩ ?_
      rotate_left
      · intro wz hSz; (try dsimp only at hSz); go_simp; all_goals (with_reducible rfl)
      (try simp only [Act.put, List.setIfInBounds_toArray, List.set_cons_zero, List.set_cons_succ])
      refine tkY 38 ⟨some 55, .move (.tmp 0), 78, "sound.go:283", #[⟨37, .guard⟩], some (37, false)⟩ ?_ rfl ⟨by rfl, ?_⟩ ?_
      rotate_left
      · intro wz hSz; (try dsimp only at hSz); go_simp; all_goals (with_reducible rfl)
      (try simp only [Act.put, List.setIfInBounds_toArray, List.set_cons_zero, List.set_cons_succ])
      refine tkY 39 ⟨some 56, .move (.tmp 5), 3, "sound.go:283", #[⟨37, .guard⟩], some (37, false)⟩ ?_ rfl ⟨by rfl, ?_⟩ ?_
      rotate_left
      · intro wz hSz; (try dsimp only at hSz); go_simp; all_goals (with_reducible rfl)
      (try simp only [Act.put, List.setIfInBounds_toArray, List.set_cons_zero, List.set_cons_succ])
      refine tkY 40 ⟨some 57, .indexAddr 78 (.tmp 55) (.tmp 56), 0, "sound.go:283", #[⟨38, .data⟩, ⟨39, .data⟩, ⟨37, .guard⟩], some (37, false)⟩ ?_ rfl ⟨by rfl, ?_⟩ ?_
      rotate_left
      · intro wz hSz; (try dsimp only at hSz); go_simp; all_goals (with_reducible rfl)
      (try simp only [Act.put, List.setIfInBounds_toArray, List.set_cons_zero, List.set_cons_succ])
      refine tkY 41 ⟨some 58, .fieldAddr 133 (.tmp 57) 4, 0, "sound.go:283", #[⟨40, .data⟩, ⟨37, .guard⟩], some (37, false)⟩ ?_ rfl ⟨by rfl, ?_⟩ ?_
      rotate_left
      · intro wz hSz; (try dsimp only at hSz); go_simp; all_goals (with_reducible rfl)
      (try simp only [Act.put, List.setIfInBounds_toArray, List.set_cons_zero, List.set_cons_succ])
      refine tkY 42 ⟨some 59, .load 86 (.tmp 58), 86, "sound.go:283", #[⟨41, .data⟩, ⟨37, .guard⟩], some (37, false)⟩ ?_ rfl ⟨by rfl, ?_⟩ ?_
      rotate_left
      · intro wz hSz; (try dsimp only at hSz); go_simp; all_goals (with_reducible rfl)
      (try simp only [Act.put, List.setIfInBounds_toArray, List.set_cons_zero, List.set_cons_succ])
      refine tkY 43 ⟨some 60, .move (.tmp 1), 78, "sound.go:283", #[⟨37, .guard⟩], some (37, false)⟩ ?_ rfl ⟨by rfl, ?_⟩ ?_
      rotate_left
      · intro wz hSz; (try dsimp only at hSz); go_simp; all_goals (with_reducible rfl)
      (try simp only [Act.put, List.setIfInBounds_toArray, List.set_cons_zero, List.set_cons_succ])
      refine tkY 44 ⟨some 61, .move (.tmp 5), 3, "sound.go:283", #[⟨37, .guard⟩], some (37, false)⟩ ?_ rfl ⟨by rfl, ?_⟩ ?_
      rotate_left
      · intro wz hSz; (try dsimp only at hSz); go_simp; all_goals (with_reducible rfl)
      (try simp only [Act.put, List.setIfInBounds_toArray, List.set_cons_zero, List.set_cons_succ])
      refine tkY 45 ⟨some 62, .indexAddr 78 (.tmp 60) (.tmp 61), 0, "sound.go:283", #[⟨43, .data⟩, ⟨44, .data⟩, ⟨37, .guard⟩], some (37, false)⟩ ?_ rfl ⟨by rfl, ?_⟩ ?_
      rotate_left
      · intro wz hSz; (try dsimp only at hSz); go_simp; all_goals (with_reducible rfl)
      (try simp only [Act.put, List.setIfInBounds_toArray, List.set_cons_zero, List.set_cons_succ])
      refine tkY 46 ⟨some 63, .fieldAddr 133 (.tmp 62) 4, 0, "sound.go:283", #[⟨45, .data⟩, ⟨37, .guard⟩], some (37, false)⟩ ?_ rfl ⟨by rfl, ?_⟩ ?_
      rotate_left
      · intro wz hSz; (try dsimp only at hSz); go_simp; all_goals (with_reducible rfl)
      (try simp only [Act.put, List.setIfInBounds_toArray, List.set_cons_zero, List.set_cons_succ])
      refine tkY 47 ⟨some 64, .load 86 (.tmp 63), 86, "sound.go:283", #[⟨46, .data⟩, ⟨37, .guard⟩], some (37, false)⟩ ?_ rfl ⟨by rfl, ?_⟩ ?_
      rotate_left
      · intro wz hSz; (try dsimp only at hSz); go_simp; all_goals (with_reducible rfl)
      (try simp only [Act.put, List.setIfInBounds_toArray, List.set_cons_zero, List.set_cons_succ])
      refine tkY 48 ⟨some 65, .binOp BinOp.neq 86 (.tmp 59) (.tmp 64) 86, 4, "sound.go:283", #[⟨42, .data⟩, ⟨47, .data⟩, ⟨37, .guard⟩], some (37, false)⟩ ?_ rfl ⟨by rfl, ?_⟩ ?_
      rotate_left
      · intro wz hSz; (try dsimp only at hSz); go_simp; all_goals (with_reducible rfl)
      (try simp only [Act.put, List.setIfInBounds_toArray, List.set_cons_zero, List.set_cons_succ])
      refine tkY 49 ⟨some 66, .pick (.tmp 54) (.const (Value.bool true)) (.tmp 65), 4, "sound.go:283", #[⟨37, .data⟩, ⟨48, .data⟩], none⟩ ?_ rfl ⟨by rfl, ?_⟩ ?_
      rotate_left
      · intro wz hSz; (try dsimp only at hSz); go_simp; all_goals (with_reducible rfl)
      (try simp only [Act.put, List.setIfInBounds_toArray, List.set_cons_zero, List.set_cons_succ])
      refine tkY 50 ⟨some 67, .move (.tmp 66), 4, "sound.go:283", #[⟨49, .data⟩, ⟨37, .chain⟩], none⟩ ?_ rfl ⟨by rfl, ?_⟩ ?_
      rotate_left
      · intro wz hSz; (try dsimp only at hSz); go_simp; all_goals (with_reducible rfl)
      (try simp only [Act.put, List.setIfInBounds_toArray, List.set_cons_zero, List.set_cons_succ])
      refine tkY 51 ⟨some 68, .move (.tmp 0), 78, "sound.go:283", #[⟨50, .guard⟩], some (50, false)⟩ ?_ rfl ⟨by rfl, ?_⟩ ?_
      rotate_left
      · intro wz hSz; (try dsimp only at hSz); go_simp; all_goals (with_reducible rfl)
      (try simp only [Act.put, List.setIfInBounds_toArray, List.set_cons_zero, List.set_cons_succ])
      refine tkY 52 ⟨some 69, .move (.tmp 5), 3, "sound.go:283", #[⟨50, .guard⟩], some (50, false)⟩ ?_ rfl ⟨by rfl, ?_⟩ ?_
      rotate_left
      · intro wz hSz; (try dsimp only at hSz); go_simp; all_goals (with_reducible rfl)
      (try simp only [Act.put, List.setIfInBounds_toArray, List.set_cons_zero, List.set_cons_succ])
      refine tkY 53 ⟨some 70, .indexAddr 78 (.tmp 68) (.tmp 69), 0, "sound.go:283", #[⟨51, .data⟩, ⟨52, .data⟩, ⟨50, .guard⟩], some (50, false)⟩ ?_ rfl ⟨by rfl, ?_⟩ ?_
      rotate_left
      · intro wz hSz; (try dsimp only at hSz); go_simp; all_goals (with_reducible rfl)
      (try simp only [Act.put, List.setIfInBounds_toArray, List.set_cons_zero, List.set_cons_succ])
      refine tkY 54 ⟨some 71, .fieldAddr 133 (.tmp 70) 3, 0, "sound.go:283", #[⟨53, .data⟩, ⟨50, .guard⟩], some (50, false)⟩ ?_ rfl ⟨by rfl, ?_⟩ ?_
      rotate_left
      · intro wz hSz; (try dsimp only at hSz); go_simp; all_goals (with_reducible rfl)
      (try simp only [Act.put, List.setIfInBounds_toArray, List.set_cons_zero, List.set_cons_succ])
      refine tkY 55 ⟨some 72, .load 32 (.tmp 71), 32, "sound.go:283", #[⟨54, .data⟩, ⟨50, .guard⟩], some (50, false)⟩ ?_ rfl ⟨by rfl, ?_⟩ ?_
      rotate_left
      · intro wz hSz; (try dsimp only at hSz); go_simp; all_goals (with_reducible rfl)
      (try simp only [Act.put, List.setIfInBounds_toArray, List.set_cons_zero, List.set_cons_succ])
      refine tkY 56 ⟨some 73, .move (.tmp 1), 78, "sound.go:283", #[⟨50, .guard⟩], some (50, false)⟩ ?_ rfl ⟨by rfl, ?_⟩ ?_
      rotate_left
      · intro wz hSz; (try dsimp only at hSz); go_simp; all_goals (with_reducible rfl)
      (try simp only [Act.put, List.setIfInBounds_toArray, List.set_cons_zero, List.set_cons_succ])
      refine tkY 57 ⟨some 74, .move (.tmp 5), 3, "sound.go:283", #[⟨50, .guard⟩], some (50, false)⟩ ?_ rfl ⟨by rfl, ?_⟩ ?_
      rotate_left
      · intro wz hSz; (try dsimp only at hSz); go_simp; all_goals (with_reducible rfl)
      (try simp only [Act.put, List.setIfInBounds_toArray, List.set_cons_zero, List.set_cons_succ])
      refine tkY 58 ⟨some 75, .indexAddr 78 (.tmp 73) (.tmp 74), 0, "sound.go:283", #[⟨56, .data⟩, ⟨57, .data⟩, ⟨50, .guard⟩], some (50, false)⟩ ?_ rfl ⟨by rfl, ?_⟩ ?_
      rotate_left
      · intro wz hSz; (try dsimp only at hSz); go_simp; all_goals (with_reducible rfl)
      (try simp only [Act.put, List.setIfInBounds_toArray, List.set_cons_zero, List.set_cons_succ])
      refine tkY 59 ⟨some 76, .fieldAddr 133 (.tmp 75) 3, 0, "sound.go:283", #[⟨58, .data⟩, ⟨50, .guard⟩], some (50, false)⟩ ?_ rfl ⟨by rfl, ?_⟩ ?_
      rotate_left
      · intro wz hSz; (try dsimp only at hSz); go_simp; all_goals (with_reducible rfl)
      (try simp only [Act.put, List.setIfInBounds_toArray, List.set_cons_zero, List.set_cons_succ])
      refine tkY 60 ⟨some 77, .load 32 (.tmp 76), 32, "sound.go:283", #[⟨59, .data⟩, ⟨50, .guard⟩], some (50, false)⟩ ?_ rfl ⟨by rfl, ?_⟩ ?_
      rotate_left
      · intro wz hSz; (try dsimp only at hSz); go_simp; all_goals (with_reducible rfl)
      (try simp only [Act.put, List.setIfInBounds_toArray, List.set_cons_zero, List.set_cons_succ])
      refine wpAnyH_ready (rs := [61]) (by kernel_rfl) (by simp) ?_
      refine AllReadyH.cons (o := ⟨some 78, .call { callee := Callee.value (.func 15), args := #[.tmp 72, .tmp 77], argTypes := #[32, 32] }, 4, "sound.go:283", #[⟨55, .data⟩, ⟨60, .data⟩, ⟨50, .chain⟩, ⟨50, .guard⟩], some (50, false)⟩) rfl (fun K hK => ?_) AllReadyH.nil
      go_simp
      go_at_call 15
      (with_reducible refine Calls.mono (hN _ (by exact hbn0)) ?_)
      rintro e wn ⟨rfl, hbn⟩
      go_wp2_with fail
      refine hK.out _ _ ?_ (fun hHeld => ?_)
      · (try dsimp only)
        obtain ⟨h0, h1, h2, h3, h4, h5, h6, h7, h8, h9, h10, h11⟩ := hHeld; exact ⟨(hbn.cell (p := ⟨g1, _, none⟩) (cell_ltF h0)).trans h0, (hbn.cell (p := ⟨g1, _, none⟩) (cell_ltF h1)).trans h1, (hbn.cell (p := ⟨g1, _, none⟩) (cell_ltF h2)).trans h2, (hbn.cell (p := ⟨g1, _, none⟩) (cell_ltF h3)).trans h3, (hbn.cell (p := ⟨g1, _, none⟩) (cell_ltF h4)).trans h4, (hbn.cell (p := ⟨g1, _, none⟩) (cell_ltF h5)).trans h5, (hbn.cell (p := ⟨g3, _, none⟩) (cell_ltF h6)).trans h6, (hbn.cell (p := ⟨g3, _, none⟩) (cell_ltF h7)).trans h7, (hbn.cell (p := ⟨g3, _, none⟩) (cell_ltF h8)).trans h8, (hbn.cell (p := ⟨g3, _, none⟩) (cell_ltF h9)).trans h9, (hbn.cell (p := ⟨g3, _, none⟩) (cell_ltF h10)).trans h10, (hbn.cell (p := ⟨g3, _, none⟩) (cell_ltF h11)).trans h11⟩
      clear hK K
      (try simp only [Act.put, List.setIfInBounds_toArray, List.set_cons_zero, List.set_cons_succ])
      refine tkY 62 ⟨some 79, .unOp UnOp.not 4 (.tmp 78), 4, "sound.go:283", #[⟨61, .data⟩, ⟨50, .guard⟩], some (50, false)⟩ ?_ rfl ⟨by rfl, ?_⟩ ?_
      rotate_left
      · intro wz hSz; (try dsimp only at hSz); go_simp; all_goals (with_reducible rfl)
      (try simp only [Act.put, List.setIfInBounds_toArray, List.set_cons_zero, List.set_cons_succ])
      refine tkY 63 ⟨some 80, .pick (.tmp 67) (.const (Value.bool true)) (.tmp 79), 4, "sound.go:283", #[⟨50, .data⟩, ⟨62, .data⟩], none⟩ ?_ rfl ⟨by rfl, ?_⟩ ?_
      rotate_left
      · intro wz hSz; (try dsimp only at hSz); go_simp; all_goals (with_reducible rfl)
      (try simp only [Act.put, List.setIfInBounds_toArray, List.set_cons_zero, List.set_cons_succ])
      refine wpAnyH_done (by kernel_rfl) ?_ _
      refine NoPanic.normal ?_
      go_wp2_with fail
      have hb2 : Hid (Below w.heap.size w wn) := bel_after hbn0 hbn0.size hbn
      go_roundw
      case rel => exact ⟨k + 1, by omega, by go_num, hb2⟩
      case measure => simp [intOf]; omega
    · have t1 : ¬ (k : Int) < (L.length : Int) := by omega
      clear k1 k3
      go_wp2_with fail
      go_ret
      exact ⟨rfl, hb⟩
set_option maxRecDepth 100000 in
set_option maxHeartbeats 8000000 in
theorem sameStage_any (x : Ts) (ea1 da1 la1 na1 ea2 da2 la2 na2 : Option Addr) (ec1 dc1 lc1 nc1 ec2 dc2 lc2 nc2 : Nat) (S1 S2 : Nat → Prop) (w : World) (h1 : TsR S1 w [.string x.name, .int .i64 x.id, .int .u64 x.green, .slice ea1 x.enter.length ec1, .slice da1 x.during.length dc1, .slice la1 x.leave.length lc1, .slice na1 x.nexts.length nc1] x) (h2 : TsR S2 w [.string x.name, .int .i64 x.id, .int .u64 x.green, .slice ea2 x.enter.length ec2, .slice da2 x.during.length dc2, .slice la2 x.leave.length lc2, .slice na2 x.nexts.length nc2] x) :
    Calls Tryz.prog 47 #[.agg #[.string x.name, .int .i64 x.id, .int .u64 x.green, .slice ea1 x.enter.length ec1, .slice da1 x.during.length dc1, .slice la1 x.leave.length lc1, .slice na1 x.nexts.length nc1], .agg #[.string x.name, .int .i64 x.id, .int .u64 x.green, .slice ea2 x.enter.length ec2, .slice da2 x.during.length dc2, .slice la2 x.leave.length lc2, .slice na2 x.nexts.length nc2]] w fun e w' => e = .returned (.bool true) ∧ Below w.heap.size w w' := by
  obtain ⟨_, _, _, _, e1, q1, q2, q3, q4⟩ := h1
  obtain ⟨_, _, _, _, e2, t1', t2', t3', t4'⟩ := h2
  simp only [List.cons.injEq, and_true, true_and] at e1 e2
  obtain ⟨rfl, rfl, rfl, rfl⟩ := e1
  obtain ⟨rfl, rfl, rfl, rfl⟩ := e2
  obtain ⟨_, _, e1, hlen, k1⟩ := Rows.any q4
  obtain ⟨_, _, e2, -, k3⟩ := Rows.any t4'
  injection e1 with e1 _ e1'
  injection e2 with e2 _ e2'
  subst e1
  subst e1'
  subst e2
  subst e2'
  clear q4 t4'
  have hb0 : Below w.heap.size w ((w.alloc (.cells #[.string x.name, .int .i64 x.id, .int .u64 x.green, .slice ea1 x.enter.length ec1, .slice da1 x.during.length dc1, .slice la1 x.leave.length lc1, .slice na1 x.nexts.length nc1] 81)).alloc (.cells #[.string x.name, .int .i64 x.id, .int .u64 x.green, .slice ea2 x.enter.length ec2, .slice da2 x.during.length dc2, .slice la2 x.leave.length lc2, .slice na2 x.nexts.length nc2] 81)) := belA
  have K1 : Has ((w.alloc (.cells #[.string x.name, .int .i64 x.id, .int .u64 x.green, .slice ea1 x.enter.length ec1, .slice da1 x.during.length dc1, .slice la1 x.leave.length lc1, .slice na1 x.nexts.length nc1] 81)).alloc (.cells #[.string x.name, .int .i64 x.id, .int .u64 x.green, .slice ea2 x.enter.length ec2, .slice da2 x.during.length dc2, .slice la2 x.leave.length lc2, .slice na2 x.nexts.length nc2] 81)) w.heap.size #[.string x.name, .int .i64 x.id, .int .u64 x.green, .slice ea1 x.enter.length ec1, .slice da1 x.during.length dc1, .slice la1 x.leave.length lc1, .slice na1 x.nexts.length nc1] := (Has.new _ _ _ rfl).alloc _
  have K2 : Has ((w.alloc (.cells #[.string x.name, .int .i64 x.id, .int .u64 x.green, .slice ea1 x.enter.length ec1, .slice da1 x.during.length dc1, .slice la1 x.leave.length lc1, .slice na1 x.nexts.length nc1] 81)).alloc (.cells #[.string x.name, .int .i64 x.id, .int .u64 x.green, .slice ea2 x.enter.length ec2, .slice da2 x.during.length dc2, .slice la2 x.leave.length lc2, .slice na2 x.nexts.length nc2] 81)) (w.heap.size + 1) #[.string x.name, .int .i64 x.id, .int .u64 x.green, .slice ea2 x.enter.length ec2, .slice da2 x.during.length dc2, .slice la2 x.leave.length lc2, .slice na2 x.nexts.length nc2] := Has.new _ _ _ (by simp)
  go_enter Tryz.func47, Tryz.ntmps47
  go_wp2_with fail
  generalize ((w.alloc (.cells #[.string x.name, .int .i64 x.id, .int .u64 x.green, .slice ea1 x.enter.length ec1, .slice da1 x.during.length dc1, .slice la1 x.leave.length lc1, .slice na1 x.nexts.length nc1] 81)).alloc (.cells #[.string x.name, .int .i64 x.id, .int .u64 x.green, .slice ea2 x.enter.length ec2, .slice da2 x.during.length dc2, .slice la2 x.leave.length lc2, .slice na2 x.nexts.length nc2] 81)) = Y at *
  go_loopw [5] (fun t wr => ∃ k : Nat, k ≤ x.nexts.length ∧ t = .int .i64 (k : Int) ∧ Hid (Below Y.heap.size Y wr)) (fun t _ => x.nexts.length - (intOf t).toNat)
  case atStart => exact ⟨0, by omega, rfl, Below.refl _ _⟩
  case round =>
    obtain ⟨k, hk, rfl, hb'⟩ := hrel
    have hb := bel_after hb0 hb0.size hb'.out
    have J1 := K1.below hb'.out
    have J2 := K2.below hb'.out
    by_cases hlt : k < x.nexts.length
    · obtain ⟨g1, o1, rfl, _, hg1, P1⟩ := k1.resolve_left (by intro e; rw [e] at hlt; simp at hlt)
      obtain ⟨g3, o3, rfl, _, hg3, P3⟩ := k3.resolve_left (by intro e; rw [e] at hlt; simp at hlt)
      obtain ⟨cs1, _, ⟨v1, rfl, w1⟩, P1⟩ := P1 k hlt
      obtain ⟨cs3, _, ⟨v3, rfl, w3⟩, P3⟩ := P3 k hlt
      have hl5 : x.nexts[k].wh.length ≤ 2932031007317 := Rows.le w1
      obtain ⟨va1, vc1, rfl, -⟩ := Rows.any w1
      obtain ⟨va3, vc3, rfl, -⟩ := Rows.any w3
      have hN := fun (X : World) (hX : Below w.heap.size w X) => sameNodes_any x.nexts[k].wh _ _ X ((Exs.flat w1).below hX) ((Exs.flat w3).below hX) hl5
      have p0 := (hb.cell (p := ⟨g1, _, none⟩) hg1).trans (P1 0 _ rfl)
      have r0 := (hb.cell (p := ⟨g3, _, none⟩) hg3).trans (P3 0 _ rfl)
      have p1 := (hb.cell (p := ⟨g1, _, none⟩) hg1).trans (P1 1 _ rfl)
      have r1 := (hb.cell (p := ⟨g3, _, none⟩) hg3).trans (P3 1 _ rfl)
      simp only [Nat.add_zero] at p0 r0
      have y1 := J1.2.1 6
      have y2 := J2.2.1 6
      simp only [List.getElem?_toArray, List.getElem?_cons_succ, List.getElem?_cons_zero] at y1 y2
      obtain ⟨_, j1, _⟩ := id J1
      obtain ⟨_, j2, _⟩ := id J2
      have t1 : (k : Int) < (x.nexts.length : Int) := by omega
      have t0 : (0 : Int) ≤ (k : Int) := by omega
      have hbn0 : Below w.heap.size w wr.drew := hb.drew
      clear P1 P3 k1 k3 w1 w3
      generalize x.nexts[k].wh.length = nx at *
      generalize x.nexts[k].dst = x0 at *
      go_wp2_with fail
      refine wp_region_noPanic ?_
      refine wp_region_held_drew (S := fun w' => w'.cell? ⟨w.heap.size, 6, none⟩ = some (.slice (some ⟨g1, o1, none⟩) x.nexts.length nc1) ∧ w'.cell? ⟨w.heap.size + 1, 6, none⟩ = some (.slice (some ⟨g3, o3, none⟩) x.nexts.length nc2) ∧ w'.cell? ⟨g1, o1 + k * 2, none⟩ = some (.int .i64 x0) ∧ w'.cell? ⟨g1, o1 + k * 2 + 1, none⟩ = some (.slice va1 nx vc1) ∧ w'.cell? ⟨g3, o3 + k * 2, none⟩ = some (.int .i64 x0) ∧ w'.cell? ⟨g3, o3 + k * 2 + 1, none⟩ = some (.slice va3 nx vc3)) (by kernel_rfl) ?_ (fun hHeld => ?_)
      · (try dsimp only)
        exact ⟨y1, y2, p0, p1, r0, r1⟩
      refine tkY 0 ⟨some 41, .fieldAddr 81 (.tmp 2) 6, 0, "sound.go:296", #[], none⟩ ?_ rfl ⟨by rfl, ?_⟩ ?_
      rotate_left
      · intro wz hSz; (try dsimp only at hSz); go_simp; all_goals (with_reducible rfl)
      (try simp only [Act.put, List.setIfInBounds_toArray, List.set_cons_zero, List.set_cons_succ])
      refine tkY 1 ⟨some 42, .load 79 (.tmp 41), 79, "sound.go:296", #[⟨0, .data⟩], none⟩ ?_ rfl ⟨by rfl, ?_⟩ ?_
      rotate_left
      · intro wz hSz; (try dsimp only at hSz); go_simp; all_goals (with_reducible rfl)
      (try simp only [Act.put, List.setIfInBounds_toArray, List.set_cons_zero, List.set_cons_succ])
      refine tkY 2 ⟨some 43, .move (.tmp 5), 3, "sound.go:296", #[], none⟩ ?_ rfl ⟨by rfl, ?_⟩ ?_
      rotate_left
      · intro wz hSz; (try dsimp only at hSz); go_simp; all_goals (with_reducible rfl)
      (try simp only [Act.put, List.setIfInBounds_toArray, List.set_cons_zero, List.set_cons_succ])
      refine tkY 3 ⟨some 44, .indexAddr 79 (.tmp 42) (.tmp 43), 0, "sound.go:296", #[⟨1, .data⟩, ⟨2, .data⟩], none⟩ ?_ rfl ⟨by rfl, ?_⟩ ?_
      rotate_left
      · intro wz hSz; (try dsimp only at hSz); go_simp; all_goals (with_reducible rfl)
      (try simp only [Act.put, List.setIfInBounds_toArray, List.set_cons_zero, List.set_cons_succ])
      refine tkY 4 ⟨some 45, .fieldAddr 84 (.tmp 44) 0, 0, "sound.go:296", #[⟨3, .data⟩], none⟩ ?_ rfl ⟨by rfl, ?_⟩ ?_
      rotate_left
      · intro wz hSz; (try dsimp only at hSz); go_simp; all_goals (with_reducible rfl)
      (try simp only [Act.put, List.setIfInBounds_toArray, List.set_cons_zero, List.set_cons_succ])
      refine tkY 5 ⟨some 46, .load 3 (.tmp 45), 3, "sound.go:296", #[⟨4, .data⟩], none⟩ ?_ rfl ⟨by rfl, ?_⟩ ?_
      rotate_left
      · intro wz hSz; (try dsimp only at hSz); go_simp; all_goals (with_reducible rfl)
      (try simp only [Act.put, List.setIfInBounds_toArray, List.set_cons_zero, List.set_cons_succ])
      refine tkY 6 ⟨some 47, .fieldAddr 81 (.tmp 3) 6, 0, "sound.go:296", #[], none⟩ ?_ rfl ⟨by rfl, ?_⟩ ?_
      rotate_left
      · intro wz hSz; (try dsimp only at hSz); go_simp; all_goals (with_reducible rfl)
      (try simp only [Act.put, List.setIfInBounds_toArray, List.set_cons_zero, List.set_cons_succ])
      refine tkY 7 ⟨some 48, .load 79 (.tmp 47), 79, "sound.go:296", #[⟨6, .data⟩], none⟩ ?_ rfl ⟨by rfl, ?_⟩ ?_
      rotate_left
      · intro wz hSz; (try dsimp only at hSz); go_simp; all_goals (with_reducible rfl)
      (try simp only [Act.put, List.setIfInBounds_toArray, List.set_cons_zero, List.set_cons_succ])
      refine tkY 8 ⟨some 49, .move (.tmp 5), 3, "sound.go:296", #[], none⟩ ?_ rfl ⟨by rfl, ?_⟩ ?_
      rotate_left
      · intro wz hSz; (try dsimp only at hSz); go_simp; all_goals (with_reducible rfl)
      (try simp only [Act.put, List.setIfInBounds_toArray, List.set_cons_zero, List.set_cons_succ])
      refine tkY 9 ⟨some 50, .indexAddr 79 (.tmp 48) (.tmp 49), 0, "sound.go:296", #[⟨7, .data⟩, ⟨8, .data⟩], none⟩ ?_ rfl ⟨by rfl, ?_⟩ ?_
      rotate_left
      · intro wz hSz; (try dsimp only at hSz); go_simp; all_goals (with_reducible rfl)
      (try simp only [Act.put, List.setIfInBounds_toArray, List.set_cons_zero, List.set_cons_succ])
      refine tkY 10 ⟨some 51, .fieldAddr 84 (.tmp 50) 0, 0, "sound.go:296", #[⟨9, .data⟩], none⟩ ?_ rfl ⟨by rfl, ?_⟩ ?_
      rotate_left
      · intro wz hSz; (try dsimp only at hSz); go_simp; all_goals (with_reducible rfl)
      (try simp only [Act.put, List.setIfInBounds_toArray, List.set_cons_zero, List.set_cons_succ])
      refine tkY 11 ⟨some 52, .load 3 (.tmp 51), 3, "sound.go:296", #[⟨10, .data⟩], none⟩ ?_ rfl ⟨by rfl, ?_⟩ ?_
      rotate_left
      · intro wz hSz; (try dsimp only at hSz); go_simp; all_goals (with_reducible rfl)
      (try simp only [Act.put, List.setIfInBounds_toArray, List.set_cons_zero, List.set_cons_succ])
      refine tkY 12 ⟨some 53, .binOp BinOp.neq 3 (.tmp 46) (.tmp 52) 3, 4, "sound.go:296", #[⟨5, .data⟩, ⟨11, .data⟩], none⟩ ?_ rfl ⟨by rfl, ?_⟩ ?_
      rotate_left
      · intro wz hSz; (try dsimp only at hSz); go_simp; all_goals (with_reducible rfl)
      (try simp only [Act.put, List.setIfInBounds_toArray, List.set_cons_zero, List.set_cons_succ])
      refine tkY 13 ⟨some 54, .move (.tmp 53), 4, "sound.go:296", #[⟨12, .data⟩], none⟩ ?_ rfl ⟨by rfl, ?_⟩ ?_
      rotate_left
      · intro wz hSz; (try dsimp only at hSz); go_simp; all_goals (with_reducible rfl)
      (try simp only [Act.put, List.setIfInBounds_toArray, List.set_cons_zero, List.set_cons_succ])
      refine tkY 14 ⟨some 55, .fieldAddr 81 (.tmp 2) 6, 0, "sound.go:296", #[⟨13, .guard⟩], some (13, false)⟩ ?_ rfl ⟨by rfl, ?_⟩ ?_
      rotate_left
      · intro wz hSz; (try dsimp only at hSz); go_simp; all_goals (with_reducible rfl)
      (try simp only [Act.put, List.setIfInBounds_toArray, List.set_cons_zero, List.set_cons_succ])
      refine tkY 15 ⟨some 56, .load 79 (.tmp 55), 79, "sound.go:296", #[⟨14, .data⟩, ⟨13, .guard⟩], some (13, false)⟩ ?_ rfl ⟨by rfl, ?_⟩ ?_
      rotate_left
      · intro wz hSz; (try dsimp only at hSz); go_simp; all_goals (with_reducible rfl)
      (try simp only [Act.put, List.setIfInBounds_toArray, List.set_cons_zero, List.set_cons_succ])
      refine tkY 16 ⟨some 57, .move (.tmp 5), 3, "sound.go:296", #[⟨13, .guard⟩], some (13, false)⟩ ?_ rfl ⟨by rfl, ?_⟩ ?_
      rotate_left
      · intro wz hSz; (try dsimp only at hSz); go_simp; all_goals (with_reducible rfl)
      (try simp only [Act.put, List.setIfInBounds_toArray, List.set_cons_zero, List.set_cons_succ])
      refine tkY 17 ⟨some 58, .indexAddr 79 (.tmp 56) (.tmp 57), 0, "sound.go:296", #[⟨15, .data⟩, ⟨16, .data⟩, ⟨13, .guard⟩], some (13, false)⟩ ?_ rfl ⟨by rfl, ?_⟩ ?_
      rotate_left
      · intro wz hSz; (try dsimp only at hSz); go_simp; all_goals (with_reducible rfl)
      (try simp only [Act.put, List.setIfInBounds_toArray, List.set_cons_zero, List.set_cons_succ])
      refine tkY 18 ⟨some 59, .fieldAddr 84 (.tmp 58) 1, 0, "sound.go:296", #[⟨17, .data⟩, ⟨13, .guard⟩], some (13, false)⟩ ?_ rfl ⟨by rfl, ?_⟩ ?_
      rotate_left
      · intro wz hSz; (try dsimp only at hSz); go_simp; all_goals (with_reducible rfl)
      (try simp only [Act.put, List.setIfInBounds_toArray, List.set_cons_zero, List.set_cons_succ])
      refine tkY 19 ⟨some 60, .load 32 (.tmp 59), 32, "sound.go:296", #[⟨18, .data⟩, ⟨13, .guard⟩], some (13, false)⟩ ?_ rfl ⟨by rfl, ?_⟩ ?_
      rotate_left
      · intro wz hSz; (try dsimp only at hSz); go_simp; all_goals (with_reducible rfl)
      (try simp only [Act.put, List.setIfInBounds_toArray, List.set_cons_zero, List.set_cons_succ])
      refine tkY 20 ⟨some 61, .fieldAddr 81 (.tmp 3) 6, 0, "sound.go:296", #[⟨13, .guard⟩], some (13, false)⟩ ?_ rfl ⟨by rfl, ?_⟩ ?_
      rotate_left
      · intro wz hSz; (try dsimp only at hSz); go_simp; all_goals (with_reducible rfl)
      (try simp only [Act.put, List.setIfInBounds_toArray, List.set_cons_zero, List.set_cons_succ])
      refine tkY 21 ⟨some 62, .load 79 (.tmp 61), 79, "sound.go:296", #[⟨20, .data⟩, ⟨13, .guard⟩], some (13, false)⟩ ?_ rfl ⟨by rfl, ?_⟩ ?_
      rotate_left
      · intro wz hSz; (try dsimp only at hSz); go_simp; all_goals (with_reducible rfl)
      (try simp only [Act.put, List.setIfInBounds_toArray, List.set_cons_zero, List.set_cons_succ])
      refine tkY 22 ⟨some 63, .move (.tmp 5), 3, "sound.go:296", #[⟨13, .guard⟩], some (13, false)⟩ ?_ rfl ⟨by rfl, ?_⟩ ?_
      rotate_left
      · intro wz hSz; (try dsimp only at hSz); go_simp; all_goals (with_reducible rfl)
      (try simp only [Act.put, List.setIfInBounds_toArray, List.set_cons_zero, List.set_cons_succ])
      refine tkY 23 ⟨some 64, .indexAddr 79 (.tmp 62) (.tmp 63), 0, "sound.go:296", #[⟨21, .data⟩, ⟨22, .data⟩, ⟨13, .guard⟩], some (13, false)⟩ ?_ rfl ⟨by rfl, ?_⟩ ?_
      rotate_left
      · intro wz hSz; (try dsimp only at hSz); go_simp; all_goals (with_reducible rfl)
      (try simp only [Act.put, List.setIfInBounds_toArray, List.set_cons_zero, List.set_cons_succ])
      refine tkY 24 ⟨some 65, .fieldAddr 84 (.tmp 64) 1, 0, "sound.go:296", #[⟨23, .data⟩, ⟨13, .guard⟩], some (13, false)⟩ ?_ rfl ⟨by rfl, ?_⟩ ?_
      rotate_left
      · intro wz hSz; (try dsimp only at hSz); go_simp; all_goals (with_reducible rfl)
      (try simp only [Act.put, List.setIfInBounds_toArray, List.set_cons_zero, List.set_cons_succ])
      refine tkY 25 ⟨some 66, .load 32 (.tmp 65), 32, "sound.go:296", #[⟨24, .data⟩, ⟨13, .guard⟩], some (13, false)⟩ ?_ rfl ⟨by rfl, ?_⟩ ?_
      rotate_left
      · intro wz hSz; (try dsimp only at hSz); go_simp; all_goals (with_reducible rfl)
      (try simp only [Act.put, List.setIfInBounds_toArray, List.set_cons_zero, List.set_cons_succ])
      refine wpAnyH_ready (rs := [26]) (by kernel_rfl) (by simp) ?_
      refine AllReadyH.cons (o := ⟨some 67, .call { callee := Callee.value (.func 15), args := #[.tmp 60, .tmp 66], argTypes := #[32, 32] }, 4, "sound.go:296", #[⟨19, .data⟩, ⟨25, .data⟩, ⟨13, .chain⟩, ⟨13, .guard⟩], some (13, false)⟩) rfl (fun K hK => ?_) AllReadyH.nil
      go_simp
      go_at_call 15
      (with_reducible refine Calls.mono (hN _ (by exact hbn0)) ?_)
      rintro e wn ⟨rfl, hbn⟩
      go_wp2_with fail
      refine hK.out _ _ ?_ (fun hHeld => ?_)
      · (try dsimp only)
        obtain ⟨h0, h1, h2, h3, h4, h5⟩ := hHeld; exact ⟨(hbn.cell (p := ⟨w.heap.size, _, none⟩) (cell_ltF h0)).trans h0, (hbn.cell (p := ⟨w.heap.size + 1, _, none⟩) (cell_ltF h1)).trans h1, (hbn.cell (p := ⟨g1, _, none⟩) (cell_ltF h2)).trans h2, (hbn.cell (p := ⟨g1, _, none⟩) (cell_ltF h3)).trans h3, (hbn.cell (p := ⟨g3, _, none⟩) (cell_ltF h4)).trans h4, (hbn.cell (p := ⟨g3, _, none⟩) (cell_ltF h5)).trans h5⟩
      clear hK K
      (try simp only [Act.put, List.setIfInBounds_toArray, List.set_cons_zero, List.set_cons_succ])
      refine tkY 27 ⟨some 68, .unOp UnOp.not 4 (.tmp 67), 4, "sound.go:296", #[⟨26, .data⟩, ⟨13, .guard⟩], some (13, false)⟩ ?_ rfl ⟨by rfl, ?_⟩ ?_
      rotate_left
      · intro wz hSz; (try dsimp only at hSz); go_simp; all_goals (with_reducible rfl)
      (try simp only [Act.put, List.setIfInBounds_toArray, List.set_cons_zero, List.set_cons_succ])
      refine tkY 28 ⟨some 69, .pick (.tmp 54) (.const (Value.bool true)) (.tmp 68), 4, "sound.go:296", #[⟨13, .data⟩, ⟨27, .data⟩], none⟩ ?_ rfl ⟨by rfl, ?_⟩ ?_
      rotate_left
      · intro wz hSz; (try dsimp only at hSz); go_simp; all_goals (with_reducible rfl)
      (try simp only [Act.put, List.setIfInBounds_toArray, List.set_cons_zero, List.set_cons_succ])
      refine wpAnyH_done (by kernel_rfl) ?_ _
      refine NoPanic.normal ?_
      go_wp2_with fail
      have hb2 : Hid (Below Y.heap.size Y wn) := bel_after hb'.out.drew hb'.out.size hbn
      go_roundw
      case rel => exact ⟨k + 1, by omega, by go_num, hb2⟩
      case measure => simp [intOf]; omega
    · have t1 : ¬ (k : Int) < (x.nexts.length : Int) := by omega
      clear k1 k3
      obtain ⟨_, j1, _⟩ := id J1
      obtain ⟨_, j2, _⟩ := id J2
      go_wp2_with fail
      go_at_call 84
      (with_reducible refine Calls.mono (sameStmts_any x.enter _ _ _ _ wr (q1.below hb) (t1'.below hb)) ?_)
      rintro e wa ⟨rfl, ha⟩
      have hba := bel_after hb hb.size ha
      have J1 := J1.below ha
      have J2 := J2.below ha
      clear j1 j2
      obtain ⟨_, j1, _⟩ := id J1
      obtain ⟨_, j2, _⟩ := id J2
      go_wp2_with fail
      go_at_call 84
      (with_reducible refine Calls.mono (sameStmts_any x.during _ _ _ _ wa (q2.below hba) (t2'.below hba)) ?_)
      rintro e wb ⟨rfl, hb2⟩
      have hbb := bel_after hba hba.size hb2
      have J1 := J1.below hb2
      have J2 := J2.below hb2
      clear j1 j2
      obtain ⟨_, j1, _⟩ := id J1
      obtain ⟨_, j2, _⟩ := id J2
      go_wp2_with fail
      go_at_call 84
      (with_reducible refine Calls.mono (sameStmts_any x.leave _ _ _ _ wb (q3.below hbb) (t3'.below hbb)) ?_)
      rintro e wc ⟨rfl, hb3⟩
      have hbc := bel_after hbb hbb.size hb3
      go_wp2_with fail
      go_ret
      exact ⟨rfl, hbc⟩
end Go.Proofs.YtnicolaphmffkaaGreatDoor
