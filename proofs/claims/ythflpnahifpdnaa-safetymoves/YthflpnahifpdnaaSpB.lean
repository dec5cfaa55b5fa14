import Derived.Test.YthflpnahifpdnaaSpA
import Derived.Deep.RegionHeld3
import Derived.Laws.Cover1
namespace Go.Proofs.Ythflpnahifpdnaa
open Go.RowKit
set_option linter.unusedVariables false

set_option maxRecDepth 100000 in
set_option maxHeartbeats 4000000 in
theorem fromGreen_any (w : World) (b : Nat) (G : List Gp) (C : List Cf) (A I W : List Int) (M : Nat) (vg vc v1 v2 v3 vn : Value) (hs : Sp w b G C A I W M vg vc v1 v2 v3 vn) (ok : SpOk G C A I W M) (k : Nat) (hk : k < G.length) :
    Calls Try.prog 58 #[.pointer (some ⟨b, 0, none⟩), .int .i64 (k : Int)] w fun e w' => e = .returned (.int .i64 (if M.testBit k = true then 2 else if I.getD k 0 < G[k].min then 2 else if 0 < G[k].amber then 3 else 0)) ∧ Below w.heap.size w w' := by
  have hIn := fun (X : World) (hX : Below w.heap.size w X) => in_any X b G C A I W M vg vc v1 v2 v3 vn (hs.below hX) ok k hk
  have hHs := fun (X : World) => has_any M k X ok.m (by have := grid_len ok.grid; omega)
  obtain ⟨va, cg, eG, kG⟩ := hs.g.any
  subst eG
  obtain ⟨g, o, rfl, hg, P⟩ := kG.resolve_left (by intro e; rw [e] at hk; simp at hk)
  have hQ : ∀ (X : World), Below w.heap.size w X → X.cell? ⟨g, o + k * 5, none⟩ = some (.string G[k].name) ∧ X.cell? ⟨g, o + k * 5 + 1, none⟩ = some (.int .i64 G[k].sort) ∧ X.cell? ⟨g, o + k * 5 + 2, none⟩ = some (.int .i64 G[k].min) ∧ X.cell? ⟨g, o + k * 5 + 3, none⟩ = some (.int .i64 G[k].amber) ∧ X.cell? ⟨g, o + k * 5 + 4, none⟩ = some (.int .i64 G[k].lead) := fun X hX => ⟨(hX.cell (p := ⟨g, _, none⟩) hg).trans (P k hk 0 _ rfl), (hX.cell (p := ⟨g, _, none⟩) hg).trans (P k hk 1 _ rfl), (hX.cell (p := ⟨g, _, none⟩) hg).trans (P k hk 2 _ rfl), (hX.cell (p := ⟨g, _, none⟩) hg).trans (P k hk 3 _ rfl), (hX.cell (p := ⟨g, _, none⟩) hg).trans (P k hk 4 _ rfl)⟩
  have t0 : (0 : Int) ≤ (k : Int) := by omega
  have t1 : (k : Int) < (G.length : Int) := by omega
  have BX := hs.bx
  obtain ⟨_, b1, _⟩ := id BX
  obtain ⟨p0, p1, p2, p3, p4⟩ := hQ w (Below.refl _ _)
  clear P kG hs
  generalize I.getD k 0 = yi at *
  generalize G[k].name = x0 at *
  generalize G[k].sort = x1 at *
  generalize G[k].min = x2 at *
  generalize G[k].amber = x3 at *
  generalize G[k].lead = x4 at *
  have BN := BX.alloc (.cells #[.string x0, .int .i64 x1, .int .i64 x2, .int .i64 x3, .int .i64 x4] 58)
  have GN : Has (w.alloc (.cells #[.string x0, .int .i64 x1, .int .i64 x2, .int .i64 x3, .int .i64 x4] 58)) w.heap.size #[.string x0, .int .i64 x1, .int .i64 x2, .int .i64 x3, .int .i64 x4] := Has.new _ _ _ rfl
  have hbN : Below w.heap.size w (w.alloc (.cells #[.string x0, .int .i64 x1, .int .i64 x2, .int .i64 x3, .int .i64 x4] 58)) := belN1
  obtain ⟨_, n1, _⟩ := id BN
  obtain ⟨_, n2, _⟩ := id GN
  cases d0 : M.testBit k with
  | true =>
    rw [d0] at hHs
    rw [if_pos rfl]
    go_enter Try.func58, Try.ntmps58
    go_wp2_with (go_at_call 35; (with_reducible refine Calls.mono (hHs _) ?_); rintro e w2 ⟨rfl, rfl⟩)
    go_ret
    exact ⟨rfl, hbN⟩
  | false =>
    rw [d0] at hHs
    rw [if_neg (by decide)]
    by_cases d : yi < x2
    · rw [if_pos d]
      go_enter Try.func58, Try.ntmps58
      go_upto_region 3 with (go_at_call 35; (with_reducible refine Calls.mono (hHs _) ?_); rintro e w2 ⟨rfl, rfl⟩)
      refine wp_region_noPanic ?_
      refine wp_region_held_drew (S := fun w' => (w'.cell? ⟨b, 0, none⟩ = some (.slice (some ⟨g, o, none⟩) G.length cg)) ∧ (w'.cell? ⟨w.heap.size, 0, none⟩ = some (.string x0) ∧ w'.cell? ⟨w.heap.size, 1, none⟩ = some (.int .i64 x1) ∧ w'.cell? ⟨w.heap.size, 2, none⟩ = some (.int .i64 x2) ∧ w'.cell? ⟨w.heap.size, 3, none⟩ = some (.int .i64 x3) ∧ w'.cell? ⟨w.heap.size, 4, none⟩ = some (.int .i64 x4))) (by kernel_rfl) ?_ (fun hHeld => ?_)
      · (try dsimp only)
        exact ⟨BN.drew.2.1 0, has5 GN.drew⟩
      refine wpAnyH_take (i := 0) (oi := { dst := some 21, op := Op.move (Operand.tmp 0), type := 85, pos := "step.go:45", after := #[], guard := none }) (v := ?_) rfl (by kernel_rfl) (by kernel_rfl) (by kernel_rfl) (fun _ _ _ h => h) (Or.inl ⟨by rfl, ?_⟩) (by assumption) ?_
      rotate_left
      · intro wz hSz; (try dsimp only at hSz); go_simp; all_goals (with_reducible rfl)
      (try simp only [Act.put, List.setIfInBounds_toArray, List.set_cons_zero, List.set_cons_succ])
      refine wpAnyH_take (i := 1) (oi := { dst := some 22, op := Op.move (Operand.tmp 1), type := 3, pos := "step.go:45", after := #[], guard := none }) (v := ?_) rfl (by kernel_rfl) (by kernel_rfl) (by kernel_rfl) (fun _ _ _ h => h) (Or.inl ⟨by rfl, ?_⟩) (by assumption) ?_
      rotate_left
      · intro wz hSz; (try dsimp only at hSz); go_simp; all_goals (with_reducible rfl)
      (try simp only [Act.put, List.setIfInBounds_toArray, List.set_cons_zero, List.set_cons_succ])
      refine wpAnyH_take (i := 3) (oi := { dst := some 24, op := Op.fieldAddr 58 (Operand.tmp 5) 2, type := 0, pos := "step.go:45", after := #[], guard := none }) (v := ?_) rfl (by kernel_rfl) (by kernel_rfl) (by kernel_rfl) (fun _ _ _ h => h) (Or.inl ⟨by rfl, ?_⟩) (by assumption) ?_
      rotate_left
      · intro wz hSz; (try dsimp only at hSz); go_simp; all_goals (with_reducible rfl)
      (try simp only [Act.put, List.setIfInBounds_toArray, List.set_cons_zero, List.set_cons_succ])
      refine wpAnyH_take (i := 4) (oi := { dst := some 25, op := Op.load 3 (Operand.tmp 24), type := 3, pos := "step.go:45", after := #[{ on := 3, ground := Ground.data }], guard := none }) (v := ?_) rfl (by kernel_rfl) (by kernel_rfl) (by kernel_rfl) (fun _ _ _ h => h) (Or.inl ⟨by rfl, ?_⟩) (by assumption) ?_
      rotate_left
      · intro wz hSz; (try dsimp only at hSz); go_simp; all_goals (with_reducible rfl)
      (try simp only [Act.put, List.setIfInBounds_toArray, List.set_cons_zero, List.set_cons_succ])
      refine wpAnyH_ready (rs := [2]) (by kernel_rfl) (by simp) ?_
      refine AllReadyH.cons (o := { dst := some 23, op := Op.call { callee := Callee.value (Operand.func 66), args := #[Operand.tmp 21, Operand.tmp 22], argTypes := #[85, 3] }, type := 3, pos := "step.go:45", after := #[{ on := 0, ground := Ground.data }, { on := 1, ground := Ground.data }], guard := none }) rfl (fun K hK => ?_) AllReadyH.nil
      go_simp
      (go_at_call 66; (with_reducible refine Calls.mono (hIn _ (by exact hbN.drew)) ?_); rintro e w2 ⟨rfl, rfl⟩)
      go_wp2_with fail
      refine hK.out _ _ ?_ (fun hHeld => ?_)
      · (try dsimp only)
        exact ⟨BN.drew.2.1 0, has5 GN.drew⟩
      clear hK K
      (try simp only [Act.put, List.setIfInBounds_toArray, List.set_cons_zero, List.set_cons_succ])
      refine wpAnyH_take (i := 5) (oi := { dst := some 26, op := Op.binOp BinOp.lss 3 (Operand.tmp 23) (Operand.tmp 25) 3, type := 4, pos := "step.go:45", after := #[{ on := 2, ground := Ground.data }, { on := 4, ground := Ground.data }], guard := none }) (v := ?_) rfl (by kernel_rfl) (by kernel_rfl) (by kernel_rfl) (fun _ _ _ h => h) (Or.inl ⟨by rfl, ?_⟩) (by assumption) ?_
      rotate_left
      · intro wz hSz; (try dsimp only at hSz); go_simp; all_goals (with_reducible rfl)
      (try simp only [Act.put, List.setIfInBounds_toArray, List.set_cons_zero, List.set_cons_succ])
      refine wpAnyH_take (i := 6) (oi := { dst := some 14, op := Op.assign (Operand.tmp 26), type := 4, pos := "step.go:45", after := #[{ on := 5, ground := Ground.data }, { on := 2, ground := Ground.chain }], guard := none }) (v := ?_) rfl (by kernel_rfl) (by kernel_rfl) (by kernel_rfl) (fun _ _ _ h => h) (Or.inl ⟨by rfl, ?_⟩) (by assumption) ?_
      rotate_left
      · intro wz hSz; (try dsimp only at hSz); go_simp; all_goals (with_reducible rfl)
      (try simp only [Act.put, List.setIfInBounds_toArray, List.set_cons_zero, List.set_cons_succ])
      refine wpAnyH_done (by kernel_rfl) ?_ _
      refine NoPanic.normal ?_
      go_wp2_with fail
      go_ret
      exact ⟨rfl, hbN.drew⟩
    · rw [if_neg d]
      have D : decide (yi < x2) = false := decide_eq_false d
      by_cases f : x3 > 0
      · rw [if_pos f]
        go_enter Try.func58, Try.ntmps58
        go_upto_region 3 with (go_at_call 35; (with_reducible refine Calls.mono (hHs _) ?_); rintro e w2 ⟨rfl, rfl⟩)
        refine wp_region_noPanic ?_
        refine wp_region_held_drew (S := fun w' => (w'.cell? ⟨b, 0, none⟩ = some (.slice (some ⟨g, o, none⟩) G.length cg)) ∧ (w'.cell? ⟨w.heap.size, 0, none⟩ = some (.string x0) ∧ w'.cell? ⟨w.heap.size, 1, none⟩ = some (.int .i64 x1) ∧ w'.cell? ⟨w.heap.size, 2, none⟩ = some (.int .i64 x2) ∧ w'.cell? ⟨w.heap.size, 3, none⟩ = some (.int .i64 x3) ∧ w'.cell? ⟨w.heap.size, 4, none⟩ = some (.int .i64 x4))) (by kernel_rfl) ?_ (fun hHeld => ?_)
        · (try dsimp only)
          exact ⟨BN.drew.2.1 0, has5 GN.drew⟩
        refine wpAnyH_take (i := 0) (oi := { dst := some 21, op := Op.move (Operand.tmp 0), type := 85, pos := "step.go:45", after := #[], guard := none }) (v := ?_) rfl (by kernel_rfl) (by kernel_rfl) (by kernel_rfl) (fun _ _ _ h => h) (Or.inl ⟨by rfl, ?_⟩) (by assumption) ?_
        rotate_left
        · intro wz hSz; (try dsimp only at hSz); go_simp; all_goals (with_reducible rfl)
        (try simp only [Act.put, List.setIfInBounds_toArray, List.set_cons_zero, List.set_cons_succ])
        refine wpAnyH_take (i := 1) (oi := { dst := some 22, op := Op.move (Operand.tmp 1), type := 3, pos := "step.go:45", after := #[], guard := none }) (v := ?_) rfl (by kernel_rfl) (by kernel_rfl) (by kernel_rfl) (fun _ _ _ h => h) (Or.inl ⟨by rfl, ?_⟩) (by assumption) ?_
        rotate_left
        · intro wz hSz; (try dsimp only at hSz); go_simp; all_goals (with_reducible rfl)
        (try simp only [Act.put, List.setIfInBounds_toArray, List.set_cons_zero, List.set_cons_succ])
        refine wpAnyH_take (i := 3) (oi := { dst := some 24, op := Op.fieldAddr 58 (Operand.tmp 5) 2, type := 0, pos := "step.go:45", after := #[], guard := none }) (v := ?_) rfl (by kernel_rfl) (by kernel_rfl) (by kernel_rfl) (fun _ _ _ h => h) (Or.inl ⟨by rfl, ?_⟩) (by assumption) ?_
        rotate_left
        · intro wz hSz; (try dsimp only at hSz); go_simp; all_goals (with_reducible rfl)
        (try simp only [Act.put, List.setIfInBounds_toArray, List.set_cons_zero, List.set_cons_succ])
        refine wpAnyH_take (i := 4) (oi := { dst := some 25, op := Op.load 3 (Operand.tmp 24), type := 3, pos := "step.go:45", after := #[{ on := 3, ground := Ground.data }], guard := none }) (v := ?_) rfl (by kernel_rfl) (by kernel_rfl) (by kernel_rfl) (fun _ _ _ h => h) (Or.inl ⟨by rfl, ?_⟩) (by assumption) ?_
        rotate_left
        · intro wz hSz; (try dsimp only at hSz); go_simp; all_goals (with_reducible rfl)
        (try simp only [Act.put, List.setIfInBounds_toArray, List.set_cons_zero, List.set_cons_succ])
        refine wpAnyH_ready (rs := [2]) (by kernel_rfl) (by simp) ?_
        refine AllReadyH.cons (o := { dst := some 23, op := Op.call { callee := Callee.value (Operand.func 66), args := #[Operand.tmp 21, Operand.tmp 22], argTypes := #[85, 3] }, type := 3, pos := "step.go:45", after := #[{ on := 0, ground := Ground.data }, { on := 1, ground := Ground.data }], guard := none }) rfl (fun K hK => ?_) AllReadyH.nil
        go_simp
        (go_at_call 66; (with_reducible refine Calls.mono (hIn _ (by exact hbN.drew)) ?_); rintro e w2 ⟨rfl, rfl⟩)
        go_wp2_with fail
        refine hK.out _ _ ?_ (fun hHeld => ?_)
        · (try dsimp only)
          exact ⟨BN.drew.2.1 0, has5 GN.drew⟩
        clear hK K
        (try simp only [Act.put, List.setIfInBounds_toArray, List.set_cons_zero, List.set_cons_succ])
        refine wpAnyH_take (i := 5) (oi := { dst := some 26, op := Op.binOp BinOp.lss 3 (Operand.tmp 23) (Operand.tmp 25) 3, type := 4, pos := "step.go:45", after := #[{ on := 2, ground := Ground.data }, { on := 4, ground := Ground.data }], guard := none }) (v := ?_) rfl (by kernel_rfl) (by kernel_rfl) (by kernel_rfl) (fun _ _ _ h => h) (Or.inl ⟨by rfl, ?_⟩) (by assumption) ?_
        rotate_left
        · intro wz hSz; (try dsimp only at hSz); go_simp; all_goals (with_reducible rfl)
        (try simp only [Act.put, List.setIfInBounds_toArray, List.set_cons_zero, List.set_cons_succ])
        refine wpAnyH_take (i := 6) (oi := { dst := some 14, op := Op.assign (Operand.tmp 26), type := 4, pos := "step.go:45", after := #[{ on := 5, ground := Ground.data }, { on := 2, ground := Ground.chain }], guard := none }) (v := ?_) rfl (by kernel_rfl) (by kernel_rfl) (by kernel_rfl) (fun _ _ _ h => h) (Or.inl ⟨by rfl, ?_⟩) (by assumption) ?_
        rotate_left
        · intro wz hSz; (try dsimp only at hSz); go_simp; all_goals (with_reducible rfl)
        (try simp only [Act.put, List.setIfInBounds_toArray, List.set_cons_zero, List.set_cons_succ])
        refine wpAnyH_done (by kernel_rfl) ?_ _
        refine NoPanic.normal ?_
        go_wp2_with fail
        go_ret
        exact ⟨rfl, hbN.drew⟩
      · rw [if_neg f]
        go_enter Try.func58, Try.ntmps58
        go_upto_region 3 with (go_at_call 35; (with_reducible refine Calls.mono (hHs _) ?_); rintro e w2 ⟨rfl, rfl⟩)
        refine wp_region_noPanic ?_
        refine wp_region_held_drew (S := fun w' => (w'.cell? ⟨b, 0, none⟩ = some (.slice (some ⟨g, o, none⟩) G.length cg)) ∧ (w'.cell? ⟨w.heap.size, 0, none⟩ = some (.string x0) ∧ w'.cell? ⟨w.heap.size, 1, none⟩ = some (.int .i64 x1) ∧ w'.cell? ⟨w.heap.size, 2, none⟩ = some (.int .i64 x2) ∧ w'.cell? ⟨w.heap.size, 3, none⟩ = some (.int .i64 x3) ∧ w'.cell? ⟨w.heap.size, 4, none⟩ = some (.int .i64 x4))) (by kernel_rfl) ?_ (fun hHeld => ?_)
        · (try dsimp only)
          exact ⟨BN.drew.2.1 0, has5 GN.drew⟩
        refine wpAnyH_take (i := 0) (oi := { dst := some 21, op := Op.move (Operand.tmp 0), type := 85, pos := "step.go:45", after := #[], guard := none }) (v := ?_) rfl (by kernel_rfl) (by kernel_rfl) (by kernel_rfl) (fun _ _ _ h => h) (Or.inl ⟨by rfl, ?_⟩) (by assumption) ?_
        rotate_left
        · intro wz hSz; (try dsimp only at hSz); go_simp; all_goals (with_reducible rfl)
        (try simp only [Act.put, List.setIfInBounds_toArray, List.set_cons_zero, List.set_cons_succ])
        refine wpAnyH_take (i := 1) (oi := { dst := some 22, op := Op.move (Operand.tmp 1), type := 3, pos := "step.go:45", after := #[], guard := none }) (v := ?_) rfl (by kernel_rfl) (by kernel_rfl) (by kernel_rfl) (fun _ _ _ h => h) (Or.inl ⟨by rfl, ?_⟩) (by assumption) ?_
        rotate_left
        · intro wz hSz; (try dsimp only at hSz); go_simp; all_goals (with_reducible rfl)
        (try simp only [Act.put, List.setIfInBounds_toArray, List.set_cons_zero, List.set_cons_succ])
        refine wpAnyH_take (i := 3) (oi := { dst := some 24, op := Op.fieldAddr 58 (Operand.tmp 5) 2, type := 0, pos := "step.go:45", after := #[], guard := none }) (v := ?_) rfl (by kernel_rfl) (by kernel_rfl) (by kernel_rfl) (fun _ _ _ h => h) (Or.inl ⟨by rfl, ?_⟩) (by assumption) ?_
        rotate_left
        · intro wz hSz; (try dsimp only at hSz); go_simp; all_goals (with_reducible rfl)
        (try simp only [Act.put, List.setIfInBounds_toArray, List.set_cons_zero, List.set_cons_succ])
        refine wpAnyH_take (i := 4) (oi := { dst := some 25, op := Op.load 3 (Operand.tmp 24), type := 3, pos := "step.go:45", after := #[{ on := 3, ground := Ground.data }], guard := none }) (v := ?_) rfl (by kernel_rfl) (by kernel_rfl) (by kernel_rfl) (fun _ _ _ h => h) (Or.inl ⟨by rfl, ?_⟩) (by assumption) ?_
        rotate_left
        · intro wz hSz; (try dsimp only at hSz); go_simp; all_goals (with_reducible rfl)
        (try simp only [Act.put, List.setIfInBounds_toArray, List.set_cons_zero, List.set_cons_succ])
        refine wpAnyH_ready (rs := [2]) (by kernel_rfl) (by simp) ?_
        refine AllReadyH.cons (o := { dst := some 23, op := Op.call { callee := Callee.value (Operand.func 66), args := #[Operand.tmp 21, Operand.tmp 22], argTypes := #[85, 3] }, type := 3, pos := "step.go:45", after := #[{ on := 0, ground := Ground.data }, { on := 1, ground := Ground.data }], guard := none }) rfl (fun K hK => ?_) AllReadyH.nil
        go_simp
        (go_at_call 66; (with_reducible refine Calls.mono (hIn _ (by exact hbN.drew)) ?_); rintro e w2 ⟨rfl, rfl⟩)
        go_wp2_with fail
        refine hK.out _ _ ?_ (fun hHeld => ?_)
        · (try dsimp only)
          exact ⟨BN.drew.2.1 0, has5 GN.drew⟩
        clear hK K
        (try simp only [Act.put, List.setIfInBounds_toArray, List.set_cons_zero, List.set_cons_succ])
        refine wpAnyH_take (i := 5) (oi := { dst := some 26, op := Op.binOp BinOp.lss 3 (Operand.tmp 23) (Operand.tmp 25) 3, type := 4, pos := "step.go:45", after := #[{ on := 2, ground := Ground.data }, { on := 4, ground := Ground.data }], guard := none }) (v := ?_) rfl (by kernel_rfl) (by kernel_rfl) (by kernel_rfl) (fun _ _ _ h => h) (Or.inl ⟨by rfl, ?_⟩) (by assumption) ?_
        rotate_left
        · intro wz hSz; (try dsimp only at hSz); go_simp; all_goals (with_reducible rfl)
        (try simp only [Act.put, List.setIfInBounds_toArray, List.set_cons_zero, List.set_cons_succ])
        refine wpAnyH_take (i := 6) (oi := { dst := some 14, op := Op.assign (Operand.tmp 26), type := 4, pos := "step.go:45", after := #[{ on := 5, ground := Ground.data }, { on := 2, ground := Ground.chain }], guard := none }) (v := ?_) rfl (by kernel_rfl) (by kernel_rfl) (by kernel_rfl) (fun _ _ _ h => h) (Or.inl ⟨by rfl, ?_⟩) (by assumption) ?_
        rotate_left
        · intro wz hSz; (try dsimp only at hSz); go_simp; all_goals (with_reducible rfl)
        (try simp only [Act.put, List.setIfInBounds_toArray, List.set_cons_zero, List.set_cons_succ])
        refine wpAnyH_done (by kernel_rfl) ?_ _
        refine NoPanic.normal ?_
        go_wp2_with fail
        go_ret
        exact ⟨rfl, hbN.drew⟩
set_option maxRecDepth 100000 in
set_option maxHeartbeats 4000000 in
theorem first_any (w : World) (b : Nat) (G : List Gp) (C : List Cf) (A I W : List Int) (M : Nat) (vg vc v1 v2 v3 vn : Value) (hs : Sp w b G C A I W M vg vc v1 v2 v3 vn) (ok : SpOk G C A I W M) (k : Nat) (hk : k < G.length) :
    Calls Try.prog 63 #[.pointer (some ⟨b, 0, none⟩), .int .i64 (k : Int)] w fun e w' => e = .returned (.int .i64 (firstF G[k])) ∧ w' = w := by
  obtain ⟨va, cg, eG, kG⟩ := hs.g.any
  subst eG
  obtain ⟨g, o, rfl, hg, P⟩ := kG.resolve_left (by intro e; rw [e] at hk; simp at hk)
  have hQ : ∀ (X : World), Below w.heap.size w X → X.cell? ⟨g, o + k * 5, none⟩ = some (.string G[k].name) ∧ X.cell? ⟨g, o + k * 5 + 1, none⟩ = some (.int .i64 G[k].sort) ∧ X.cell? ⟨g, o + k * 5 + 2, none⟩ = some (.int .i64 G[k].min) ∧ X.cell? ⟨g, o + k * 5 + 3, none⟩ = some (.int .i64 G[k].amber) ∧ X.cell? ⟨g, o + k * 5 + 4, none⟩ = some (.int .i64 G[k].lead) := fun X hX => ⟨(hX.cell (p := ⟨g, _, none⟩) hg).trans (P k hk 0 _ rfl), (hX.cell (p := ⟨g, _, none⟩) hg).trans (P k hk 1 _ rfl), (hX.cell (p := ⟨g, _, none⟩) hg).trans (P k hk 2 _ rfl), (hX.cell (p := ⟨g, _, none⟩) hg).trans (P k hk 3 _ rfl), (hX.cell (p := ⟨g, _, none⟩) hg).trans (P k hk 4 _ rfl)⟩
  have t0 : (0 : Int) ≤ (k : Int) := by omega
  have t1 : (k : Int) < (G.length : Int) := by omega
  have BX := hs.bx
  obtain ⟨_, b1, _⟩ := id BX
  obtain ⟨p0, p1, p2, p3, p4⟩ := hQ w (Below.refl _ _)
  unfold firstF
  clear P kG hs hQ
  generalize G[k].lead = x4 at *
  by_cases f : x4 > 0
  · rw [if_pos f]
    go_enter Try.func63, Try.ntmps63
    go_wp2
    go_ret
    exact ⟨rfl, rfl⟩
  · rw [if_neg f]
    go_enter Try.func63, Try.ntmps63
    go_wp2
    go_ret
    exact ⟨rfl, rfl⟩
set_option maxRecDepth 100000 in
theorem up_any (x : Int) (w : World) (h : inI32 x) : Calls Try.prog 64 #[.int .i32 x] w fun e w' => e = .returned (.int .i32 (upF x)) ∧ w' = w := by
  unfold upF
  by_cases d : x = 2147483647
  · rw [if_pos d]
    subst d
    go_enter Try.func64, Try.ntmps64
    go_wp2
    go_ret
    exact ⟨rfl, rfl⟩
  · rw [if_neg d]
    have D : (x == 2147483647) = false := by simpa using d
    by_cases f : x < 0
    · rw [if_pos f]
      go_enter Try.func64, Try.ntmps64
      go_wp2
      go_ret
      exact ⟨rfl, rfl⟩
    · rw [if_neg f]
      have e := up_eq h (by omega) d
      go_enter Try.func64, Try.ntmps64
      go_wp2
      go_ret
      exact ⟨by first | rfl | exact ret_int e, rfl⟩
end Go.Proofs.Ythflpnahifpdnaa
