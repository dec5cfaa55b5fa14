import Derived.Test.YtbonmajnkbggcabHdA
import Derived.Deep.RegionHeld3
namespace Go.Proofs.Ytbonmajnkbggcab
open Go.RowKit
set_option linter.unusedVariables false


theorem has6 {w' : World} {b : Nat} {v0 v1 v2 v3 v4 v5 : Value} (h : Has w' b #[v0, v1, v2, v3, v4, v5]) : w'.cell? ⟨b, 0, none⟩ = some v0 ∧ w'.cell? ⟨b, 1, none⟩ = some v1 ∧ w'.cell? ⟨b, 2, none⟩ = some v2 ∧ w'.cell? ⟨b, 3, none⟩ = some v3 ∧ w'.cell? ⟨b, 4, none⟩ = some v4 ∧ w'.cell? ⟨b, 5, none⟩ = some v5 := ⟨h.2.1 0, h.2.1 1, h.2.1 2, h.2.1 3, h.2.1 4, h.2.1 5⟩
set_option maxRecDepth 100000 in
set_option maxHeartbeats 4000000 in
theorem tables_any (g1 g2 g3 g4 g5 g6 n1 n2 n3 n4 n5 n6 e1 e2 e3 e4 e5 e6 : Nat) (w : World) (hc0 : n1 + 1 ≤ e1) (hm0 : n1 ≤ 35184372088000) (hc1 : n2 + 1 ≤ e2) (hm1 : n2 ≤ 35184372088000) :
    Calls Try.prog 10 #[.agg #[.slice (some ⟨g1, 0, none⟩) (n1 + 1) e1, .slice (some ⟨g2, 0, none⟩) (n2 + 1) e2, .slice (some ⟨g3, 0, none⟩) (n3 + 1) e3, .slice (some ⟨g4, 0, none⟩) (n4 + 1) e4, .slice (some ⟨g5, 0, none⟩) (n5 + 1) e5, .slice (some ⟨g6, 0, none⟩) (n6 + 1) e6]] w fun e w' => e = .returned (.agg #[.slice (some ⟨g1, 0, none⟩) n1 e1, .slice (some ⟨g2, 0, none⟩) n2 e2]) ∧ Below w.heap.size w w' := by
  have u0 : (((n1 + 1 : Nat) : Int) - 1) = (n1 : Int) := by omega
  have v0 : IntKind.i64.wrap (n1 : Int) = (n1 : Int) := wrap64 _ (by omega)
  have y0 : (0 : Int) ≤ (n1 : Int) := by omega
  have z0 : (n1 : Int) ≤ (e1 : Int) := by omega
  have u1 : (((n2 + 1 : Nat) : Int) - 1) = (n2 : Int) := by omega
  have v1 : IntKind.i64.wrap (n2 : Int) = (n2 : Int) := wrap64 _ (by omega)
  have y1 : (0 : Int) ≤ (n2 : Int) := by omega
  have z1 : (n2 : Int) ≤ (e2 : Int) := by omega
  have B0 : Has ((w.alloc (.cells #[.slice (some ⟨g1, 0, none⟩) (n1 + 1) e1, .slice (some ⟨g2, 0, none⟩) (n2 + 1) e2, .slice (some ⟨g3, 0, none⟩) (n3 + 1) e3, .slice (some ⟨g4, 0, none⟩) (n4 + 1) e4, .slice (some ⟨g5, 0, none⟩) (n5 + 1) e5, .slice (some ⟨g6, 0, none⟩) (n6 + 1) e6] 33)).alloc (.cells #[.slice none 0 0, .slice none 0 0] 25)) w.heap.size #[.slice (some ⟨g1, 0, none⟩) (n1 + 1) e1, .slice (some ⟨g2, 0, none⟩) (n2 + 1) e2, .slice (some ⟨g3, 0, none⟩) (n3 + 1) e3, .slice (some ⟨g4, 0, none⟩) (n4 + 1) e4, .slice (some ⟨g5, 0, none⟩) (n5 + 1) e5, .slice (some ⟨g6, 0, none⟩) (n6 + 1) e6] := (Has.new _ _ _ rfl).alloc _
  have B1 : Has ((w.alloc (.cells #[.slice (some ⟨g1, 0, none⟩) (n1 + 1) e1, .slice (some ⟨g2, 0, none⟩) (n2 + 1) e2, .slice (some ⟨g3, 0, none⟩) (n3 + 1) e3, .slice (some ⟨g4, 0, none⟩) (n4 + 1) e4, .slice (some ⟨g5, 0, none⟩) (n5 + 1) e5, .slice (some ⟨g6, 0, none⟩) (n6 + 1) e6] 33)).alloc (.cells #[.slice none 0 0, .slice none 0 0] 25)) (w.heap.size + 1) #[.slice none 0 0, .slice none 0 0] := Has.new _ _ _ (by simp)
  have belB : Below w.heap.size w ((w.alloc (.cells #[.slice (some ⟨g1, 0, none⟩) (n1 + 1) e1, .slice (some ⟨g2, 0, none⟩) (n2 + 1) e2, .slice (some ⟨g3, 0, none⟩) (n3 + 1) e3, .slice (some ⟨g4, 0, none⟩) (n4 + 1) e4, .slice (some ⟨g5, 0, none⟩) (n5 + 1) e5, .slice (some ⟨g6, 0, none⟩) (n6 + 1) e6] 33)).alloc (.cells #[.slice none 0 0, .slice none 0 0] 25)) := belA
  go_enter Try.func10, Try.ntmps10
  go_upto_region 1 with fail
  generalize ((w.alloc (.cells #[.slice (some ⟨g1, 0, none⟩) (n1 + 1) e1, .slice (some ⟨g2, 0, none⟩) (n2 + 1) e2, .slice (some ⟨g3, 0, none⟩) (n3 + 1) e3, .slice (some ⟨g4, 0, none⟩) (n4 + 1) e4, .slice (some ⟨g5, 0, none⟩) (n5 + 1) e5, .slice (some ⟨g6, 0, none⟩) (n6 + 1) e6] 33)).alloc (.cells #[.slice none 0 0, .slice none 0 0] 25)) = W0 at *
  obtain ⟨_, b1, f1⟩ := id B1
  refine wp_region_noPanic ?_
  refine wp_region_held_drew (S := fun w' => w'.cell? ⟨w.heap.size, 0, none⟩ = some (.slice (some ⟨g1, 0, none⟩) (n1 + 1) e1) ∧ w'.cell? ⟨w.heap.size, 1, none⟩ = some (.slice (some ⟨g2, 0, none⟩) (n2 + 1) e2) ∧ w'.cell? ⟨w.heap.size, 2, none⟩ = some (.slice (some ⟨g3, 0, none⟩) (n3 + 1) e3) ∧ w'.cell? ⟨w.heap.size, 3, none⟩ = some (.slice (some ⟨g4, 0, none⟩) (n4 + 1) e4) ∧ w'.cell? ⟨w.heap.size, 4, none⟩ = some (.slice (some ⟨g5, 0, none⟩) (n5 + 1) e5) ∧ w'.cell? ⟨w.heap.size, 5, none⟩ = some (.slice (some ⟨g6, 0, none⟩) (n6 + 1) e6)) (by kernel_rfl) ?_ (fun hHeld => ?_)
  · (try dsimp only)
    exact has6 B0.drew
  refine wpAnyH_take (i := 0) (oi := { dst := some 3, op := Op.fieldAddr 33 (Operand.tmp 1) 0, type := 0, pos := "headslaw.go:91", after := #[], guard := none }) (v := ?_) rfl (by kernel_rfl) (by kernel_rfl) (by kernel_rfl) (fun _ _ _ h => h) (Or.inl ⟨by rfl, ?_⟩) (by assumption) ?_
  rotate_left
  · intro wz hSz; (try dsimp only at hSz); go_simp; all_goals (with_reducible rfl)
  (try simp only [Act.put, List.setIfInBounds_toArray, List.set_cons_zero, List.set_cons_succ])
  refine wpAnyH_take (i := 1) (oi := { dst := some 4, op := Op.fieldAddr 25 (Operand.tmp 3) 0, type := 0, pos := "headslaw.go:91", after := #[{ on := 0, ground := Ground.data }], guard := none }) (v := ?_) rfl (by kernel_rfl) (by kernel_rfl) (by kernel_rfl) (fun _ _ _ h => h) (Or.inl ⟨by rfl, ?_⟩) (by assumption) ?_
  rotate_left
  · intro wz hSz; (try dsimp only at hSz); go_simp; all_goals (with_reducible rfl)
  (try simp only [Act.put, List.setIfInBounds_toArray, List.set_cons_zero, List.set_cons_succ])
  refine wpAnyH_take (i := 2) (oi := { dst := some 5, op := Op.load 22 (Operand.tmp 4), type := 22, pos := "headslaw.go:91", after := #[{ on := 1, ground := Ground.data }], guard := none }) (v := ?_) rfl (by kernel_rfl) (by kernel_rfl) (by kernel_rfl) (fun _ _ _ h => h) (Or.inl ⟨by rfl, ?_⟩) (by assumption) ?_
  rotate_left
  · intro wz hSz; (try dsimp only at hSz); go_simp; all_goals (with_reducible rfl)
  (try simp only [Act.put, List.setIfInBounds_toArray, List.set_cons_zero, List.set_cons_succ])
  refine wpAnyH_take (i := 3) (oi := { dst := some 6, op := Op.fieldAddr 33 (Operand.tmp 1) 0, type := 0, pos := "headslaw.go:91", after := #[], guard := none }) (v := ?_) rfl (by kernel_rfl) (by kernel_rfl) (by kernel_rfl) (fun _ _ _ h => h) (Or.inl ⟨by rfl, ?_⟩) (by assumption) ?_
  rotate_left
  · intro wz hSz; (try dsimp only at hSz); go_simp; all_goals (with_reducible rfl)
  (try simp only [Act.put, List.setIfInBounds_toArray, List.set_cons_zero, List.set_cons_succ])
  refine wpAnyH_take (i := 4) (oi := { dst := some 7, op := Op.fieldAddr 25 (Operand.tmp 6) 0, type := 0, pos := "headslaw.go:91", after := #[{ on := 3, ground := Ground.data }], guard := none }) (v := ?_) rfl (by kernel_rfl) (by kernel_rfl) (by kernel_rfl) (fun _ _ _ h => h) (Or.inl ⟨by rfl, ?_⟩) (by assumption) ?_
  rotate_left
  · intro wz hSz; (try dsimp only at hSz); go_simp; all_goals (with_reducible rfl)
  (try simp only [Act.put, List.setIfInBounds_toArray, List.set_cons_zero, List.set_cons_succ])
  refine wpAnyH_take (i := 5) (oi := { dst := some 8, op := Op.load 22 (Operand.tmp 7), type := 22, pos := "headslaw.go:91", after := #[{ on := 4, ground := Ground.data }], guard := none }) (v := ?_) rfl (by kernel_rfl) (by kernel_rfl) (by kernel_rfl) (fun _ _ _ h => h) (Or.inl ⟨by rfl, ?_⟩) (by assumption) ?_
  rotate_left
  · intro wz hSz; (try dsimp only at hSz); go_simp; all_goals (with_reducible rfl)
  (try simp only [Act.put, List.setIfInBounds_toArray, List.set_cons_zero, List.set_cons_succ])
  refine wpAnyH_take (i := 6) (oi := { dst := some 9, op := Op.call { callee := Callee.builtin Builtin.len, args := #[Operand.tmp 8], argTypes := #[22] }, type := 3, pos := "headslaw.go:91", after := #[{ on := 5, ground := Ground.data }], guard := none }) (v := ?_) rfl (by kernel_rfl) (by kernel_rfl) (by kernel_rfl) (fun _ _ _ h => h) (Or.inl ⟨by rfl, ?_⟩) (by assumption) ?_
  rotate_left
  · intro wz hSz; (try dsimp only at hSz); go_simp; all_goals (with_reducible rfl)
  (try simp only [Act.put, List.setIfInBounds_toArray, List.set_cons_zero, List.set_cons_succ])
  refine wpAnyH_take (i := 7) (oi := { dst := some 10, op := Op.binOp BinOp.sub 3 (Operand.tmp 9) (Operand.const (Value.int IntKind.i64 1)) 3, type := 3, pos := "headslaw.go:91", after := #[{ on := 6, ground := Ground.data }], guard := none }) (v := ?_) rfl (by kernel_rfl) (by kernel_rfl) (by kernel_rfl) (fun _ _ _ h => h) (Or.inl ⟨by rfl, ?_⟩) (by assumption) ?_
  rotate_left
  · intro wz hSz; (try dsimp only at hSz); go_simp; all_goals (with_reducible rfl)
  (try simp only [Act.put, List.setIfInBounds_toArray, List.set_cons_zero, List.set_cons_succ])
  refine wpAnyH_take (i := 8) (oi := { dst := some 11, op := Op.slice 22 (Operand.tmp 5) none (some (Operand.tmp 10)) none, type := 22, pos := "headslaw.go:91", after := #[{ on := 2, ground := Ground.data }, { on := 7, ground := Ground.data }], guard := none }) (v := ?_) rfl (by kernel_rfl) (by kernel_rfl) (by kernel_rfl) (fun _ _ _ h => h) (Or.inl ⟨by rfl, ?_⟩) (by assumption) ?_
  rotate_left
  · intro wz hSz; (try dsimp only at hSz); go_simp; all_goals (with_reducible rfl)
  (try simp only [Act.put, List.setIfInBounds_toArray, List.set_cons_zero, List.set_cons_succ])
  refine wpAnyH_take (i := 9) (oi := { dst := some 12, op := Op.fieldAddr 33 (Operand.tmp 1) 0, type := 0, pos := "headslaw.go:91", after := #[], guard := none }) (v := ?_) rfl (by kernel_rfl) (by kernel_rfl) (by kernel_rfl) (fun _ _ _ h => h) (Or.inl ⟨by rfl, ?_⟩) (by assumption) ?_
  rotate_left
  · intro wz hSz; (try dsimp only at hSz); go_simp; all_goals (with_reducible rfl)
  (try simp only [Act.put, List.setIfInBounds_toArray, List.set_cons_zero, List.set_cons_succ])
  refine wpAnyH_take (i := 10) (oi := { dst := some 13, op := Op.fieldAddr 25 (Operand.tmp 12) 1, type := 0, pos := "headslaw.go:91", after := #[{ on := 9, ground := Ground.data }], guard := none }) (v := ?_) rfl (by kernel_rfl) (by kernel_rfl) (by kernel_rfl) (fun _ _ _ h => h) (Or.inl ⟨by rfl, ?_⟩) (by assumption) ?_
  rotate_left
  · intro wz hSz; (try dsimp only at hSz); go_simp; all_goals (with_reducible rfl)
  (try simp only [Act.put, List.setIfInBounds_toArray, List.set_cons_zero, List.set_cons_succ])
  refine wpAnyH_take (i := 11) (oi := { dst := some 14, op := Op.load 23 (Operand.tmp 13), type := 23, pos := "headslaw.go:91", after := #[{ on := 10, ground := Ground.data }], guard := none }) (v := ?_) rfl (by kernel_rfl) (by kernel_rfl) (by kernel_rfl) (fun _ _ _ h => h) (Or.inl ⟨by rfl, ?_⟩) (by assumption) ?_
  rotate_left
  · intro wz hSz; (try dsimp only at hSz); go_simp; all_goals (with_reducible rfl)
  (try simp only [Act.put, List.setIfInBounds_toArray, List.set_cons_zero, List.set_cons_succ])
  refine wpAnyH_take (i := 12) (oi := { dst := some 15, op := Op.fieldAddr 33 (Operand.tmp 1) 0, type := 0, pos := "headslaw.go:91", after := #[], guard := none }) (v := ?_) rfl (by kernel_rfl) (by kernel_rfl) (by kernel_rfl) (fun _ _ _ h => h) (Or.inl ⟨by rfl, ?_⟩) (by assumption) ?_
  rotate_left
  · intro wz hSz; (try dsimp only at hSz); go_simp; all_goals (with_reducible rfl)
  (try simp only [Act.put, List.setIfInBounds_toArray, List.set_cons_zero, List.set_cons_succ])
  refine wpAnyH_take (i := 13) (oi := { dst := some 16, op := Op.fieldAddr 25 (Operand.tmp 15) 1, type := 0, pos := "headslaw.go:91", after := #[{ on := 12, ground := Ground.data }], guard := none }) (v := ?_) rfl (by kernel_rfl) (by kernel_rfl) (by kernel_rfl) (fun _ _ _ h => h) (Or.inl ⟨by rfl, ?_⟩) (by assumption) ?_
  rotate_left
  · intro wz hSz; (try dsimp only at hSz); go_simp; all_goals (with_reducible rfl)
  (try simp only [Act.put, List.setIfInBounds_toArray, List.set_cons_zero, List.set_cons_succ])
  refine wpAnyH_take (i := 14) (oi := { dst := some 17, op := Op.load 23 (Operand.tmp 16), type := 23, pos := "headslaw.go:91", after := #[{ on := 13, ground := Ground.data }], guard := none }) (v := ?_) rfl (by kernel_rfl) (by kernel_rfl) (by kernel_rfl) (fun _ _ _ h => h) (Or.inl ⟨by rfl, ?_⟩) (by assumption) ?_
  rotate_left
  · intro wz hSz; (try dsimp only at hSz); go_simp; all_goals (with_reducible rfl)
  (try simp only [Act.put, List.setIfInBounds_toArray, List.set_cons_zero, List.set_cons_succ])
  refine wpAnyH_take (i := 15) (oi := { dst := some 18, op := Op.call { callee := Callee.builtin Builtin.len, args := #[Operand.tmp 17], argTypes := #[23] }, type := 3, pos := "headslaw.go:91", after := #[{ on := 14, ground := Ground.data }], guard := none }) (v := ?_) rfl (by kernel_rfl) (by kernel_rfl) (by kernel_rfl) (fun _ _ _ h => h) (Or.inl ⟨by rfl, ?_⟩) (by assumption) ?_
  rotate_left
  · intro wz hSz; (try dsimp only at hSz); go_simp; all_goals (with_reducible rfl)
  (try simp only [Act.put, List.setIfInBounds_toArray, List.set_cons_zero, List.set_cons_succ])
  refine wpAnyH_take (i := 16) (oi := { dst := some 19, op := Op.binOp BinOp.sub 3 (Operand.tmp 18) (Operand.const (Value.int IntKind.i64 1)) 3, type := 3, pos := "headslaw.go:91", after := #[{ on := 15, ground := Ground.data }], guard := none }) (v := ?_) rfl (by kernel_rfl) (by kernel_rfl) (by kernel_rfl) (fun _ _ _ h => h) (Or.inl ⟨by rfl, ?_⟩) (by assumption) ?_
  rotate_left
  · intro wz hSz; (try dsimp only at hSz); go_simp; all_goals (with_reducible rfl)
  (try simp only [Act.put, List.setIfInBounds_toArray, List.set_cons_zero, List.set_cons_succ])
  refine wpAnyH_take (i := 17) (oi := { dst := some 20, op := Op.slice 23 (Operand.tmp 14) none (some (Operand.tmp 19)) none, type := 23, pos := "headslaw.go:91", after := #[{ on := 11, ground := Ground.data }, { on := 16, ground := Ground.data }], guard := none }) (v := ?_) rfl (by kernel_rfl) (by kernel_rfl) (by kernel_rfl) (fun _ _ _ h => h) (Or.inl ⟨by rfl, ?_⟩) (by assumption) ?_
  rotate_left
  · intro wz hSz; (try dsimp only at hSz); go_simp; all_goals (with_reducible rfl)
  (try simp only [Act.put, List.setIfInBounds_toArray, List.set_cons_zero, List.set_cons_succ])
  refine wpAnyH_take (i := 18) (oi := { dst := some 21, op := Op.build 25 #[(0, Operand.tmp 11), (1, Operand.tmp 20)], type := 25, pos := "headslaw.go:91", after := #[{ on := 8, ground := Ground.data }, { on := 17, ground := Ground.data }], guard := none }) (v := ?_) rfl (by kernel_rfl) (by kernel_rfl) (by kernel_rfl) (fun _ _ _ h => h) (Or.inl ⟨by rfl, ?_⟩) (by assumption) ?_
  rotate_left
  · intro wz hSz; (try dsimp only at hSz); go_simp; all_goals (with_reducible rfl)
  (try simp only [Act.put, List.setIfInBounds_toArray, List.set_cons_zero, List.set_cons_succ])
  refine wpAnyH_ready (rs := [19]) (by kernel_rfl) (by simp) ?_
  refine AllReadyH.cons (o := { dst := none, op := Op.store 25 (Operand.tmp 2) (Operand.tmp 21), type := 0, pos := "headslaw.go:91", after := #[{ on := 18, ground := Ground.data }, { on := 0, ground := Ground.phase }, { on := 1, ground := Ground.phase }, { on := 2, ground := Ground.phase }, { on := 3, ground := Ground.phase }, { on := 4, ground := Ground.phase }, { on := 5, ground := Ground.phase }, { on := 6, ground := Ground.phase }, { on := 7, ground := Ground.phase }, { on := 8, ground := Ground.phase }, { on := 9, ground := Ground.phase }, { on := 10, ground := Ground.phase }, { on := 11, ground := Ground.phase }, { on := 12, ground := Ground.phase }, { on := 13, ground := Ground.phase }, { on := 14, ground := Ground.phase }, { on := 15, ground := Ground.phase }, { on := 16, ground := Ground.phase }, { on := 17, ground := Ground.phase }, { on := 18, ground := Ground.phase }], guard := none }) rfl (fun K hK => ?_) AllReadyH.nil
  go_simp
  refine hK.out _ _ ?_ (fun hHeld => ?_)
  · (try dsimp only)
    exact has6 ((B0.drew.far (by omega) _).far (by omega) _)
  clear hK K
  (try simp only [Act.put, List.setIfInBounds_toArray, List.set_cons_zero, List.set_cons_succ])
  refine wpAnyH_done (by kernel_rfl) ?_ _
  refine NoPanic.normal ?_
  have HF0 : Has ((W0.setCell ⟨w.heap.size + 1, 0, none⟩ (.slice (some ⟨g1, 0, none⟩) n1 e1)).setCell ⟨w.heap.size + 1, 1, none⟩ (.slice (some ⟨g2, 0, none⟩) n2 e2)) (w.heap.size + 1) #[.slice (some ⟨g1, 0, none⟩) n1 e1, .slice (some ⟨g2, 0, none⟩) n2 e2] := by simpa using ((B1.set 0 (by simp) (.slice (some ⟨g1, 0, none⟩) n1 e1)).set 1 (by simp) (.slice (some ⟨g2, 0, none⟩) n2 e2))
  have HF : Has ((W0.setCell ⟨w.heap.size + 1, 0, none⟩ (.slice (some ⟨g1, 0, none⟩) n1 e1)).setCell ⟨w.heap.size + 1, 1, none⟩ (.slice (some ⟨g2, 0, none⟩) n2 e2)).drew (w.heap.size + 1) #[.slice (some ⟨g1, 0, none⟩) n1 e1, .slice (some ⟨g2, 0, none⟩) n2 e2] := HF0.drew
  have bF : Below w.heap.size w ((W0.setCell ⟨w.heap.size + 1, 0, none⟩ (.slice (some ⟨g1, 0, none⟩) n1 e1)).setCell ⟨w.heap.size + 1, 1, none⟩ (.slice (some ⟨g2, 0, none⟩) n2 e2)).drew := (((belB.setCell (p := ⟨w.heap.size + 1, 0, none⟩) (by simp) _).setCell (p := ⟨w.heap.size + 1, 1, none⟩) (by simp) _)).drew
  clear HF0
  generalize ((W0.setCell ⟨w.heap.size + 1, 0, none⟩ (.slice (some ⟨g1, 0, none⟩) n1 e1)).setCell ⟨w.heap.size + 1, 1, none⟩ (.slice (some ⟨g2, 0, none⟩) n2 e2)).drew = WF at *
  obtain ⟨_, k1, _⟩ := id HF
  go_wp2_with fail
  exact bodyPost_ret (v := .agg #[.slice (some ⟨g1, 0, none⟩) n1 e1, .slice (some ⟨g2, 0, none⟩) n2 e2]) (by simp [results, Try.results10, go_sem, k1]) rfl ⟨rfl, bF⟩
end Go.Proofs.Ytbonmajnkbggcab
