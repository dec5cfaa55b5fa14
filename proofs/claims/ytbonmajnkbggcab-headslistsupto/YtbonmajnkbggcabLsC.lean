import Derived.Test.YtbonmajnkbggcabLsB
import Derived.Test.YtbonmajnkbggcabSpO
import Derived.Deep.RegionHeld3
namespace Go.Proofs.Ytbonmajnkbggcab
open Go.RowKit
set_option linter.unusedVariables false

set_option maxRecDepth 100000 in
set_option maxHeartbeats 4000000 in
theorem grown_any (B n : Nat) (y1 y2 y3 : List Value) (u1 u2 u3 : Value) (i : Int) (w : World) (T : T3 B w u1 u2 u3 n n n y1 y2 y3) (hB : B ≤ w.heap.size) (hn : n ≤ 64) (hi : 0 ≤ i ∧ i ≤ 2000000) :
    Calls Try.prog 29 #[.agg #[u1, u2, u3], .int .i64 i] w fun e w' => (∃ g0 q0 g1 q1 g2 q2 : Nat, e = .returned (.agg #[.slice (some ⟨g0, 0, none⟩) (n + 1) q0, .slice (some ⟨g1, 0, none⟩) (n + 1) q1, .slice (some ⟨g2, 0, none⟩) (n + 1) q2]) ∧ T3 B w' (.slice (some ⟨g0, 0, none⟩) (n + 1) q0) (.slice (some ⟨g1, 0, none⟩) (n + 1) q1) (.slice (some ⟨g2, 0, none⟩) (n + 1) q2) (n + 1) (n + 1) (n + 1) (y1 ++ [.int .i64 (70000 + i)]) (y2 ++ [.int .i32 (80000 + i)]) (y3 ++ [.int .i32 (90000 + i)]) ∧ (u1.ownBlock = some g0 ∨ w.heap.size ≤ g0) ∧ (u2.ownBlock = some g1 ∨ w.heap.size ≤ g1) ∧ (u3.ownBlock = some g2 ∨ w.heap.size ≤ g2)) ∧ (∀ q, u1.ownBlock = some q → ∀ j u, y1[j]? = some u → w'.cell? ⟨q, j, none⟩ = some u) ∧ (∀ q, u2.ownBlock = some q → ∀ j u, y2[j]? = some u → w'.cell? ⟨q, j, none⟩ = some u) ∧ (∀ q, u3.ownBlock = some q → ∀ j u, y3[j]? = some u → w'.cell? ⟨q, j, none⟩ = some u) ∧ Only (blk3 u1 u2 u3) w w' := by
  obtain ⟨a1, c1, rfl⟩ := own_form T.o1
  obtain ⟨a2, c2, rfl⟩ := own_form T.o2
  obtain ⟨a3, c3, rfl⟩ := own_form T.o3
  have e1 : IntKind.i64.wrap (70000 + i) = 70000 + i := wrap64 _ (by omega)
  have e2 : IntKind.i64.wrap (80000 + i) = 80000 + i := wrap64 _ (by omega)
  have e3 : IntKind.i64.wrap (90000 + i) = 90000 + i := wrap64 _ (by omega)
  have e4 : IntKind.i32.wrap (80000 + i) = 80000 + i := by rw [IntKind.wrap_i32]; omega
  have e5 : IntKind.i32.wrap (90000 + i) = 90000 + i := by rw [IntKind.wrap_i32]; omega
  have B0 : Has ((w.alloc (.cells #[.slice a1 n c1, .slice a2 n c2, .slice a3 n c3] 29)).alloc (.cells #[.slice none 0 0, .slice none 0 0, .slice none 0 0] 29)) w.heap.size #[.slice a1 n c1, .slice a2 n c2, .slice a3 n c3] := (Has.new _ _ _ rfl).alloc _
  have B1 : Has ((w.alloc (.cells #[.slice a1 n c1, .slice a2 n c2, .slice a3 n c3] 29)).alloc (.cells #[.slice none 0 0, .slice none 0 0, .slice none 0 0] 29)) (w.heap.size + 1) #[.slice none 0 0, .slice none 0 0, .slice none 0 0] := Has.new _ _ _ (by simp)
  have hb0 : Below w.heap.size w ((w.alloc (.cells #[.slice a1 n c1, .slice a2 n c2, .slice a3 n c3] 29)).alloc (.cells #[.slice none 0 0, .slice none 0 0, .slice none 0 0] 29)) := belA
  have l1 := fun q hq => (own_lt T.o1 q hq).2
  have l2 := fun q hq => (own_lt T.o2 q hq).2
  have l3 := fun q hq => (own_lt T.o3 q hq).2
  replace T := T.below hb0
  go_enter Try.func29, Try.ntmps29
  go_upto_region 1 with fail
  generalize ((w.alloc (.cells #[.slice a1 n c1, .slice a2 n c2, .slice a3 n c3] 29)).alloc (.cells #[.slice none 0 0, .slice none 0 0, .slice none 0 0] 29)) = W0 at *
  refine wp_region_noPanic ?_
  refine wp_region_held_drew (S := fun w' => w'.cell? ⟨w.heap.size, 0, none⟩ = some (.slice a1 n c1) ∧ w'.cell? ⟨w.heap.size, 1, none⟩ = some (.slice a2 n c2) ∧ w'.cell? ⟨w.heap.size, 2, none⟩ = some (.slice a3 n c3)) (by kernel_rfl) ?_ (fun hHeld => ?_)
  · (try dsimp only)
    exact has3 B0.drew
  refine wpAnyH_take (i := 0) (oi := { dst := some 5, op := Op.fieldAddr 29 (Operand.tmp 2) 0, type := 0, pos := "headslaw.go:211", after := #[], guard := none }) (v := ?_) rfl (by kernel_rfl) (by kernel_rfl) (by kernel_rfl) (fun _ _ _ h => h) (Or.inl ⟨by rfl, ?_⟩) (by assumption) ?_
  rotate_left
  · intro wz hSz; (try dsimp only at hSz); go_simp; all_goals (with_reducible rfl)
  (try simp only [Act.put, List.setIfInBounds_toArray, List.set_cons_zero, List.set_cons_succ])
  refine wpAnyH_take (i := 1) (oi := { dst := some 6, op := Op.load 26 (Operand.tmp 5), type := 26, pos := "headslaw.go:211", after := #[{ on := 0, ground := Ground.data }], guard := none }) (v := ?_) rfl (by kernel_rfl) (by kernel_rfl) (by kernel_rfl) (fun _ _ _ h => h) (Or.inl ⟨by rfl, ?_⟩) (by assumption) ?_
  rotate_left
  · intro wz hSz; (try dsimp only at hSz); go_simp; all_goals (with_reducible rfl)
  (try simp only [Act.put, List.setIfInBounds_toArray, List.set_cons_zero, List.set_cons_succ])
  refine wpAnyH_take (i := 2) (oi := { dst := some 7, op := Op.move (Operand.tmp 1), type := 3, pos := "headslaw.go:211", after := #[], guard := none }) (v := ?_) rfl (by kernel_rfl) (by kernel_rfl) (by kernel_rfl) (fun _ _ _ h => h) (Or.inl ⟨by rfl, ?_⟩) (by assumption) ?_
  rotate_left
  · intro wz hSz; (try dsimp only at hSz); go_simp; all_goals (with_reducible rfl)
  (try simp only [Act.put, List.setIfInBounds_toArray, List.set_cons_zero, List.set_cons_succ])
  refine wpAnyH_take (i := 3) (oi := { dst := some 8, op := Op.binOp BinOp.add 3 (Operand.const (Value.int IntKind.i64 70000)) (Operand.tmp 7) 3, type := 3, pos := "headslaw.go:211", after := #[{ on := 2, ground := Ground.data }], guard := none }) (v := ?_) rfl (by kernel_rfl) (by kernel_rfl) (by kernel_rfl) (fun _ _ _ h => h) (Or.inl ⟨by rfl, ?_⟩) (by assumption) ?_
  rotate_left
  · intro wz hSz; (try dsimp only at hSz); go_simp; all_goals (with_reducible rfl)
  (try simp only [Act.put, List.setIfInBounds_toArray, List.set_cons_zero, List.set_cons_succ])
  refine wpAnyH_take (i := 6) (oi := { dst := some 11, op := Op.fieldAddr 29 (Operand.tmp 2) 1, type := 0, pos := "headslaw.go:211", after := #[], guard := none }) (v := ?_) rfl (by kernel_rfl) (by kernel_rfl) (by kernel_rfl) (fun _ _ _ h => h) (Or.inl ⟨by rfl, ?_⟩) (by assumption) ?_
  rotate_left
  · intro wz hSz; (try dsimp only at hSz); go_simp; all_goals (with_reducible rfl)
  (try simp only [Act.put, List.setIfInBounds_toArray, List.set_cons_zero, List.set_cons_succ])
  refine wpAnyH_take (i := 7) (oi := { dst := some 12, op := Op.load 27 (Operand.tmp 11), type := 27, pos := "headslaw.go:211", after := #[{ on := 6, ground := Ground.data }], guard := none }) (v := ?_) rfl (by kernel_rfl) (by kernel_rfl) (by kernel_rfl) (fun _ _ _ h => h) (Or.inl ⟨by rfl, ?_⟩) (by assumption) ?_
  rotate_left
  · intro wz hSz; (try dsimp only at hSz); go_simp; all_goals (with_reducible rfl)
  (try simp only [Act.put, List.setIfInBounds_toArray, List.set_cons_zero, List.set_cons_succ])
  refine wpAnyH_take (i := 8) (oi := { dst := some 13, op := Op.move (Operand.tmp 1), type := 3, pos := "headslaw.go:211", after := #[], guard := none }) (v := ?_) rfl (by kernel_rfl) (by kernel_rfl) (by kernel_rfl) (fun _ _ _ h => h) (Or.inl ⟨by rfl, ?_⟩) (by assumption) ?_
  rotate_left
  · intro wz hSz; (try dsimp only at hSz); go_simp; all_goals (with_reducible rfl)
  (try simp only [Act.put, List.setIfInBounds_toArray, List.set_cons_zero, List.set_cons_succ])
  refine wpAnyH_take (i := 9) (oi := { dst := some 14, op := Op.binOp BinOp.add 3 (Operand.const (Value.int IntKind.i64 80000)) (Operand.tmp 13) 3, type := 3, pos := "headslaw.go:211", after := #[{ on := 8, ground := Ground.data }], guard := none }) (v := ?_) rfl (by kernel_rfl) (by kernel_rfl) (by kernel_rfl) (fun _ _ _ h => h) (Or.inl ⟨by rfl, ?_⟩) (by assumption) ?_
  rotate_left
  · intro wz hSz; (try dsimp only at hSz); go_simp; all_goals (with_reducible rfl)
  (try simp only [Act.put, List.setIfInBounds_toArray, List.set_cons_zero, List.set_cons_succ])
  refine wpAnyH_take (i := 10) (oi := { dst := some 15, op := Op.convert 3 21 (Operand.tmp 14), type := 21, pos := "headslaw.go:211", after := #[{ on := 9, ground := Ground.data }], guard := none }) (v := ?_) rfl (by kernel_rfl) (by kernel_rfl) (by kernel_rfl) (fun _ _ _ h => h) (Or.inl ⟨by rfl, ?_⟩) (by assumption) ?_
  rotate_left
  · intro wz hSz; (try dsimp only at hSz); go_simp; all_goals (with_reducible rfl)
  (try simp only [Act.put, List.setIfInBounds_toArray, List.set_cons_zero, List.set_cons_succ])
  refine wpAnyH_take (i := 13) (oi := { dst := some 18, op := Op.fieldAddr 29 (Operand.tmp 2) 2, type := 0, pos := "headslaw.go:211", after := #[], guard := none }) (v := ?_) rfl (by kernel_rfl) (by kernel_rfl) (by kernel_rfl) (fun _ _ _ h => h) (Or.inl ⟨by rfl, ?_⟩) (by assumption) ?_
  rotate_left
  · intro wz hSz; (try dsimp only at hSz); go_simp; all_goals (with_reducible rfl)
  (try simp only [Act.put, List.setIfInBounds_toArray, List.set_cons_zero, List.set_cons_succ])
  refine wpAnyH_take (i := 14) (oi := { dst := some 19, op := Op.load 27 (Operand.tmp 18), type := 27, pos := "headslaw.go:211", after := #[{ on := 13, ground := Ground.data }], guard := none }) (v := ?_) rfl (by kernel_rfl) (by kernel_rfl) (by kernel_rfl) (fun _ _ _ h => h) (Or.inl ⟨by rfl, ?_⟩) (by assumption) ?_
  rotate_left
  · intro wz hSz; (try dsimp only at hSz); go_simp; all_goals (with_reducible rfl)
  (try simp only [Act.put, List.setIfInBounds_toArray, List.set_cons_zero, List.set_cons_succ])
  refine wpAnyH_take (i := 15) (oi := { dst := some 20, op := Op.move (Operand.tmp 1), type := 3, pos := "headslaw.go:211", after := #[], guard := none }) (v := ?_) rfl (by kernel_rfl) (by kernel_rfl) (by kernel_rfl) (fun _ _ _ h => h) (Or.inl ⟨by rfl, ?_⟩) (by assumption) ?_
  rotate_left
  · intro wz hSz; (try dsimp only at hSz); go_simp; all_goals (with_reducible rfl)
  (try simp only [Act.put, List.setIfInBounds_toArray, List.set_cons_zero, List.set_cons_succ])
  refine wpAnyH_take (i := 16) (oi := { dst := some 21, op := Op.binOp BinOp.add 3 (Operand.const (Value.int IntKind.i64 90000)) (Operand.tmp 20) 3, type := 3, pos := "headslaw.go:211", after := #[{ on := 15, ground := Ground.data }], guard := none }) (v := ?_) rfl (by kernel_rfl) (by kernel_rfl) (by kernel_rfl) (fun _ _ _ h => h) (Or.inl ⟨by rfl, ?_⟩) (by assumption) ?_
  rotate_left
  · intro wz hSz; (try dsimp only at hSz); go_simp; all_goals (with_reducible rfl)
  (try simp only [Act.put, List.setIfInBounds_toArray, List.set_cons_zero, List.set_cons_succ])
  refine wpAnyH_take (i := 17) (oi := { dst := some 22, op := Op.convert 3 21 (Operand.tmp 21), type := 21, pos := "headslaw.go:211", after := #[{ on := 16, ground := Ground.data }], guard := none }) (v := ?_) rfl (by kernel_rfl) (by kernel_rfl) (by kernel_rfl) (fun _ _ _ h => h) (Or.inl ⟨by rfl, ?_⟩) (by assumption) ?_
  rotate_left
  · intro wz hSz; (try dsimp only at hSz); go_simp; all_goals (with_reducible rfl)
  (try simp only [Act.put, List.setIfInBounds_toArray, List.set_cons_zero, List.set_cons_succ])
  clear hHeld
  have zz : w.heap.size + 2 ≤ W0.drew.heap.size := B1.1
  have of : ∀ q, w.heap.size ≤ q → (fun q => if (Value.slice a1 n c1).ownBlock = some q then 0 else if (Value.slice a2 n c2).ownBlock = some q then 1 else if (Value.slice a3 n c3).ownBlock = some q then 2 else 99) q = 99 := fun q hq => by
    (try dsimp only)
    rw [if_neg (fun h => by have := l1 q h; omega), if_neg (fun h => by have := l2 q h; omega), if_neg (fun h => by have := l3 q h; omega)]
  refine reg29 B n y1 y2 y3 W0.drew (fun q => if (Value.slice a1 n c1).ownBlock = some q then 0 else if (Value.slice a2 n c2).ownBlock = some q then 1 else if (Value.slice a3 n c3).ownBlock = some q then 2 else 99) w.heap.size i _ _ _ _ _ zz (Nat.le_trans hB hb0.size) hn (of _ (by omega)) (of _ (by omega)) B0.drew B1.drew ⟨T.o1, T.o2, T.o3, T.d12, T.d13, T.d23⟩ (fun q hq => by (try dsimp only); rw [if_pos hq]) (fun q hq => by (try dsimp only); rw [if_neg (fun h => T.d12 q h hq), if_pos hq]) (fun q hq => by (try dsimp only); rw [if_neg (fun h => T.d13 q h hq), if_neg (fun h => T.d23 q h hq), if_pos hq]) _ _ (fun X hX => has3 hX) ?_ _ (of_decide_eq_true (by kernel_rfl))
  intro g0 g1 g2 q0 q1 q2 X hO TX r1 r2 r3 HX v0 v1 v2 x9 x16 x23 x25
  refine NoPanic.normal ?_
  have OF : Only (blk3 (.slice a1 n c1) (.slice a2 n c2) (.slice a3 n c3)) w X := by
    refine only_tr (Only.of_below (S := blk3 (.slice a1 n c1) (.slice a2 n c2) (.slice a3 n c3)) hb0.drew) hO (fun q hq h => ?_)
    rcases h with h | h
    · by_cases h1 : (Value.slice a1 n c1).ownBlock = some q
      · exact .inl h1
      · by_cases h2 : (Value.slice a2 n c2).ownBlock = some q
        · exact .inr (.inl h2)
        · by_cases h3 : (Value.slice a3 n c3).ownBlock = some q
          · exact .inr (.inr h3)
          · exact absurd (by (try dsimp only); rw [if_neg h1, if_neg h2, if_neg h3]) h
    · omega
  have cl : ∀ g m, (g < W0.drew.heap.size → (fun q => if (Value.slice a1 n c1).ownBlock = some q then 0 else if (Value.slice a2 n c2).ownBlock = some q then 1 else if (Value.slice a3 n c3).ownBlock = some q then 2 else 99) g = m) → m ≠ 99 → w.heap.size ≤ g ∨ (fun q => if (Value.slice a1 n c1).ownBlock = some q then 0 else if (Value.slice a2 n c2).ownBlock = some q then 1 else if (Value.slice a3 n c3).ownBlock = some q then 2 else 99) g = m := fun g m h hm => by
    by_cases hg : g < W0.drew.heap.size
    · exact .inr (h hg)
    · exact .inl (by omega)
  have d0 : (Value.slice a1 n c1).ownBlock = some g0 ∨ w.heap.size ≤ g0 := by
    rcases cl g0 0 v0 (by decide) with h | h
    · exact .inr h
    · refine .inl (Classical.byContradiction fun h1 => ?_)
      (try dsimp only at h)
      rw [if_neg h1] at h
      split at h
      · omega
      · split at h <;> omega
  have d1 : (Value.slice a2 n c2).ownBlock = some g1 ∨ w.heap.size ≤ g1 := by
    rcases cl g1 1 v1 (by decide) with h | h
    · exact .inr h
    · refine .inl (Classical.byContradiction fun h1 => ?_)
      (try dsimp only at h)
      rw [if_neg h1] at h
      split at h
      · omega
      · split at h <;> omega
  have d2 : (Value.slice a3 n c3).ownBlock = some g2 ∨ w.heap.size ≤ g2 := by
    rcases cl g2 2 v2 (by decide) with h | h
    · exact .inr h
    · refine .inl (Classical.byContradiction fun h1 => ?_)
      (try dsimp only at h)
      rw [if_neg h1] at h
      split at h
      · omega
      · split at h <;> omega
  clear hO of T cl v0 v1 v2
  obtain ⟨_, k1, _⟩ := id HX
  go_wp2_with fail
  exact bodyPost_ret (v := .agg #[.slice (some ⟨g0, 0, none⟩) (n + 1) q0, .slice (some ⟨g1, 0, none⟩) (n + 1) q1, .slice (some ⟨g2, 0, none⟩) (n + 1) q2]) (by simp [results, Try.results29, go_sem, k1]) rfl ⟨⟨g0, q0, g1, q1, g2, q2, rfl, TX, d0, d1, d2⟩, r1, r2, r3, OF⟩
end Go.Proofs.Ytbonmajnkbggcab
