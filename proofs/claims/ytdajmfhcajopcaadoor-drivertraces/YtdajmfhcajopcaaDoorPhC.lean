import Derived.Test.YtdajmfhcajopcaaDoorPhB
import Derived.Deep.RegionHeld3
namespace Go.Proofs.YtdajmfhcajopcaaDoor
open Go.RowKit
set_option linter.unusedVariables false
set_option linter.unusedSimpArgs false

theorem ky_q : (kyL.all fun c => decide (c.toNat / 10 = 1) || decide (c.toNat / 10 = 2) || decide (c.toNat / 10 = 3) || decide (c.toNat / 10 = 5) || decide (c.toNat / 10 = 6) || decide (c.toNat / 10 = 7) || decide (c.toNat / 10 = 8) || decide (c.toNat / 10 = 10) || decide (c.toNat / 10 = 11) || decide (c.toNat / 10 = 12) || decide (c.toNat / 10 = 14) || decide (c.toNat / 10 = 15) || decide (c.toNat / 10 = 16) || decide (c.toNat / 10 = 17) || decide (c.toNat / 10 = 18) || decide (c.toNat / 10 = 19)) = true := by kernel_rfl
set_option maxRecDepth 100000 in
set_option maxHeartbeats 2000000 in
theorem refPhase_any (c l m : Int) (w : World) :
    Calls Tryd.prog 7 #[.agg #[.int .i64 c, .int .i64 l, .int .i64 m]] w fun e w' => e = .returned (.string (phF c)) ∧ Below w.heap.size w w' := by
  have hb0 : Below w.heap.size w (w.alloc (.cells #[.int .i64 c, .int .i64 l, .int .i64 m] 26)) := (Below.refl _ _).alloc (Nat.le_refl _) _
  have K0 : Has (w.alloc (.cells #[.int .i64 c, .int .i64 l, .int .i64 m] 26)) w.heap.size #[.int .i64 c, .int .i64 l, .int .i64 m] := Has.new _ _ _ rfl
  have k14 := saying_any c (w.alloc (.cells #[.int .i64 c, .int .i64 l, .int .i64 m] 26))
  obtain ⟨_, v1, v2⟩ := id K0
  by_cases h0 : c = 0
  case pos =>
    have hp : phF c = ⟨#[111, 107]⟩ := by unfold phF; rw [if_pos h0]
    rw [hp]
    subst h0
    go_enter Tryd.func7, Tryd.ntmps7
    go_wp2_with fail
    go_ret
    exact ⟨rfl, hb0⟩
  by_cases h1 : c ∈ kyL
  case neg =>
    have hp : phF c = ⟨#[117, 110, 107, 110, 111, 119, 110]⟩ := by unfold phF; rw [if_neg h0, if_neg h1]
    rw [hp]
    rw [decide_eq_false h1] at k14
    clear h1 hp
    go_enter Tryd.func7, Tryd.ntmps7
    go_wp2_with fail
    go_at_call 14
    refine Calls.mono k14 ?_
    rintro e w1 ⟨rfl, hw1⟩
    have hw2 := hw1.symm
    clear hw1
    subst hw2
    go_wp2_with fail
    go_ret
    exact ⟨rfl, hb0⟩
  have hp : phF c = phT (c.toNat / 10) := by unfold phF; rw [if_neg h0, if_pos h1]
  have hr := ky_rng h1
  have hK := List.all_eq_true.1 ky_q c h1
  rw [decide_eq_true h1] at k14
  clear h1
  obtain ⟨k, rfl⟩ : ∃ k : Nat, c = (k : Int) := ⟨c.toNat, by omega⟩
  rw [Int.toNat_natCast] at hp hK
  have hq : Int.tdiv (k : Int) 10 = ((k / 10 : Nat) : Int) := by rw [Int.tdiv_eq_ediv_of_nonneg (by omega)]; omega
  simp only [Bool.or_eq_true, decide_eq_true_eq] at hK
  generalize wI (k : Int) = WK at *
  rcases hK with ((((((((((((((e | e) | e) | e) | e) | e) | e) | e) | e) | e) | e) | e) | e) | e) | e) | e
  · have hT : phT 1 = ⟨#[97, 114, 105, 116, 104]⟩ := rfl
    rw [e] at hp hq
    rw [hp, hT]
    go_enter Tryd.func7, Tryd.ntmps7
    go_wp2_with fail
    go_at_call 14
    refine Calls.mono k14 ?_
    rintro e w1 ⟨rfl, hw1⟩
    have hw2 := hw1.symm
    clear hw1
    subst hw2
    go_wp2_with fail
    go_ret
    exact ⟨rfl, hb0⟩
  · have hT : phT 2 = ⟨#[108, 101, 120]⟩ := rfl
    rw [e] at hp hq
    rw [hp, hT]
    go_enter Tryd.func7, Tryd.ntmps7
    go_wp2_with fail
    go_at_call 14
    refine Calls.mono k14 ?_
    rintro e w1 ⟨rfl, hw1⟩
    have hw2 := hw1.symm
    clear hw1
    subst hw2
    go_wp2_with fail
    go_ret
    exact ⟨rfl, hb0⟩
  · have hT : phT 3 = ⟨#[116, 114, 101, 101]⟩ := rfl
    rw [e] at hp hq
    rw [hp, hT]
    go_enter Tryd.func7, Tryd.ntmps7
    go_wp2_with fail
    go_at_call 14
    refine Calls.mono k14 ?_
    rintro e w1 ⟨rfl, hw1⟩
    have hw2 := hw1.symm
    clear hw1
    subst hw2
    go_wp2_with fail
    go_ret
    exact ⟨rfl, hb0⟩
  · have hT : phT 5 = ⟨#[99, 104, 101, 99, 107]⟩ := rfl
    rw [e] at hp hq
    rw [hp, hT]
    go_enter Tryd.func7, Tryd.ntmps7
    go_wp2_with fail
    go_at_call 14
    refine Calls.mono k14 ?_
    rintro e w1 ⟨rfl, hw1⟩
    have hw2 := hw1.symm
    clear hw1
    subst hw2
    go_wp2_with fail
    go_ret
    exact ⟨rfl, hb0⟩
  · have hT : phT 6 = ⟨#[115, 97, 102, 101, 116, 121]⟩ := rfl
    rw [e] at hp hq
    rw [hp, hT]
    go_enter Tryd.func7, Tryd.ntmps7
    go_wp2_with fail
    go_at_call 14
    refine Calls.mono k14 ?_
    rintro e w1 ⟨rfl, hw1⟩
    have hw2 := hw1.symm
    clear hw1
    subst hw2
    go_wp2_with fail
    go_ret
    exact ⟨rfl, hb0⟩
  · have hT : phT 7 = ⟨#[104, 101, 97, 100, 115]⟩ := rfl
    rw [e] at hp hq
    rw [hp, hT]
    go_enter Tryd.func7, Tryd.ntmps7
    go_wp2_with fail
    go_at_call 14
    refine Calls.mono k14 ?_
    rintro e w1 ⟨rfl, hw1⟩
    have hw2 := hw1.symm
    clear hw1
    subst hw2
    go_wp2_with fail
    go_ret
    exact ⟨rfl, hb0⟩
  · have hT : phT 8 = ⟨#[115, 105, 109]⟩ := rfl
    rw [e] at hp hq
    rw [hp, hT]
    go_enter Tryd.func7, Tryd.ntmps7
    go_wp2_with fail
    go_at_call 14
    refine Calls.mono k14 ?_
    rintro e w1 ⟨rfl, hw1⟩
    have hw2 := hw1.symm
    clear hw1
    subst hw2
    go_wp2_with fail
    go_ret
    exact ⟨rfl, hb0⟩
  · have hT : phT 10 = ⟨#[114, 111, 109]⟩ := rfl
    rw [e] at hp hq
    rw [hp, hT]
    go_enter Tryd.func7, Tryd.ntmps7
    go_wp2_with fail
    go_at_call 14
    refine Calls.mono k14 ?_
    rintro e w1 ⟨rfl, hw1⟩
    have hw2 := hw1.symm
    clear hw1
    subst hw2
    go_wp2_with fail
    go_ret
    exact ⟨rfl, hb0⟩
  · have hT : phT 11 = ⟨#[99, 111, 100, 101]⟩ := rfl
    rw [e] at hp hq
    rw [hp, hT]
    go_enter Tryd.func7, Tryd.ntmps7
    go_wp2_with fail
    go_at_call 14
    refine Calls.mono k14 ?_
    rintro e w1 ⟨rfl, hw1⟩
    have hw2 := hw1.symm
    clear hw1
    subst hw2
    go_wp2_with fail
    go_ret
    exact ⟨rfl, hb0⟩
  · have hT : phT 12 = ⟨#[108, 111, 97, 100]⟩ := rfl
    rw [e] at hp hq
    rw [hp, hT]
    go_enter Tryd.func7, Tryd.ntmps7
    go_wp2_with fail
    go_at_call 14
    refine Calls.mono k14 ?_
    rintro e w1 ⟨rfl, hw1⟩
    have hw2 := hw1.symm
    clear hw1
    subst hw2
    go_wp2_with fail
    go_ret
    exact ⟨rfl, hb0⟩
  · have hT : phT 14 = ⟨#[100, 114, 105, 118, 101, 114]⟩ := rfl
    rw [e] at hp hq
    rw [hp, hT]
    go_enter Tryd.func7, Tryd.ntmps7
    go_wp2_with fail
    go_at_call 14
    refine Calls.mono k14 ?_
    rintro e w1 ⟨rfl, hw1⟩
    have hw2 := hw1.symm
    clear hw1
    subst hw2
    go_wp2_with fail
    go_ret
    exact ⟨rfl, hb0⟩
  · have hT : phT 15 = ⟨#[119, 97, 116, 99, 104]⟩ := rfl
    rw [e] at hp hq
    rw [hp, hT]
    go_enter Tryd.func7, Tryd.ntmps7
    go_wp2_with fail
    go_at_call 14
    refine Calls.mono k14 ?_
    rintro e w1 ⟨rfl, hw1⟩
    have hw2 := hw1.symm
    clear hw1
    subst hw2
    go_wp2_with fail
    go_ret
    exact ⟨rfl, hb0⟩
  · have hT : phT 16 = ⟨#[98, 97, 110, 107]⟩ := rfl
    rw [e] at hp hq
    rw [hp, hT]
    go_enter Tryd.func7, Tryd.ntmps7
    go_wp2_with fail
    go_at_call 14
    refine Calls.mono k14 ?_
    rintro e w1 ⟨rfl, hw1⟩
    have hw2 := hw1.symm
    clear hw1
    subst hw2
    go_wp2_with fail
    go_ret
    exact ⟨rfl, hb0⟩
  · have hT : phT 17 = ⟨#[119, 105, 114, 101]⟩ := rfl
    rw [e] at hp hq
    rw [hp, hT]
    go_enter Tryd.func7, Tryd.ntmps7
    go_wp2_with fail
    go_at_call 14
    refine Calls.mono k14 ?_
    rintro e w1 ⟨rfl, hw1⟩
    have hw2 := hw1.symm
    clear hw1
    subst hw2
    go_wp2_with fail
    go_ret
    exact ⟨rfl, hb0⟩
  · have hT : phT 18 = ⟨#[116, 105, 109, 101, 116, 97, 98, 108, 101]⟩ := rfl
    rw [e] at hp hq
    rw [hp, hT]
    go_enter Tryd.func7, Tryd.ntmps7
    go_wp2_with fail
    go_at_call 14
    refine Calls.mono k14 ?_
    rintro e w1 ⟨rfl, hw1⟩
    have hw2 := hw1.symm
    clear hw1
    subst hw2
    go_wp2_with fail
    go_ret
    exact ⟨rfl, hb0⟩
  · have hT : phT 19 = ⟨#[115, 116, 97, 116, 105, 111, 110]⟩ := rfl
    rw [e] at hp hq
    rw [hp, hT]
    go_enter Tryd.func7, Tryd.ntmps7
    go_wp2_with fail
    go_at_call 14
    refine Calls.mono k14 ?_
    rintro e w1 ⟨rfl, hw1⟩
    have hw2 := hw1.symm
    clear hw1
    subst hw2
    go_wp2_with fail
    go_ret
    exact ⟨rfl, hb0⟩
set_option maxRecDepth 100000 in
set_option maxHeartbeats 2000000 in
theorem phases_law (c l m : Int) (w : World) (hP : Pt w) :
    Calls Tryd.prog 3 #[.agg #[.int .i64 c, .int .i64 l, .int .i64 m]] w fun e w' => e = .returned (.bool true) ∧ Below w.heap.size w w' := by
  have hb0 : Below w.heap.size w (w.alloc (.cells #[.int .i64 c, .int .i64 l, .int .i64 m] 26)) := (Below.refl _ _).alloc (Nat.le_refl _) _
  have K0 : Has (w.alloc (.cells #[.int .i64 c, .int .i64 l, .int .i64 m] 26)) w.heap.size #[.int .i64 c, .int .i64 l, .int .i64 m] := Has.new _ _ _ rfl
  have k6 := phase_any c l m (w.alloc (.cells #[.int .i64 c, .int .i64 l, .int .i64 m] 26)).drew (hP.below hb0.drew)
  have k7 := fun X => refPhase_any c l m X
  generalize phF c = F at *
  go_enter Tryd.func3, Tryd.ntmps3
  go_wp2_with fail
  refine wp_region_noPanic ?_
  refine wp_region_held_drew (S := fun w' => w'.cell? ⟨w.heap.size, 0, none⟩ = some (.int .i64 c) ∧ w'.cell? ⟨w.heap.size, 1, none⟩ = some (.int .i64 l) ∧ w'.cell? ⟨w.heap.size, 2, none⟩ = some (.int .i64 m)) (by kernel_rfl) ?_ (fun hHeld => ?_)
  · (try dsimp only)
    exact ⟨K0.drew.2.1 0, K0.drew.2.1 1, K0.drew.2.1 2⟩
  refine wpAnyH_take (i := 0) (oi := { dst := some 3, op := Op.load 26 (Operand.tmp 1), type := 26, pos := "driver.go:79", after := #[], guard := none }) (v := ?_) rfl (by kernel_rfl) (by kernel_rfl) (by kernel_rfl) (fun _ _ _ h => h) (Or.inl ⟨by rfl, ?_⟩) (by assumption) ?_
  rotate_left
  · intro wz hSz; (try dsimp only at hSz); go_simp; all_goals (with_reducible rfl)
  (try simp only [Act.put, List.setIfInBounds_toArray, List.set_cons_zero, List.set_cons_succ])
  refine wpAnyH_take (i := 2) (oi := { dst := some 5, op := Op.load 26 (Operand.tmp 1), type := 26, pos := "driver.go:79", after := #[], guard := none }) (v := ?_) rfl (by kernel_rfl) (by kernel_rfl) (by kernel_rfl) (fun _ _ _ h => h) (Or.inl ⟨by rfl, ?_⟩) (by assumption) ?_
  rotate_left
  · intro wz hSz; (try dsimp only at hSz); go_simp; all_goals (with_reducible rfl)
  (try simp only [Act.put, List.setIfInBounds_toArray, List.set_cons_zero, List.set_cons_succ])
  refine wpAnyH_ready (rs := [1]) (by kernel_rfl) (by simp) ?_
  refine AllReadyH.cons (o := { dst := some 4, op := Op.call { callee := Callee.value (Operand.func 6), args := #[Operand.tmp 3], argTypes := #[26] }, type := 9, pos := "driver.go:79", after := #[{ on := 0, ground := Ground.data }], guard := none }) rfl (fun K hK => ?_) AllReadyH.nil
  go_simp
  go_at_call 6
  refine Calls.mono k6 ?_
  rintro e w1 ⟨rfl, h1⟩
  have K1 := K0.drew.below h1
  have hb1 := bel_after hb0.drew hb0.drew.size h1
  go_wp2_with fail
  refine hK.out _ _ ?_ (fun hHeld => ?_)
  · (try dsimp only)
    exact ⟨K1.2.1 0, K1.2.1 1, K1.2.1 2⟩
  clear hK K
  (try simp only [Act.put, List.setIfInBounds_toArray, List.set_cons_zero, List.set_cons_succ])
  refine wpAnyH_ready (rs := [3]) (by kernel_rfl) (by simp) ?_
  refine AllReadyH.cons (o := { dst := some 6, op := Op.call { callee := Callee.value (Operand.func 7), args := #[Operand.tmp 5], argTypes := #[26] }, type := 9, pos := "driver.go:79", after := #[{ on := 2, ground := Ground.data }, { on := 1, ground := Ground.chain }], guard := none }) rfl (fun K hK => ?_) AllReadyH.nil
  go_simp
  go_at_call 7
  refine Calls.mono (k7 w1) ?_
  rintro e w2 ⟨rfl, h2⟩
  have K2 := K1.below h2
  have hb2 := bel_after hb1 hb1.size h2
  go_wp2_with fail
  refine hK.out _ _ ?_ (fun hHeld => ?_)
  · (try dsimp only)
    exact ⟨K2.2.1 0, K2.2.1 1, K2.2.1 2⟩
  clear hK K
  (try simp only [Act.put, List.setIfInBounds_toArray, List.set_cons_zero, List.set_cons_succ])
  refine wpAnyH_take (i := 4) (oi := { dst := some 7, op := Op.binOp BinOp.eql 9 (Operand.tmp 4) (Operand.tmp 6) 9, type := 4, pos := "driver.go:79", after := #[{ on := 1, ground := Ground.data }, { on := 3, ground := Ground.data }], guard := none }) (v := ?_) rfl (by kernel_rfl) (by kernel_rfl) (by kernel_rfl) (fun _ _ _ h => h) (Or.inl ⟨by rfl, ?_⟩) (by assumption) ?_
  rotate_left
  · intro wz hSz; (try dsimp only at hSz); go_simp; all_goals (with_reducible rfl)
  (try simp only [Act.put, List.setIfInBounds_toArray, List.set_cons_zero, List.set_cons_succ])
  refine wpAnyH_take (i := 5) (oi := { dst := some 2, op := Op.assign (Operand.tmp 7), type := 4, pos := "driver.go:79", after := #[{ on := 4, ground := Ground.data }, { on := 3, ground := Ground.chain }, { on := 0, ground := Ground.phase }, { on := 1, ground := Ground.phase }, { on := 2, ground := Ground.phase }, { on := 3, ground := Ground.phase }, { on := 4, ground := Ground.phase }], guard := none }) (v := ?_) rfl (by kernel_rfl) (by kernel_rfl) (by kernel_rfl) (fun _ _ _ h => h) (Or.inl ⟨by rfl, ?_⟩) (by assumption) ?_
  rotate_left
  · intro wz hSz; (try dsimp only at hSz); go_simp; all_goals (with_reducible rfl)
  (try simp only [Act.put, List.setIfInBounds_toArray, List.set_cons_zero, List.set_cons_succ])
  refine wpAnyH_done (by kernel_rfl) ?_ _
  refine NoPanic.normal ?_
  go_wp2_with fail
  go_ret
  exact ⟨rfl, hb2⟩
end Go.Proofs.YtdajmfhcajopcaaDoor
