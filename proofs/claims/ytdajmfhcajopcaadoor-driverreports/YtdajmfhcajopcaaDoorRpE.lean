import Derived.Test.YtdajmfhcajopcaaDoorRpD
namespace Go.Proofs.YtdajmfhcajopcaaDoor
open Go.RowKit
set_option linter.unusedVariables false
set_option linter.unusedSimpArgs false

theorem app0 (p x y : ByteArray) : (⟨#[]⟩ : ByteArray) ++ p ++ x ++ y = p ++ x ++ y := by apply WideShapes.bytes_inj; simp
theorem appS (s p x y : ByteArray) : s ++ p ++ x ++ y = s ++ (p ++ x ++ y) := by apply WideShapes.bytes_inj; simp
set_option maxRecDepth 100000 in
set_option maxHeartbeats 2000000 in
theorem refReport_any (c l m : Int) (w : World) (hc : -9223372036854775808 ≤ c ∧ c ≤ 9223372036854775807) (hl : -9223372036854775808 ≤ l ∧ l ≤ 9223372036854775807) (hm : -9223372036854775808 ≤ m ∧ m ≤ 9223372036854775807) :
    Calls Tryd.prog 9 #[.agg #[.int .i64 c, .int .i64 l, .int .i64 m]] w fun e w' => e = .returned (.string (rpF c l m)) ∧ Below w.heap.size w w' := by
  have hb0 : Below w.heap.size w (w.alloc (.cells #[.int .i64 c, .int .i64 l, .int .i64 m] 26)) := (Below.refl _ _).alloc (Nat.le_refl _) _
  have K0 : Has (w.alloc (.cells #[.int .i64 c, .int .i64 l, .int .i64 m] 26)) w.heap.size #[.int .i64 c, .int .i64 l, .int .i64 m] := Has.new _ _ _ rfl
  have k14 := fun (X : World) => saying_any c X
  have k7 := fun (X : World) => refPhase_any c l m X
  have kc := fun (X : World) => dec_any c.natAbs c X (Nat.le_refl _) hc.1 hc.2
  have kl := fun (X : World) => dec_any l.natAbs l X (Nat.le_refl _) hl.1 hl.2
  have km := fun (X : World) => dec_any m.natAbs m X (Nat.le_refl _) hm.1 hm.2
  have s1 := ti_size c hc.1 hc.2
  have s2 := ti_size l hl.1 hl.2
  have s3 := ti_size m hm.1 hm.2
  have s4 := ph_size c
  have s5 := wI_size c
  obtain ⟨_, v1, v2⟩ := id K0
  by_cases h0 : c = 0
  case pos =>
    have hp : rpF c l m = ⟨#[111, 107]⟩ := by unfold rpF; rw [if_pos h0]
    rw [hp]
    subst h0
    go_enter Tryd.func9, Tryd.ntmps9
    go_wp2_with fail
    go_ret
    exact ⟨rfl, hb0⟩
  have hA0 : l = 0 ∧ m = 0 → rpF c l m = phF c ++ ⟨#[58, 32]⟩ ++ wdF c := fun h => by unfold rpF tlF; rw [if_neg h0, if_pos h]
  have hA1 : ¬ (l = 0 ∧ m = 0) → rpF c l m = ti l ++ ⟨#[58]⟩ ++ ti m ++ ⟨#[58, 32]⟩ ++ (phF c ++ ⟨#[58, 32]⟩ ++ wdF c) := fun h => by unfold rpF tlF; rw [if_neg h0, if_neg h]
  unfold wdF at hA0 hA1
  by_cases h1 : c ∈ kyL
  case pos =>
    rw [if_pos h1] at hA0 hA1
    rw [decide_eq_true h1] at k14
    have hA0 : l = 0 ∧ m = 0 → Hid (rpF c l m = phF c ++ ⟨#[58, 32]⟩ ++ wI c) := hA0
    have hA1 : ¬ (l = 0 ∧ m = 0) → Hid (rpF c l m = ti l ++ ⟨#[58]⟩ ++ ti m ++ ⟨#[58, 32]⟩ ++ (phF c ++ ⟨#[58, 32]⟩ ++ wI c)) := hA1
    generalize rpF c l m = A at *
    generalize wI c = WK at *
    generalize phF c = PF at *
    generalize ti l = TL at *
    generalize ti m = TM at *
    have q1 : ¬ 9223372036854775807 < TL.size + 1 := by omega
    have q2 : ¬ 9223372036854775807 < TL.size + 1 + TM.size := by omega
    have q3 : ¬ 9223372036854775807 < TL.size + 1 + TM.size + 2 := by omega
    clear h1
    by_cases hl0 : l = 0
    case pos =>
      by_cases hm0 : m = 0
      case pos =>
        have hA2 := hA0 ⟨hl0, hm0⟩
        subst hl0
        subst hm0
        go_enter Tryd.func9, Tryd.ntmps9
        go_upto_region 6 with fail
        clear v1 v2
        obtain ⟨_, v1, v2⟩ := id K0
        go_wp2_with fail
        go_at_call 14
        refine Calls.mono (k14 _) ?_
        rintro e w6 ⟨rfl, hw6⟩
        have hw7 := hw6.symm
        clear hw6
        subst hw7
        go_wp2_with fail
        go_at_call 7
        refine Calls.mono (k7 _) ?_
        rintro e w8 ⟨rfl, h8⟩
        have hb8 := bel_after hb0 hb0.size h8
        go_wp2_with fail
        go_ret
        exact ⟨ret_str ((app0 _ _ _).trans hA2.out.symm), hb8⟩
      case neg =>
        have hA2 := hA1 (fun h => hm0 h.2)
        have hm1 : (m == 0) = false := by simpa using hm0
        have hm2 : (m != 0) = true := by simp [hm0]
        subst hl0
        go_enter Tryd.func9, Tryd.ntmps9
        go_upto_region 5 with fail
        clear v1 v2
        refine wp_region_noPanic ?_
        refine wp_region_held_drew (S := fun w' => w'.cell? ⟨w.heap.size, 1, none⟩ = some (.int .i64 0) ∧ w'.cell? ⟨w.heap.size, 2, none⟩ = some (.int .i64 m)) (by kernel_rfl) ?_ (fun hHeld => ?_)
        · (try dsimp only)
          exact ⟨K0.drew.2.1 1, K0.drew.2.1 2⟩
        refine wpAnyH_take (i := 0) (oi := { dst := some 19, op := Op.fieldAddr 26 (Operand.tmp 1) 1, type := 0, pos := "junctionref14.go:193", after := #[], guard := none }) (v := ?_) rfl (by kernel_rfl) (by kernel_rfl) (by kernel_rfl) (fun _ _ _ h => h) (Or.inl ⟨by rfl, ?_⟩) (by assumption) ?_
        rotate_left
        · intro wz hSz; (try dsimp only at hSz); go_simp; all_goals (with_reducible rfl)
        (try simp only [Act.put, List.setIfInBounds_toArray, List.set_cons_zero, List.set_cons_succ])
        refine wpAnyH_take (i := 1) (oi := { dst := some 20, op := Op.fieldAddr 24 (Operand.tmp 19) 0, type := 0, pos := "junctionref14.go:193", after := #[{ on := 0, ground := Ground.data }], guard := none }) (v := ?_) rfl (by kernel_rfl) (by kernel_rfl) (by kernel_rfl) (fun _ _ _ h => h) (Or.inl ⟨by rfl, ?_⟩) (by assumption) ?_
        rotate_left
        · intro wz hSz; (try dsimp only at hSz); go_simp; all_goals (with_reducible rfl)
        (try simp only [Act.put, List.setIfInBounds_toArray, List.set_cons_zero, List.set_cons_succ])
        refine wpAnyH_take (i := 2) (oi := { dst := some 21, op := Op.load 3 (Operand.tmp 20), type := 3, pos := "junctionref14.go:193", after := #[{ on := 1, ground := Ground.data }], guard := none }) (v := ?_) rfl (by kernel_rfl) (by kernel_rfl) (by kernel_rfl) (fun _ _ _ h => h) (Or.inl ⟨by rfl, ?_⟩) (by assumption) ?_
        rotate_left
        · intro wz hSz; (try dsimp only at hSz); go_simp; all_goals (with_reducible rfl)
        (try simp only [Act.put, List.setIfInBounds_toArray, List.set_cons_zero, List.set_cons_succ])
        refine wpAnyH_take (i := 5) (oi := { dst := some 24, op := Op.fieldAddr 26 (Operand.tmp 1) 1, type := 0, pos := "junctionref14.go:193", after := #[], guard := none }) (v := ?_) rfl (by kernel_rfl) (by kernel_rfl) (by kernel_rfl) (fun _ _ _ h => h) (Or.inl ⟨by rfl, ?_⟩) (by assumption) ?_
        rotate_left
        · intro wz hSz; (try dsimp only at hSz); go_simp; all_goals (with_reducible rfl)
        (try simp only [Act.put, List.setIfInBounds_toArray, List.set_cons_zero, List.set_cons_succ])
        refine wpAnyH_take (i := 6) (oi := { dst := some 25, op := Op.fieldAddr 24 (Operand.tmp 24) 1, type := 0, pos := "junctionref14.go:193", after := #[{ on := 5, ground := Ground.data }], guard := none }) (v := ?_) rfl (by kernel_rfl) (by kernel_rfl) (by kernel_rfl) (fun _ _ _ h => h) (Or.inl ⟨by rfl, ?_⟩) (by assumption) ?_
        rotate_left
        · intro wz hSz; (try dsimp only at hSz); go_simp; all_goals (with_reducible rfl)
        (try simp only [Act.put, List.setIfInBounds_toArray, List.set_cons_zero, List.set_cons_succ])
        refine wpAnyH_take (i := 7) (oi := { dst := some 26, op := Op.load 3 (Operand.tmp 25), type := 3, pos := "junctionref14.go:193", after := #[{ on := 6, ground := Ground.data }], guard := none }) (v := ?_) rfl (by kernel_rfl) (by kernel_rfl) (by kernel_rfl) (fun _ _ _ h => h) (Or.inl ⟨by rfl, ?_⟩) (by assumption) ?_
        rotate_left
        · intro wz hSz; (try dsimp only at hSz); go_simp; all_goals (with_reducible rfl)
        (try simp only [Act.put, List.setIfInBounds_toArray, List.set_cons_zero, List.set_cons_succ])
        refine wpAnyH_ready (rs := [3]) (by kernel_rfl) (by simp) ?_
        refine AllReadyH.cons (o := { dst := some 22, op := Op.call { callee := Callee.value (Operand.func 16), args := #[Operand.tmp 21], argTypes := #[3] }, type := 9, pos := "junctionref14.go:193", after := #[{ on := 2, ground := Ground.data }], guard := none }) rfl (fun K hK => ?_) AllReadyH.nil
        go_simp
        go_at_call 16
        refine Calls.mono (kl _) ?_
        rintro e w4 ⟨rfl, h4⟩
        have K4 := K0.drew.below h4
        have hb4 := bel_after hb0.drew hb0.drew.size h4
        go_wp2_with fail
        refine hK.out _ _ ?_ (fun hHeld => ?_)
        · (try dsimp only)
          exact ⟨K4.2.1 1, K4.2.1 2⟩
        clear hK K
        (try simp only [Act.put, List.setIfInBounds_toArray, List.set_cons_zero, List.set_cons_succ])
        refine wpAnyH_take (i := 4) (oi := { dst := some 23, op := Op.binOp BinOp.add 9 (Operand.tmp 22) (Operand.const (Value.string { data := #[58] })) 9, type := 9, pos := "junctionref14.go:193", after := #[{ on := 3, ground := Ground.data }], guard := none }) (v := ?_) rfl (by kernel_rfl) (by kernel_rfl) (by kernel_rfl) (fun _ _ _ h => h) (Or.inl ⟨by rfl, ?_⟩) (by assumption) ?_
        rotate_left
        · intro wz hSz; (try dsimp only at hSz); go_simp; all_goals (with_reducible rfl)
        (try simp only [Act.put, List.setIfInBounds_toArray, List.set_cons_zero, List.set_cons_succ])
        refine wpAnyH_ready (rs := [8]) (by kernel_rfl) (by simp) ?_
        refine AllReadyH.cons (o := { dst := some 27, op := Op.call { callee := Callee.value (Operand.func 16), args := #[Operand.tmp 26], argTypes := #[3] }, type := 9, pos := "junctionref14.go:193", after := #[{ on := 7, ground := Ground.data }, { on := 3, ground := Ground.chain }], guard := none }) rfl (fun K hK => ?_) AllReadyH.nil
        go_simp
        go_at_call 16
        refine Calls.mono (km _) ?_
        rintro e w5 ⟨rfl, h5⟩
        have K5 := K4.below h5
        have hb5 := bel_after hb4 hb4.size h5
        go_wp2_with fail
        refine hK.out _ _ ?_ (fun hHeld => ?_)
        · (try dsimp only)
          exact ⟨K5.2.1 1, K5.2.1 2⟩
        clear hK K
        (try simp only [Act.put, List.setIfInBounds_toArray, List.set_cons_zero, List.set_cons_succ])
        refine wpAnyH_take (i := 9) (oi := { dst := some 28, op := Op.binOp BinOp.add 9 (Operand.tmp 23) (Operand.tmp 27) 9, type := 9, pos := "junctionref14.go:193", after := #[{ on := 4, ground := Ground.data }, { on := 8, ground := Ground.data }], guard := none }) (v := ?_) rfl (by kernel_rfl) (by kernel_rfl) (by kernel_rfl) (fun _ _ _ h => h) (Or.inl ⟨by rfl, ?_⟩) (by assumption) ?_
        rotate_left
        · intro wz hSz; (try dsimp only at hSz); go_simp; all_goals (with_reducible rfl)
        (try simp only [Act.put, List.setIfInBounds_toArray, List.set_cons_zero, List.set_cons_succ])
        refine wpAnyH_take (i := 10) (oi := { dst := some 29, op := Op.binOp BinOp.add 9 (Operand.tmp 28) (Operand.const (Value.string { data := #[58, 32] })) 9, type := 9, pos := "junctionref14.go:193", after := #[{ on := 9, ground := Ground.data }], guard := none }) (v := ?_) rfl (by kernel_rfl) (by kernel_rfl) (by kernel_rfl) (fun _ _ _ h => h) (Or.inl ⟨by rfl, ?_⟩) (by assumption) ?_
        rotate_left
        · intro wz hSz; (try dsimp only at hSz); go_simp; all_goals (with_reducible rfl)
        (try simp only [Act.put, List.setIfInBounds_toArray, List.set_cons_zero, List.set_cons_succ])
        refine wpAnyH_take (i := 11) (oi := { dst := some 3, op := Op.assign (Operand.tmp 29), type := 9, pos := "junctionref14.go:193", after := #[{ on := 10, ground := Ground.data }, { on := 8, ground := Ground.chain }, { on := 0, ground := Ground.phase }, { on := 1, ground := Ground.phase }, { on := 2, ground := Ground.phase }, { on := 3, ground := Ground.phase }, { on := 4, ground := Ground.phase }, { on := 5, ground := Ground.phase }, { on := 6, ground := Ground.phase }, { on := 7, ground := Ground.phase }, { on := 8, ground := Ground.phase }, { on := 9, ground := Ground.phase }, { on := 10, ground := Ground.phase }], guard := none }) (v := ?_) rfl (by kernel_rfl) (by kernel_rfl) (by kernel_rfl) (fun _ _ _ h => h) (Or.inl ⟨by rfl, ?_⟩) (by assumption) ?_
        rotate_left
        · intro wz hSz; (try dsimp only at hSz); go_simp; all_goals (with_reducible rfl)
        (try simp only [Act.put, List.setIfInBounds_toArray, List.set_cons_zero, List.set_cons_succ])
        refine wpAnyH_done (by kernel_rfl) ?_ _
        refine NoPanic.normal ?_
        obtain ⟨_, v1, v2⟩ := id K5
        go_wp2_with fail
        go_at_call 14
        refine Calls.mono (k14 _) ?_
        rintro e w6 ⟨rfl, hw6⟩
        have hw7 := hw6.symm
        clear hw6
        subst hw7
        go_wp2_with fail
        go_at_call 7
        refine Calls.mono (k7 _) ?_
        rintro e w8 ⟨rfl, h8⟩
        have hb8 := bel_after hb5 hb5.size h8
        go_wp2_with fail
        go_ret
        exact ⟨ret_str ((appS _ _ _ _).trans hA2.out.symm), hb8⟩
    case neg =>
      have hA2 := hA1 (fun h => hl0 h.1)
      have hl1 : (l == 0) = false := by simpa using hl0
      have hl2 : (l != 0) = true := by simp [hl0]
      go_enter Tryd.func9, Tryd.ntmps9
      go_upto_region 5 with fail
      clear v1 v2
      refine wp_region_noPanic ?_
      refine wp_region_held_drew (S := fun w' => w'.cell? ⟨w.heap.size, 1, none⟩ = some (.int .i64 l) ∧ w'.cell? ⟨w.heap.size, 2, none⟩ = some (.int .i64 m)) (by kernel_rfl) ?_ (fun hHeld => ?_)
      · (try dsimp only)
        exact ⟨K0.drew.2.1 1, K0.drew.2.1 2⟩
      refine wpAnyH_take (i := 0) (oi := { dst := some 19, op := Op.fieldAddr 26 (Operand.tmp 1) 1, type := 0, pos := "junctionref14.go:193", after := #[], guard := none }) (v := ?_) rfl (by kernel_rfl) (by kernel_rfl) (by kernel_rfl) (fun _ _ _ h => h) (Or.inl ⟨by rfl, ?_⟩) (by assumption) ?_
      rotate_left
      · intro wz hSz; (try dsimp only at hSz); go_simp; all_goals (with_reducible rfl)
      (try simp only [Act.put, List.setIfInBounds_toArray, List.set_cons_zero, List.set_cons_succ])
      refine wpAnyH_take (i := 1) (oi := { dst := some 20, op := Op.fieldAddr 24 (Operand.tmp 19) 0, type := 0, pos := "junctionref14.go:193", after := #[{ on := 0, ground := Ground.data }], guard := none }) (v := ?_) rfl (by kernel_rfl) (by kernel_rfl) (by kernel_rfl) (fun _ _ _ h => h) (Or.inl ⟨by rfl, ?_⟩) (by assumption) ?_
      rotate_left
      · intro wz hSz; (try dsimp only at hSz); go_simp; all_goals (with_reducible rfl)
      (try simp only [Act.put, List.setIfInBounds_toArray, List.set_cons_zero, List.set_cons_succ])
      refine wpAnyH_take (i := 2) (oi := { dst := some 21, op := Op.load 3 (Operand.tmp 20), type := 3, pos := "junctionref14.go:193", after := #[{ on := 1, ground := Ground.data }], guard := none }) (v := ?_) rfl (by kernel_rfl) (by kernel_rfl) (by kernel_rfl) (fun _ _ _ h => h) (Or.inl ⟨by rfl, ?_⟩) (by assumption) ?_
      rotate_left
      · intro wz hSz; (try dsimp only at hSz); go_simp; all_goals (with_reducible rfl)
      (try simp only [Act.put, List.setIfInBounds_toArray, List.set_cons_zero, List.set_cons_succ])
      refine wpAnyH_take (i := 5) (oi := { dst := some 24, op := Op.fieldAddr 26 (Operand.tmp 1) 1, type := 0, pos := "junctionref14.go:193", after := #[], guard := none }) (v := ?_) rfl (by kernel_rfl) (by kernel_rfl) (by kernel_rfl) (fun _ _ _ h => h) (Or.inl ⟨by rfl, ?_⟩) (by assumption) ?_
      rotate_left
      · intro wz hSz; (try dsimp only at hSz); go_simp; all_goals (with_reducible rfl)
      (try simp only [Act.put, List.setIfInBounds_toArray, List.set_cons_zero, List.set_cons_succ])
      refine wpAnyH_take (i := 6) (oi := { dst := some 25, op := Op.fieldAddr 24 (Operand.tmp 24) 1, type := 0, pos := "junctionref14.go:193", after := #[{ on := 5, ground := Ground.data }], guard := none }) (v := ?_) rfl (by kernel_rfl) (by kernel_rfl) (by kernel_rfl) (fun _ _ _ h => h) (Or.inl ⟨by rfl, ?_⟩) (by assumption) ?_
      rotate_left
      · intro wz hSz; (try dsimp only at hSz); go_simp; all_goals (with_reducible rfl)
      (try simp only [Act.put, List.setIfInBounds_toArray, List.set_cons_zero, List.set_cons_succ])
      refine wpAnyH_take (i := 7) (oi := { dst := some 26, op := Op.load 3 (Operand.tmp 25), type := 3, pos := "junctionref14.go:193", after := #[{ on := 6, ground := Ground.data }], guard := none }) (v := ?_) rfl (by kernel_rfl) (by kernel_rfl) (by kernel_rfl) (fun _ _ _ h => h) (Or.inl ⟨by rfl, ?_⟩) (by assumption) ?_
      rotate_left
      · intro wz hSz; (try dsimp only at hSz); go_simp; all_goals (with_reducible rfl)
      (try simp only [Act.put, List.setIfInBounds_toArray, List.set_cons_zero, List.set_cons_succ])
      refine wpAnyH_ready (rs := [3]) (by kernel_rfl) (by simp) ?_
      refine AllReadyH.cons (o := { dst := some 22, op := Op.call { callee := Callee.value (Operand.func 16), args := #[Operand.tmp 21], argTypes := #[3] }, type := 9, pos := "junctionref14.go:193", after := #[{ on := 2, ground := Ground.data }], guard := none }) rfl (fun K hK => ?_) AllReadyH.nil
      go_simp
      go_at_call 16
      refine Calls.mono (kl _) ?_
      rintro e w4 ⟨rfl, h4⟩
      have K4 := K0.drew.below h4
      have hb4 := bel_after hb0.drew hb0.drew.size h4
      go_wp2_with fail
      refine hK.out _ _ ?_ (fun hHeld => ?_)
      · (try dsimp only)
        exact ⟨K4.2.1 1, K4.2.1 2⟩
      clear hK K
      (try simp only [Act.put, List.setIfInBounds_toArray, List.set_cons_zero, List.set_cons_succ])
      refine wpAnyH_take (i := 4) (oi := { dst := some 23, op := Op.binOp BinOp.add 9 (Operand.tmp 22) (Operand.const (Value.string { data := #[58] })) 9, type := 9, pos := "junctionref14.go:193", after := #[{ on := 3, ground := Ground.data }], guard := none }) (v := ?_) rfl (by kernel_rfl) (by kernel_rfl) (by kernel_rfl) (fun _ _ _ h => h) (Or.inl ⟨by rfl, ?_⟩) (by assumption) ?_
      rotate_left
      · intro wz hSz; (try dsimp only at hSz); go_simp; all_goals (with_reducible rfl)
      (try simp only [Act.put, List.setIfInBounds_toArray, List.set_cons_zero, List.set_cons_succ])
      refine wpAnyH_ready (rs := [8]) (by kernel_rfl) (by simp) ?_
      refine AllReadyH.cons (o := { dst := some 27, op := Op.call { callee := Callee.value (Operand.func 16), args := #[Operand.tmp 26], argTypes := #[3] }, type := 9, pos := "junctionref14.go:193", after := #[{ on := 7, ground := Ground.data }, { on := 3, ground := Ground.chain }], guard := none }) rfl (fun K hK => ?_) AllReadyH.nil
      go_simp
      go_at_call 16
      refine Calls.mono (km _) ?_
      rintro e w5 ⟨rfl, h5⟩
      have K5 := K4.below h5
      have hb5 := bel_after hb4 hb4.size h5
      go_wp2_with fail
      refine hK.out _ _ ?_ (fun hHeld => ?_)
      · (try dsimp only)
        exact ⟨K5.2.1 1, K5.2.1 2⟩
      clear hK K
      (try simp only [Act.put, List.setIfInBounds_toArray, List.set_cons_zero, List.set_cons_succ])
      refine wpAnyH_take (i := 9) (oi := { dst := some 28, op := Op.binOp BinOp.add 9 (Operand.tmp 23) (Operand.tmp 27) 9, type := 9, pos := "junctionref14.go:193", after := #[{ on := 4, ground := Ground.data }, { on := 8, ground := Ground.data }], guard := none }) (v := ?_) rfl (by kernel_rfl) (by kernel_rfl) (by kernel_rfl) (fun _ _ _ h => h) (Or.inl ⟨by rfl, ?_⟩) (by assumption) ?_
      rotate_left
      · intro wz hSz; (try dsimp only at hSz); go_simp; all_goals (with_reducible rfl)
      (try simp only [Act.put, List.setIfInBounds_toArray, List.set_cons_zero, List.set_cons_succ])
      refine wpAnyH_take (i := 10) (oi := { dst := some 29, op := Op.binOp BinOp.add 9 (Operand.tmp 28) (Operand.const (Value.string { data := #[58, 32] })) 9, type := 9, pos := "junctionref14.go:193", after := #[{ on := 9, ground := Ground.data }], guard := none }) (v := ?_) rfl (by kernel_rfl) (by kernel_rfl) (by kernel_rfl) (fun _ _ _ h => h) (Or.inl ⟨by rfl, ?_⟩) (by assumption) ?_
      rotate_left
      · intro wz hSz; (try dsimp only at hSz); go_simp; all_goals (with_reducible rfl)
      (try simp only [Act.put, List.setIfInBounds_toArray, List.set_cons_zero, List.set_cons_succ])
      refine wpAnyH_take (i := 11) (oi := { dst := some 3, op := Op.assign (Operand.tmp 29), type := 9, pos := "junctionref14.go:193", after := #[{ on := 10, ground := Ground.data }, { on := 8, ground := Ground.chain }, { on := 0, ground := Ground.phase }, { on := 1, ground := Ground.phase }, { on := 2, ground := Ground.phase }, { on := 3, ground := Ground.phase }, { on := 4, ground := Ground.phase }, { on := 5, ground := Ground.phase }, { on := 6, ground := Ground.phase }, { on := 7, ground := Ground.phase }, { on := 8, ground := Ground.phase }, { on := 9, ground := Ground.phase }, { on := 10, ground := Ground.phase }], guard := none }) (v := ?_) rfl (by kernel_rfl) (by kernel_rfl) (by kernel_rfl) (fun _ _ _ h => h) (Or.inl ⟨by rfl, ?_⟩) (by assumption) ?_
      rotate_left
      · intro wz hSz; (try dsimp only at hSz); go_simp; all_goals (with_reducible rfl)
      (try simp only [Act.put, List.setIfInBounds_toArray, List.set_cons_zero, List.set_cons_succ])
      refine wpAnyH_done (by kernel_rfl) ?_ _
      refine NoPanic.normal ?_
      obtain ⟨_, v1, v2⟩ := id K5
      go_wp2_with fail
      go_at_call 14
      refine Calls.mono (k14 _) ?_
      rintro e w6 ⟨rfl, hw6⟩
      have hw7 := hw6.symm
      clear hw6
      subst hw7
      go_wp2_with fail
      go_at_call 7
      refine Calls.mono (k7 _) ?_
      rintro e w8 ⟨rfl, h8⟩
      have hb8 := bel_after hb5 hb5.size h8
      go_wp2_with fail
      go_ret
      exact ⟨ret_str ((appS _ _ _ _).trans hA2.out.symm), hb8⟩
  case neg =>
    rw [if_neg h1] at hA0 hA1
    rw [decide_eq_false h1] at k14
    have hA0 : l = 0 ∧ m = 0 → Hid (rpF c l m = phF c ++ ⟨#[58, 32]⟩ ++ (⟨#[101, 114, 114, 111, 114, 32]⟩ ++ ti c)) := hA0
    have hA1 : ¬ (l = 0 ∧ m = 0) → Hid (rpF c l m = ti l ++ ⟨#[58]⟩ ++ ti m ++ ⟨#[58, 32]⟩ ++ (phF c ++ ⟨#[58, 32]⟩ ++ (⟨#[101, 114, 114, 111, 114, 32]⟩ ++ ti c))) := hA1
    generalize rpF c l m = A at *
    generalize wI c = WK at *
    generalize phF c = PF at *
    generalize ti c = TC at *
    generalize ti l = TL at *
    generalize ti m = TM at *
    have q1 : ¬ 9223372036854775807 < TL.size + 1 := by omega
    have q2 : ¬ 9223372036854775807 < TL.size + 1 + TM.size := by omega
    have q3 : ¬ 9223372036854775807 < TL.size + 1 + TM.size + 2 := by omega
    clear h1
    by_cases hl0 : l = 0
    case pos =>
      by_cases hm0 : m = 0
      case pos =>
        have hA2 := hA0 ⟨hl0, hm0⟩
        subst hl0
        subst hm0
        go_enter Tryd.func9, Tryd.ntmps9
        go_upto_region 6 with fail
        clear v1 v2
        obtain ⟨_, v1, v2⟩ := id K0
        go_wp2_with fail
        go_at_call 14
        refine Calls.mono (k14 _) ?_
        rintro e w6 ⟨rfl, hw6⟩
        have hw7 := hw6.symm
        clear hw6
        subst hw7
        go_wp2_with fail
        go_at_call 16
        refine Calls.mono (kc _) ?_
        rintro e w7 ⟨rfl, h7⟩
        have hb7 := bel_after hb0 hb0.size h7
        have K7 := K0.below h7
        clear v1 v2
        obtain ⟨_, v1, v2⟩ := id K7
        go_wp2_with fail
        go_at_call 7
        refine Calls.mono (k7 _) ?_
        rintro e w8 ⟨rfl, h8⟩
        have hb8 := bel_after hb7 hb7.size h8
        go_wp2_with fail
        go_ret
        exact ⟨ret_str ((app0 _ _ _).trans hA2.out.symm), hb8⟩
      case neg =>
        have hA2 := hA1 (fun h => hm0 h.2)
        have hm1 : (m == 0) = false := by simpa using hm0
        have hm2 : (m != 0) = true := by simp [hm0]
        subst hl0
        go_enter Tryd.func9, Tryd.ntmps9
        go_upto_region 5 with fail
        clear v1 v2
        refine wp_region_noPanic ?_
        refine wp_region_held_drew (S := fun w' => w'.cell? ⟨w.heap.size, 1, none⟩ = some (.int .i64 0) ∧ w'.cell? ⟨w.heap.size, 2, none⟩ = some (.int .i64 m)) (by kernel_rfl) ?_ (fun hHeld => ?_)
        · (try dsimp only)
          exact ⟨K0.drew.2.1 1, K0.drew.2.1 2⟩
        refine wpAnyH_take (i := 0) (oi := { dst := some 19, op := Op.fieldAddr 26 (Operand.tmp 1) 1, type := 0, pos := "junctionref14.go:193", after := #[], guard := none }) (v := ?_) rfl (by kernel_rfl) (by kernel_rfl) (by kernel_rfl) (fun _ _ _ h => h) (Or.inl ⟨by rfl, ?_⟩) (by assumption) ?_
        rotate_left
        · intro wz hSz; (try dsimp only at hSz); go_simp; all_goals (with_reducible rfl)
        (try simp only [Act.put, List.setIfInBounds_toArray, List.set_cons_zero, List.set_cons_succ])
        refine wpAnyH_take (i := 1) (oi := { dst := some 20, op := Op.fieldAddr 24 (Operand.tmp 19) 0, type := 0, pos := "junctionref14.go:193", after := #[{ on := 0, ground := Ground.data }], guard := none }) (v := ?_) rfl (by kernel_rfl) (by kernel_rfl) (by kernel_rfl) (fun _ _ _ h => h) (Or.inl ⟨by rfl, ?_⟩) (by assumption) ?_
        rotate_left
        · intro wz hSz; (try dsimp only at hSz); go_simp; all_goals (with_reducible rfl)
        (try simp only [Act.put, List.setIfInBounds_toArray, List.set_cons_zero, List.set_cons_succ])
        refine wpAnyH_take (i := 2) (oi := { dst := some 21, op := Op.load 3 (Operand.tmp 20), type := 3, pos := "junctionref14.go:193", after := #[{ on := 1, ground := Ground.data }], guard := none }) (v := ?_) rfl (by kernel_rfl) (by kernel_rfl) (by kernel_rfl) (fun _ _ _ h => h) (Or.inl ⟨by rfl, ?_⟩) (by assumption) ?_
        rotate_left
        · intro wz hSz; (try dsimp only at hSz); go_simp; all_goals (with_reducible rfl)
        (try simp only [Act.put, List.setIfInBounds_toArray, List.set_cons_zero, List.set_cons_succ])
        refine wpAnyH_take (i := 5) (oi := { dst := some 24, op := Op.fieldAddr 26 (Operand.tmp 1) 1, type := 0, pos := "junctionref14.go:193", after := #[], guard := none }) (v := ?_) rfl (by kernel_rfl) (by kernel_rfl) (by kernel_rfl) (fun _ _ _ h => h) (Or.inl ⟨by rfl, ?_⟩) (by assumption) ?_
        rotate_left
        · intro wz hSz; (try dsimp only at hSz); go_simp; all_goals (with_reducible rfl)
        (try simp only [Act.put, List.setIfInBounds_toArray, List.set_cons_zero, List.set_cons_succ])
        refine wpAnyH_take (i := 6) (oi := { dst := some 25, op := Op.fieldAddr 24 (Operand.tmp 24) 1, type := 0, pos := "junctionref14.go:193", after := #[{ on := 5, ground := Ground.data }], guard := none }) (v := ?_) rfl (by kernel_rfl) (by kernel_rfl) (by kernel_rfl) (fun _ _ _ h => h) (Or.inl ⟨by rfl, ?_⟩) (by assumption) ?_
        rotate_left
        · intro wz hSz; (try dsimp only at hSz); go_simp; all_goals (with_reducible rfl)
        (try simp only [Act.put, List.setIfInBounds_toArray, List.set_cons_zero, List.set_cons_succ])
        refine wpAnyH_take (i := 7) (oi := { dst := some 26, op := Op.load 3 (Operand.tmp 25), type := 3, pos := "junctionref14.go:193", after := #[{ on := 6, ground := Ground.data }], guard := none }) (v := ?_) rfl (by kernel_rfl) (by kernel_rfl) (by kernel_rfl) (fun _ _ _ h => h) (Or.inl ⟨by rfl, ?_⟩) (by assumption) ?_
        rotate_left
        · intro wz hSz; (try dsimp only at hSz); go_simp; all_goals (with_reducible rfl)
        (try simp only [Act.put, List.setIfInBounds_toArray, List.set_cons_zero, List.set_cons_succ])
        refine wpAnyH_ready (rs := [3]) (by kernel_rfl) (by simp) ?_
        refine AllReadyH.cons (o := { dst := some 22, op := Op.call { callee := Callee.value (Operand.func 16), args := #[Operand.tmp 21], argTypes := #[3] }, type := 9, pos := "junctionref14.go:193", after := #[{ on := 2, ground := Ground.data }], guard := none }) rfl (fun K hK => ?_) AllReadyH.nil
        go_simp
        go_at_call 16
        refine Calls.mono (kl _) ?_
        rintro e w4 ⟨rfl, h4⟩
        have K4 := K0.drew.below h4
        have hb4 := bel_after hb0.drew hb0.drew.size h4
        go_wp2_with fail
        refine hK.out _ _ ?_ (fun hHeld => ?_)
        · (try dsimp only)
          exact ⟨K4.2.1 1, K4.2.1 2⟩
        clear hK K
        (try simp only [Act.put, List.setIfInBounds_toArray, List.set_cons_zero, List.set_cons_succ])
        refine wpAnyH_take (i := 4) (oi := { dst := some 23, op := Op.binOp BinOp.add 9 (Operand.tmp 22) (Operand.const (Value.string { data := #[58] })) 9, type := 9, pos := "junctionref14.go:193", after := #[{ on := 3, ground := Ground.data }], guard := none }) (v := ?_) rfl (by kernel_rfl) (by kernel_rfl) (by kernel_rfl) (fun _ _ _ h => h) (Or.inl ⟨by rfl, ?_⟩) (by assumption) ?_
        rotate_left
        · intro wz hSz; (try dsimp only at hSz); go_simp; all_goals (with_reducible rfl)
        (try simp only [Act.put, List.setIfInBounds_toArray, List.set_cons_zero, List.set_cons_succ])
        refine wpAnyH_ready (rs := [8]) (by kernel_rfl) (by simp) ?_
        refine AllReadyH.cons (o := { dst := some 27, op := Op.call { callee := Callee.value (Operand.func 16), args := #[Operand.tmp 26], argTypes := #[3] }, type := 9, pos := "junctionref14.go:193", after := #[{ on := 7, ground := Ground.data }, { on := 3, ground := Ground.chain }], guard := none }) rfl (fun K hK => ?_) AllReadyH.nil
        go_simp
        go_at_call 16
        refine Calls.mono (km _) ?_
        rintro e w5 ⟨rfl, h5⟩
        have K5 := K4.below h5
        have hb5 := bel_after hb4 hb4.size h5
        go_wp2_with fail
        refine hK.out _ _ ?_ (fun hHeld => ?_)
        · (try dsimp only)
          exact ⟨K5.2.1 1, K5.2.1 2⟩
        clear hK K
        (try simp only [Act.put, List.setIfInBounds_toArray, List.set_cons_zero, List.set_cons_succ])
        refine wpAnyH_take (i := 9) (oi := { dst := some 28, op := Op.binOp BinOp.add 9 (Operand.tmp 23) (Operand.tmp 27) 9, type := 9, pos := "junctionref14.go:193", after := #[{ on := 4, ground := Ground.data }, { on := 8, ground := Ground.data }], guard := none }) (v := ?_) rfl (by kernel_rfl) (by kernel_rfl) (by kernel_rfl) (fun _ _ _ h => h) (Or.inl ⟨by rfl, ?_⟩) (by assumption) ?_
        rotate_left
        · intro wz hSz; (try dsimp only at hSz); go_simp; all_goals (with_reducible rfl)
        (try simp only [Act.put, List.setIfInBounds_toArray, List.set_cons_zero, List.set_cons_succ])
        refine wpAnyH_take (i := 10) (oi := { dst := some 29, op := Op.binOp BinOp.add 9 (Operand.tmp 28) (Operand.const (Value.string { data := #[58, 32] })) 9, type := 9, pos := "junctionref14.go:193", after := #[{ on := 9, ground := Ground.data }], guard := none }) (v := ?_) rfl (by kernel_rfl) (by kernel_rfl) (by kernel_rfl) (fun _ _ _ h => h) (Or.inl ⟨by rfl, ?_⟩) (by assumption) ?_
        rotate_left
        · intro wz hSz; (try dsimp only at hSz); go_simp; all_goals (with_reducible rfl)
        (try simp only [Act.put, List.setIfInBounds_toArray, List.set_cons_zero, List.set_cons_succ])
        refine wpAnyH_take (i := 11) (oi := { dst := some 3, op := Op.assign (Operand.tmp 29), type := 9, pos := "junctionref14.go:193", after := #[{ on := 10, ground := Ground.data }, { on := 8, ground := Ground.chain }, { on := 0, ground := Ground.phase }, { on := 1, ground := Ground.phase }, { on := 2, ground := Ground.phase }, { on := 3, ground := Ground.phase }, { on := 4, ground := Ground.phase }, { on := 5, ground := Ground.phase }, { on := 6, ground := Ground.phase }, { on := 7, ground := Ground.phase }, { on := 8, ground := Ground.phase }, { on := 9, ground := Ground.phase }, { on := 10, ground := Ground.phase }], guard := none }) (v := ?_) rfl (by kernel_rfl) (by kernel_rfl) (by kernel_rfl) (fun _ _ _ h => h) (Or.inl ⟨by rfl, ?_⟩) (by assumption) ?_
        rotate_left
        · intro wz hSz; (try dsimp only at hSz); go_simp; all_goals (with_reducible rfl)
        (try simp only [Act.put, List.setIfInBounds_toArray, List.set_cons_zero, List.set_cons_succ])
        refine wpAnyH_done (by kernel_rfl) ?_ _
        refine NoPanic.normal ?_
        obtain ⟨_, v1, v2⟩ := id K5
        go_wp2_with fail
        go_at_call 14
        refine Calls.mono (k14 _) ?_
        rintro e w6 ⟨rfl, hw6⟩
        have hw7 := hw6.symm
        clear hw6
        subst hw7
        go_wp2_with fail
        go_at_call 16
        refine Calls.mono (kc _) ?_
        rintro e w7 ⟨rfl, h7⟩
        have hb7 := bel_after hb5 hb5.size h7
        have K7 := K5.below h7
        clear v1 v2
        obtain ⟨_, v1, v2⟩ := id K7
        go_wp2_with fail
        go_at_call 7
        refine Calls.mono (k7 _) ?_
        rintro e w8 ⟨rfl, h8⟩
        have hb8 := bel_after hb7 hb7.size h8
        go_wp2_with fail
        go_ret
        exact ⟨ret_str ((appS _ _ _ _).trans hA2.out.symm), hb8⟩
    case neg =>
      have hA2 := hA1 (fun h => hl0 h.1)
      have hl1 : (l == 0) = false := by simpa using hl0
      have hl2 : (l != 0) = true := by simp [hl0]
      go_enter Tryd.func9, Tryd.ntmps9
      go_upto_region 5 with fail
      clear v1 v2
      refine wp_region_noPanic ?_
      refine wp_region_held_drew (S := fun w' => w'.cell? ⟨w.heap.size, 1, none⟩ = some (.int .i64 l) ∧ w'.cell? ⟨w.heap.size, 2, none⟩ = some (.int .i64 m)) (by kernel_rfl) ?_ (fun hHeld => ?_)
      · (try dsimp only)
        exact ⟨K0.drew.2.1 1, K0.drew.2.1 2⟩
      refine wpAnyH_take (i := 0) (oi := { dst := some 19, op := Op.fieldAddr 26 (Operand.tmp 1) 1, type := 0, pos := "junctionref14.go:193", after := #[], guard := none }) (v := ?_) rfl (by kernel_rfl) (by kernel_rfl) (by kernel_rfl) (fun _ _ _ h => h) (Or.inl ⟨by rfl, ?_⟩) (by assumption) ?_
      rotate_left
      · intro wz hSz; (try dsimp only at hSz); go_simp; all_goals (with_reducible rfl)
      (try simp only [Act.put, List.setIfInBounds_toArray, List.set_cons_zero, List.set_cons_succ])
      refine wpAnyH_take (i := 1) (oi := { dst := some 20, op := Op.fieldAddr 24 (Operand.tmp 19) 0, type := 0, pos := "junctionref14.go:193", after := #[{ on := 0, ground := Ground.data }], guard := none }) (v := ?_) rfl (by kernel_rfl) (by kernel_rfl) (by kernel_rfl) (fun _ _ _ h => h) (Or.inl ⟨by rfl, ?_⟩) (by assumption) ?_
      rotate_left
      · intro wz hSz; (try dsimp only at hSz); go_simp; all_goals (with_reducible rfl)
      (try simp only [Act.put, List.setIfInBounds_toArray, List.set_cons_zero, List.set_cons_succ])
      refine wpAnyH_take (i := 2) (oi := { dst := some 21, op := Op.load 3 (Operand.tmp 20), type := 3, pos := "junctionref14.go:193", after := #[{ on := 1, ground := Ground.data }], guard := none }) (v := ?_) rfl (by kernel_rfl) (by kernel_rfl) (by kernel_rfl) (fun _ _ _ h => h) (Or.inl ⟨by rfl, ?_⟩) (by assumption) ?_
      rotate_left
      · intro wz hSz; (try dsimp only at hSz); go_simp; all_goals (with_reducible rfl)
      (try simp only [Act.put, List.setIfInBounds_toArray, List.set_cons_zero, List.set_cons_succ])
      refine wpAnyH_take (i := 5) (oi := { dst := some 24, op := Op.fieldAddr 26 (Operand.tmp 1) 1, type := 0, pos := "junctionref14.go:193", after := #[], guard := none }) (v := ?_) rfl (by kernel_rfl) (by kernel_rfl) (by kernel_rfl) (fun _ _ _ h => h) (Or.inl ⟨by rfl, ?_⟩) (by assumption) ?_
      rotate_left
      · intro wz hSz; (try dsimp only at hSz); go_simp; all_goals (with_reducible rfl)
      (try simp only [Act.put, List.setIfInBounds_toArray, List.set_cons_zero, List.set_cons_succ])
      refine wpAnyH_take (i := 6) (oi := { dst := some 25, op := Op.fieldAddr 24 (Operand.tmp 24) 1, type := 0, pos := "junctionref14.go:193", after := #[{ on := 5, ground := Ground.data }], guard := none }) (v := ?_) rfl (by kernel_rfl) (by kernel_rfl) (by kernel_rfl) (fun _ _ _ h => h) (Or.inl ⟨by rfl, ?_⟩) (by assumption) ?_
      rotate_left
      · intro wz hSz; (try dsimp only at hSz); go_simp; all_goals (with_reducible rfl)
      (try simp only [Act.put, List.setIfInBounds_toArray, List.set_cons_zero, List.set_cons_succ])
      refine wpAnyH_take (i := 7) (oi := { dst := some 26, op := Op.load 3 (Operand.tmp 25), type := 3, pos := "junctionref14.go:193", after := #[{ on := 6, ground := Ground.data }], guard := none }) (v := ?_) rfl (by kernel_rfl) (by kernel_rfl) (by kernel_rfl) (fun _ _ _ h => h) (Or.inl ⟨by rfl, ?_⟩) (by assumption) ?_
      rotate_left
      · intro wz hSz; (try dsimp only at hSz); go_simp; all_goals (with_reducible rfl)
      (try simp only [Act.put, List.setIfInBounds_toArray, List.set_cons_zero, List.set_cons_succ])
      refine wpAnyH_ready (rs := [3]) (by kernel_rfl) (by simp) ?_
      refine AllReadyH.cons (o := { dst := some 22, op := Op.call { callee := Callee.value (Operand.func 16), args := #[Operand.tmp 21], argTypes := #[3] }, type := 9, pos := "junctionref14.go:193", after := #[{ on := 2, ground := Ground.data }], guard := none }) rfl (fun K hK => ?_) AllReadyH.nil
      go_simp
      go_at_call 16
      refine Calls.mono (kl _) ?_
      rintro e w4 ⟨rfl, h4⟩
      have K4 := K0.drew.below h4
      have hb4 := bel_after hb0.drew hb0.drew.size h4
      go_wp2_with fail
      refine hK.out _ _ ?_ (fun hHeld => ?_)
      · (try dsimp only)
        exact ⟨K4.2.1 1, K4.2.1 2⟩
      clear hK K
      (try simp only [Act.put, List.setIfInBounds_toArray, List.set_cons_zero, List.set_cons_succ])
      refine wpAnyH_take (i := 4) (oi := { dst := some 23, op := Op.binOp BinOp.add 9 (Operand.tmp 22) (Operand.const (Value.string { data := #[58] })) 9, type := 9, pos := "junctionref14.go:193", after := #[{ on := 3, ground := Ground.data }], guard := none }) (v := ?_) rfl (by kernel_rfl) (by kernel_rfl) (by kernel_rfl) (fun _ _ _ h => h) (Or.inl ⟨by rfl, ?_⟩) (by assumption) ?_
      rotate_left
      · intro wz hSz; (try dsimp only at hSz); go_simp; all_goals (with_reducible rfl)
      (try simp only [Act.put, List.setIfInBounds_toArray, List.set_cons_zero, List.set_cons_succ])
      refine wpAnyH_ready (rs := [8]) (by kernel_rfl) (by simp) ?_
      refine AllReadyH.cons (o := { dst := some 27, op := Op.call { callee := Callee.value (Operand.func 16), args := #[Operand.tmp 26], argTypes := #[3] }, type := 9, pos := "junctionref14.go:193", after := #[{ on := 7, ground := Ground.data }, { on := 3, ground := Ground.chain }], guard := none }) rfl (fun K hK => ?_) AllReadyH.nil
      go_simp
      go_at_call 16
      refine Calls.mono (km _) ?_
      rintro e w5 ⟨rfl, h5⟩
      have K5 := K4.below h5
      have hb5 := bel_after hb4 hb4.size h5
      go_wp2_with fail
      refine hK.out _ _ ?_ (fun hHeld => ?_)
      · (try dsimp only)
        exact ⟨K5.2.1 1, K5.2.1 2⟩
      clear hK K
      (try simp only [Act.put, List.setIfInBounds_toArray, List.set_cons_zero, List.set_cons_succ])
      refine wpAnyH_take (i := 9) (oi := { dst := some 28, op := Op.binOp BinOp.add 9 (Operand.tmp 23) (Operand.tmp 27) 9, type := 9, pos := "junctionref14.go:193", after := #[{ on := 4, ground := Ground.data }, { on := 8, ground := Ground.data }], guard := none }) (v := ?_) rfl (by kernel_rfl) (by kernel_rfl) (by kernel_rfl) (fun _ _ _ h => h) (Or.inl ⟨by rfl, ?_⟩) (by assumption) ?_
      rotate_left
      · intro wz hSz; (try dsimp only at hSz); go_simp; all_goals (with_reducible rfl)
      (try simp only [Act.put, List.setIfInBounds_toArray, List.set_cons_zero, List.set_cons_succ])
      refine wpAnyH_take (i := 10) (oi := { dst := some 29, op := Op.binOp BinOp.add 9 (Operand.tmp 28) (Operand.const (Value.string { data := #[58, 32] })) 9, type := 9, pos := "junctionref14.go:193", after := #[{ on := 9, ground := Ground.data }], guard := none }) (v := ?_) rfl (by kernel_rfl) (by kernel_rfl) (by kernel_rfl) (fun _ _ _ h => h) (Or.inl ⟨by rfl, ?_⟩) (by assumption) ?_
      rotate_left
      · intro wz hSz; (try dsimp only at hSz); go_simp; all_goals (with_reducible rfl)
      (try simp only [Act.put, List.setIfInBounds_toArray, List.set_cons_zero, List.set_cons_succ])
      refine wpAnyH_take (i := 11) (oi := { dst := some 3, op := Op.assign (Operand.tmp 29), type := 9, pos := "junctionref14.go:193", after := #[{ on := 10, ground := Ground.data }, { on := 8, ground := Ground.chain }, { on := 0, ground := Ground.phase }, { on := 1, ground := Ground.phase }, { on := 2, ground := Ground.phase }, { on := 3, ground := Ground.phase }, { on := 4, ground := Ground.phase }, { on := 5, ground := Ground.phase }, { on := 6, ground := Ground.phase }, { on := 7, ground := Ground.phase }, { on := 8, ground := Ground.phase }, { on := 9, ground := Ground.phase }, { on := 10, ground := Ground.phase }], guard := none }) (v := ?_) rfl (by kernel_rfl) (by kernel_rfl) (by kernel_rfl) (fun _ _ _ h => h) (Or.inl ⟨by rfl, ?_⟩) (by assumption) ?_
      rotate_left
      · intro wz hSz; (try dsimp only at hSz); go_simp; all_goals (with_reducible rfl)
      (try simp only [Act.put, List.setIfInBounds_toArray, List.set_cons_zero, List.set_cons_succ])
      refine wpAnyH_done (by kernel_rfl) ?_ _
      refine NoPanic.normal ?_
      obtain ⟨_, v1, v2⟩ := id K5
      go_wp2_with fail
      go_at_call 14
      refine Calls.mono (k14 _) ?_
      rintro e w6 ⟨rfl, hw6⟩
      have hw7 := hw6.symm
      clear hw6
      subst hw7
      go_wp2_with fail
      go_at_call 16
      refine Calls.mono (kc _) ?_
      rintro e w7 ⟨rfl, h7⟩
      have hb7 := bel_after hb5 hb5.size h7
      have K7 := K5.below h7
      clear v1 v2
      obtain ⟨_, v1, v2⟩ := id K7
      go_wp2_with fail
      go_at_call 7
      refine Calls.mono (k7 _) ?_
      rintro e w8 ⟨rfl, h8⟩
      have hb8 := bel_after hb7 hb7.size h8
      go_wp2_with fail
      go_ret
      exact ⟨ret_str ((appS _ _ _ _).trans hA2.out.symm), hb8⟩
set_option maxRecDepth 100000 in
set_option maxHeartbeats 2000000 in
theorem reports_law (c l m : Int) (w : World) (hP : Pt w) (hPw : Pw w) (hc : -9223372036854775808 ≤ c ∧ c ≤ 9223372036854775807) (hl : -9223372036854775808 ≤ l ∧ l ≤ 9223372036854775807) (hm : -9223372036854775808 ≤ m ∧ m ≤ 9223372036854775807) :
    Calls Tryd.prog 4 #[.agg #[.int .i64 c, .int .i64 l, .int .i64 m]] w fun e w' => e = .returned (.bool true) ∧ Below w.heap.size w w' := by
  have hb0 : Below w.heap.size w (w.alloc (.cells #[.int .i64 c, .int .i64 l, .int .i64 m] 26)) := (Below.refl _ _).alloc (Nat.le_refl _) _
  have K0 : Has (w.alloc (.cells #[.int .i64 c, .int .i64 l, .int .i64 m] 26)) w.heap.size #[.int .i64 c, .int .i64 l, .int .i64 m] := Has.new _ _ _ rfl
  have k8 := report_any c l m (w.alloc (.cells #[.int .i64 c, .int .i64 l, .int .i64 m] 26)).drew (hP.below hb0.drew) (hPw.below hb0.drew) hc hl hm
  have k9 := fun X => refReport_any c l m X hc hl hm
  generalize rpF c l m = F at *
  go_enter Tryd.func4, Tryd.ntmps4
  go_wp2_with fail
  refine wp_region_noPanic ?_
  refine wp_region_held_drew (S := fun w' => w'.cell? ⟨w.heap.size, 0, none⟩ = some (.int .i64 c) ∧ w'.cell? ⟨w.heap.size, 1, none⟩ = some (.int .i64 l) ∧ w'.cell? ⟨w.heap.size, 2, none⟩ = some (.int .i64 m)) (by kernel_rfl) ?_ (fun hHeld => ?_)
  · (try dsimp only)
    exact ⟨K0.drew.2.1 0, K0.drew.2.1 1, K0.drew.2.1 2⟩
  refine wpAnyH_take (i := 0) (oi := { dst := some 3, op := Op.load 26 (Operand.tmp 1), type := 26, pos := "driver.go:82", after := #[], guard := none }) (v := ?_) rfl (by kernel_rfl) (by kernel_rfl) (by kernel_rfl) (fun _ _ _ h => h) (Or.inl ⟨by rfl, ?_⟩) (by assumption) ?_
  rotate_left
  · intro wz hSz; (try dsimp only at hSz); go_simp; all_goals (with_reducible rfl)
  (try simp only [Act.put, List.setIfInBounds_toArray, List.set_cons_zero, List.set_cons_succ])
  refine wpAnyH_take (i := 2) (oi := { dst := some 5, op := Op.load 26 (Operand.tmp 1), type := 26, pos := "driver.go:82", after := #[], guard := none }) (v := ?_) rfl (by kernel_rfl) (by kernel_rfl) (by kernel_rfl) (fun _ _ _ h => h) (Or.inl ⟨by rfl, ?_⟩) (by assumption) ?_
  rotate_left
  · intro wz hSz; (try dsimp only at hSz); go_simp; all_goals (with_reducible rfl)
  (try simp only [Act.put, List.setIfInBounds_toArray, List.set_cons_zero, List.set_cons_succ])
  refine wpAnyH_ready (rs := [1]) (by kernel_rfl) (by simp) ?_
  refine AllReadyH.cons (o := { dst := some 4, op := Op.call { callee := Callee.value (Operand.func 8), args := #[Operand.tmp 3], argTypes := #[26] }, type := 9, pos := "driver.go:82", after := #[{ on := 0, ground := Ground.data }], guard := none }) rfl (fun K hK => ?_) AllReadyH.nil
  go_simp
  go_at_call 8
  refine Calls.mono k8 ?_
  rintro e w1 ⟨rfl, h1⟩
  have K1 := K0.drew.below h1
  have hb1 := bel_after hb0.drew hb0.drew.size h1
  go_wp2_with fail
  refine hK.out _ _ ?_ (fun hHeld => ?_)
  · (try dsimp only)
    exact ⟨K1.2.1 0, K1.2.1 1, K1.2.1 2⟩
  clear hK K
  (try simp only [Act.put, List.setIfInBounds_toArray, List.set_cons_zero, List.set_cons_succ])
  refine wpAnyH_ready (rs := [3]) (by kernel_rfl) (by simp) ?_
  refine AllReadyH.cons (o := { dst := some 6, op := Op.call { callee := Callee.value (Operand.func 9), args := #[Operand.tmp 5], argTypes := #[26] }, type := 9, pos := "driver.go:82", after := #[{ on := 2, ground := Ground.data }, { on := 1, ground := Ground.chain }], guard := none }) rfl (fun K hK => ?_) AllReadyH.nil
  go_simp
  go_at_call 9
  refine Calls.mono (k9 w1) ?_
  rintro e w2 ⟨rfl, h2⟩
  have K2 := K1.below h2
  have hb2 := bel_after hb1 hb1.size h2
  go_wp2_with fail
  refine hK.out _ _ ?_ (fun hHeld => ?_)
  · (try dsimp only)
    exact ⟨K2.2.1 0, K2.2.1 1, K2.2.1 2⟩
  clear hK K
  (try simp only [Act.put, List.setIfInBounds_toArray, List.set_cons_zero, List.set_cons_succ])
  refine wpAnyH_take (i := 4) (oi := { dst := some 7, op := Op.binOp BinOp.eql 9 (Operand.tmp 4) (Operand.tmp 6) 9, type := 4, pos := "driver.go:82", after := #[{ on := 1, ground := Ground.data }, { on := 3, ground := Ground.data }], guard := none }) (v := ?_) rfl (by kernel_rfl) (by kernel_rfl) (by kernel_rfl) (fun _ _ _ h => h) (Or.inl ⟨by rfl, ?_⟩) (by assumption) ?_
  rotate_left
  · intro wz hSz; (try dsimp only at hSz); go_simp; all_goals (with_reducible rfl)
  (try simp only [Act.put, List.setIfInBounds_toArray, List.set_cons_zero, List.set_cons_succ])
  refine wpAnyH_take (i := 5) (oi := { dst := some 2, op := Op.assign (Operand.tmp 7), type := 4, pos := "driver.go:82", after := #[{ on := 4, ground := Ground.data }, { on := 3, ground := Ground.chain }, { on := 0, ground := Ground.phase }, { on := 1, ground := Ground.phase }, { on := 2, ground := Ground.phase }, { on := 3, ground := Ground.phase }, { on := 4, ground := Ground.phase }], guard := none }) (v := ?_) rfl (by kernel_rfl) (by kernel_rfl) (by kernel_rfl) (fun _ _ _ h => h) (Or.inl ⟨by rfl, ?_⟩) (by assumption) ?_
  rotate_left
  · intro wz hSz; (try dsimp only at hSz); go_simp; all_goals (with_reducible rfl)
  (try simp only [Act.put, List.setIfInBounds_toArray, List.set_cons_zero, List.set_cons_succ])
  refine wpAnyH_done (by kernel_rfl) ?_ _
  refine NoPanic.normal ?_
  go_wp2_with fail
  go_ret
  exact ⟨rfl, hb2⟩
end Go.Proofs.YtdajmfhcajopcaaDoor
