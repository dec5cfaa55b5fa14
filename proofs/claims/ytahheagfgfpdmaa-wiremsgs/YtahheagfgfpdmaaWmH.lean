import Derived.Test.YtahheagfgfpdmaaWmG
namespace Go.Proofs.Ytahheagfgfpdmaa
open Go.RowKit
set_option linter.unusedVariables false
set_option linter.unusedSimpArgs false

set_option maxRecDepth 100000 in
set_option maxHeartbeats 2000000 in
theorem pack6 (S : Nat → Prop) (k s n u : Int) (D : List Int) (l c : Nat) (va : Option Addr) (w : World) (hD : D.length = l) (hB : By S w (.slice va l c) D) (n0 : 0 ≤ n) (n1 : n < 4294967296) (u0 : 0 ≤ u) (u1 : u < 4294967296) (hl : l ≤ 140737488355000) : Calls Try.prog 6 #[.agg #[.int .i64 k, .int .i64 s, .int .u32 n, .int .u32 u, .slice va l c]] w fun e w' => (∃ v, e = .returned (.tuple #[v, .int .i64 (pkE k s n u l)]) ∧ Ob w.heap.size w' v (pkL k s n u D)) ∧ Below w.heap.size w w' := by
  cases hf : fmB k s n u l with
  | false =>
    have hE : pkE k s n u l = 173 := by simp [pkE, hf]
    have hP : pkL k s n u D = [] := by simp [pkL, hD, hf]
    rw [hE, hP]
    have hfm : ∀ X : World, Calls Try.prog 17 #[.agg #[.int .i64 k, .int .i64 s, .int .u32 n, .int .u32 u, .slice va l c]] X fun e w' => e = .returned (.bool false) ∧ Below X.heap.size X w' := fun X => by have := wfm_any k s n u l c va X (by omega); rwa [hf] at this
    go_enter Try.func6, Try.ntmps6
    go_wp2_with (go_at_call 17; (with_reducible refine Calls.mono (hfm _) ?_); rintro e w1 ⟨rfl, hb1⟩)
    go_ret2
    exact ⟨⟨_, rfl, .inl ⟨rfl, rfl⟩⟩, (belN1 (w := w)).trans (hb1.mono (by simp))⟩
  | true =>
    have hE : pkE k s n u l = 0 := by simp [pkE, hf]
    have hP : pkL k s n u D = [k, s] ++ w4 n ++ w4 u ++ D := by simp [pkL, hD, hf]
    rw [hE, hP]
    obtain ⟨⟨k0, k1⟩, ⟨s0, s1⟩, l1⟩ := fm_spec hf
    have kw : IntKind.u8.wrap k = k := wrap8 _ (by omega)
    have sw : IntKind.u8.wrap s = s := wrap8 _ (by omega)
    have km : k % 256 = k := by omega
    have sm : s % 256 = s := by omega
    have hfm : ∀ X : World, Calls Try.prog 17 #[.agg #[.int .i64 k, .int .i64 s, .int .u32 n, .int .u32 u, .slice va l c]] X fun e w' => e = .returned (.bool true) ∧ Below X.heap.size X w' := fun X => by have := wfm_any k s n u l c va X (by omega); rwa [hf] at this
    have hD' : Hid (D.length = l) := hD
    clear hD
    go_enter Try.func6, Try.ntmps6
    go_upto_region 3 with (go_at_call 17; (with_reducible refine Calls.mono (hfm _) ?_); rintro e w1 ⟨rfl, hb1⟩; have hm := Has.below (Has.new w #[.int .i64 k, .int .i64 s, .int .u32 n, .int .u32 u, .slice va l c] 25 rfl) hb1; have m0 := hm.2.1 0; have m1 := hm.2.1 1; have m2 := hm.2.1 2; have m3 := hm.2.1 3; have m4 := hm.2.1 4; have z1 : w.heap.size < w1.heap.size := Nat.lt_of_lt_of_le (by simp) hb1.size)
    refine wp_region_noPanic ?_
    refine wp_region_held_drew (S := fun w' => w'.cell? ⟨w.heap.size, 0, none⟩ = some (.int .i64 k) ∧ w'.cell? ⟨w.heap.size, 1, none⟩ = some (.int .i64 s) ∧ w'.cell? ⟨w.heap.size, 2, none⟩ = some (.int .u32 n) ∧ w'.cell? ⟨w.heap.size, 3, none⟩ = some (.int .u32 u)) (by kernel_rfl) ?_ (fun hHeld => ?_)
    · (try dsimp only)
      exact ⟨m0, m1, m2, m3⟩
    refine wpAnyH_take (i := 0) (oi := { dst := some 8, op := Op.fieldAddr 25 (Operand.tmp 1) 0, type := 0, pos := "message.go:22", after := #[], guard := none }) (v := ?_) rfl (by kernel_rfl) (by kernel_rfl) (by kernel_rfl) (fun _ _ _ h => h) (Or.inl ⟨by rfl, ?_⟩) (by assumption) ?_
    rotate_left
    · intro wz hSz; (try dsimp only at hSz); go_simp; all_goals (with_reducible rfl)
    (try simp only [Act.put, List.setIfInBounds_toArray, List.set_cons_zero, List.set_cons_succ])
    refine wpAnyH_take (i := 1) (oi := { dst := some 9, op := Op.load 3 (Operand.tmp 8), type := 3, pos := "message.go:22", after := #[{ on := 0, ground := Ground.data }], guard := none }) (v := ?_) rfl (by kernel_rfl) (by kernel_rfl) (by kernel_rfl) (fun _ _ _ h => h) (Or.inl ⟨by rfl, ?_⟩) (by assumption) ?_
    rotate_left
    · intro wz hSz; (try dsimp only at hSz); go_simp; all_goals (with_reducible rfl)
    (try simp only [Act.put, List.setIfInBounds_toArray, List.set_cons_zero, List.set_cons_succ])
    refine wpAnyH_take (i := 2) (oi := { dst := some 10, op := Op.convert 3 5 (Operand.tmp 9), type := 5, pos := "message.go:22", after := #[{ on := 1, ground := Ground.data }], guard := none }) (v := ?_) rfl (by kernel_rfl) (by kernel_rfl) (by kernel_rfl) (fun _ _ _ h => h) (Or.inl ⟨by rfl, ?_⟩) (by assumption) ?_
    rotate_left
    · intro wz hSz; (try dsimp only at hSz); go_simp; all_goals (with_reducible rfl)
    (try simp only [Act.put, List.setIfInBounds_toArray, List.set_cons_zero, List.set_cons_succ])
    refine wpAnyH_take (i := 3) (oi := { dst := some 11, op := Op.fieldAddr 25 (Operand.tmp 1) 1, type := 0, pos := "message.go:22", after := #[], guard := none }) (v := ?_) rfl (by kernel_rfl) (by kernel_rfl) (by kernel_rfl) (fun _ _ _ h => h) (Or.inl ⟨by rfl, ?_⟩) (by assumption) ?_
    rotate_left
    · intro wz hSz; (try dsimp only at hSz); go_simp; all_goals (with_reducible rfl)
    (try simp only [Act.put, List.setIfInBounds_toArray, List.set_cons_zero, List.set_cons_succ])
    refine wpAnyH_take (i := 4) (oi := { dst := some 12, op := Op.load 3 (Operand.tmp 11), type := 3, pos := "message.go:22", after := #[{ on := 3, ground := Ground.data }], guard := none }) (v := ?_) rfl (by kernel_rfl) (by kernel_rfl) (by kernel_rfl) (fun _ _ _ h => h) (Or.inl ⟨by rfl, ?_⟩) (by assumption) ?_
    rotate_left
    · intro wz hSz; (try dsimp only at hSz); go_simp; all_goals (with_reducible rfl)
    (try simp only [Act.put, List.setIfInBounds_toArray, List.set_cons_zero, List.set_cons_succ])
    refine wpAnyH_take (i := 5) (oi := { dst := some 13, op := Op.convert 3 5 (Operand.tmp 12), type := 5, pos := "message.go:22", after := #[{ on := 4, ground := Ground.data }], guard := none }) (v := ?_) rfl (by kernel_rfl) (by kernel_rfl) (by kernel_rfl) (fun _ _ _ h => h) (Or.inl ⟨by rfl, ?_⟩) (by assumption) ?_
    rotate_left
    · intro wz hSz; (try dsimp only at hSz); go_simp; all_goals (with_reducible rfl)
    (try simp only [Act.put, List.setIfInBounds_toArray, List.set_cons_zero, List.set_cons_succ])
    refine wpAnyH_take (i := 7) (oi := { dst := some 15, op := Op.fieldAddr 25 (Operand.tmp 1) 2, type := 0, pos := "message.go:22", after := #[], guard := none }) (v := ?_) rfl (by kernel_rfl) (by kernel_rfl) (by kernel_rfl) (fun _ _ _ h => h) (Or.inl ⟨by rfl, ?_⟩) (by assumption) ?_
    rotate_left
    · intro wz hSz; (try dsimp only at hSz); go_simp; all_goals (with_reducible rfl)
    (try simp only [Act.put, List.setIfInBounds_toArray, List.set_cons_zero, List.set_cons_succ])
    refine wpAnyH_take (i := 8) (oi := { dst := some 16, op := Op.load 22 (Operand.tmp 15), type := 22, pos := "message.go:22", after := #[{ on := 7, ground := Ground.data }], guard := none }) (v := ?_) rfl (by kernel_rfl) (by kernel_rfl) (by kernel_rfl) (fun _ _ _ h => h) (Or.inl ⟨by rfl, ?_⟩) (by assumption) ?_
    rotate_left
    · intro wz hSz; (try dsimp only at hSz); go_simp; all_goals (with_reducible rfl)
    (try simp only [Act.put, List.setIfInBounds_toArray, List.set_cons_zero, List.set_cons_succ])
    refine wpAnyH_take (i := 10) (oi := { dst := some 18, op := Op.fieldAddr 25 (Operand.tmp 1) 3, type := 0, pos := "message.go:22", after := #[], guard := none }) (v := ?_) rfl (by kernel_rfl) (by kernel_rfl) (by kernel_rfl) (fun _ _ _ h => h) (Or.inl ⟨by rfl, ?_⟩) (by assumption) ?_
    rotate_left
    · intro wz hSz; (try dsimp only at hSz); go_simp; all_goals (with_reducible rfl)
    (try simp only [Act.put, List.setIfInBounds_toArray, List.set_cons_zero, List.set_cons_succ])
    refine wpAnyH_take (i := 11) (oi := { dst := some 19, op := Op.load 22 (Operand.tmp 18), type := 22, pos := "message.go:22", after := #[{ on := 10, ground := Ground.data }], guard := none }) (v := ?_) rfl (by kernel_rfl) (by kernel_rfl) (by kernel_rfl) (fun _ _ _ h => h) (Or.inl ⟨by rfl, ?_⟩) (by assumption) ?_
    rotate_left
    · intro wz hSz; (try dsimp only at hSz); go_simp; all_goals (with_reducible rfl)
    (try simp only [Act.put, List.setIfInBounds_toArray, List.set_cons_zero, List.set_cons_succ])
    refine wpAnyH_ready (rs := [6]) (by kernel_rfl) (by simp) ?_
    refine AllReadyH.cons (o := { dst := some 14, op := Op.buildSlice 23 2 #[(0, Operand.tmp 10), (1, Operand.tmp 13)], type := 23, pos := "message.go:22", after := #[{ on := 2, ground := Ground.data }, { on := 5, ground := Ground.data }], guard := none }) rfl (fun K hK => ?_) AllReadyH.nil
    go_simp
    refine hK.out _ _ ?_ (fun hHeld => ?_)
    · (try dsimp only)
      exact ⟨(hm.drew.alloc _).2.1 0, (hm.drew.alloc _).2.1 1, (hm.drew.alloc _).2.1 2, (hm.drew.alloc _).2.1 3⟩
    clear hK K
    (try simp only [Act.put, List.setIfInBounds_toArray, List.set_cons_zero, List.set_cons_succ])
    refine wpAnyH_ready (rs := [9]) (by kernel_rfl) (by simp) ?_
    refine AllReadyH.cons (o := { dst := some 17, op := Op.call { callee := Callee.value (Operand.func 18), args := #[Operand.tmp 14, Operand.tmp 16], argTypes := #[23, 22] }, type := 23, pos := "message.go:22", after := #[{ on := 6, ground := Ground.data }, { on := 8, ground := Ground.data }], guard := none }) rfl (fun K hK => ?_) AllReadyH.nil
    go_simp
    have hq := addWord_any w1.heap.size [k, s] 2 (.slice (some ⟨w1.heap.size, 0, none⟩) 2 2) n (w1.alloc (.cells #[.int .u8 k, .int .u8 s] 5)).drew rfl n0 n1 (own_bel (own_two w1 k s) ((Below.refl _ _).drew)) (by decide) (by simp); go_at_call 18; (with_reducible refine Calls.mono hq ?_); clear hq; rintro e w2 ⟨⟨g2, c2, rfl, o2⟩, hb2⟩; have hb2' : Below w1.heap.size w1 w2 := (((Below.refl w1.heap.size w1).alloc (Nat.le_refl _) _).drew).trans hb2; have hm2 := hm.belB hb2' z1; have a0 := hm2.2.1 0; have a1 := hm2.2.1 1; have a2 := hm2.2.1 2; have a3 := hm2.2.1 3; have a4 := hm2.2.1 4
    go_wp2_with fail
    refine hK.out _ _ ?_ (fun hHeld => ?_)
    · (try dsimp only)
      exact ⟨a0, a1, a2, a3⟩
    clear hK K
    (try simp only [Act.put, List.setIfInBounds_toArray, List.set_cons_zero, List.set_cons_succ])
    refine wpAnyH_ready (rs := [12]) (by kernel_rfl) (by simp) ?_
    refine AllReadyH.cons (o := { dst := some 20, op := Op.call { callee := Callee.value (Operand.func 18), args := #[Operand.tmp 17, Operand.tmp 19], argTypes := #[23, 22] }, type := 23, pos := "message.go:22", after := #[{ on := 9, ground := Ground.data }, { on := 11, ground := Ground.data }, { on := 9, ground := Ground.chain }], guard := none }) rfl (fun K hK => ?_) AllReadyH.nil
    go_simp
    have hq := addWord_any w1.heap.size ([k, s] ++ w4 n) 6 (.slice (some ⟨g2, 0, none⟩) 6 c2) u w2 (by simp [w4]) u0 u1 o2 (by decide) hb2'.size; go_at_call 18; (with_reducible refine Calls.mono hq ?_); clear hq; rintro e w3 ⟨⟨g3, c3, rfl, o3⟩, hb3⟩; have hb3' : Below w1.heap.size w1 w3 := hb2'.trans hb3; have hm3 := hm.belB hb3' z1; have d0 := hm3.2.1 0; have d1 := hm3.2.1 1; have d2 := hm3.2.1 2; have d3 := hm3.2.1 3; have d4 := hm3.2.1 4; have hbw : Below w.heap.size w w3 := ((belN1 (w := w)).trans (hb1.mono (by simp))).trans (hb3'.mono (Nat.le_of_lt z1))
    go_wp2_with fail
    refine hK.out _ _ ?_ (fun hHeld => ?_)
    · (try dsimp only)
      exact ⟨d0, d1, d2, d3⟩
    clear hK K
    (try simp only [Act.put, List.setIfInBounds_toArray, List.set_cons_zero, List.set_cons_succ])
    refine wpAnyH_take (i := 13) (oi := { dst := some 4, op := Op.assign (Operand.tmp 20), type := 23, pos := "message.go:22", after := #[{ on := 12, ground := Ground.data }, { on := 12, ground := Ground.chain }, { on := 0, ground := Ground.phase }, { on := 1, ground := Ground.phase }, { on := 2, ground := Ground.phase }, { on := 3, ground := Ground.phase }, { on := 4, ground := Ground.phase }, { on := 5, ground := Ground.phase }, { on := 6, ground := Ground.phase }, { on := 7, ground := Ground.phase }, { on := 8, ground := Ground.phase }, { on := 9, ground := Ground.phase }, { on := 10, ground := Ground.phase }, { on := 11, ground := Ground.phase }, { on := 12, ground := Ground.phase }], guard := none }) (v := ?_) rfl (by kernel_rfl) (by kernel_rfl) (by kernel_rfl) (fun _ _ _ h => h) (Or.inl ⟨by rfl, ?_⟩) (by assumption) ?_
    rotate_left
    · intro wz hSz; (try dsimp only at hSz); go_simp; all_goals (with_reducible rfl)
    (try simp only [Act.put, List.setIfInBounds_toArray, List.set_cons_zero, List.set_cons_succ])
    refine wpAnyH_done (by kernel_rfl) ?_ _
    refine NoPanic.normal ?_
    go_wp2_with (at_builtin; (refine wpList_append_by rfl _ _ rfl w1.heap.size 10 g3 c3 ([k, s] ++ w4 n ++ w4 u) rfl o3 S va l c D hD'.out rfl (hB.keep (Mv.below hbw)) (by omega) (by decide) hb3'.size ?_); intro g4 c4 w4' o4 hg4)
    go_ret2
    have hlen : ([k, s] ++ w4 n ++ w4 u ++ D).length = 10 + l := by simp [w4, hD'.out]; omega
    refine ⟨⟨.slice (some ⟨g4, 0, none⟩) (10 + l) c4, rfl, ?_⟩, grown_bel (B := w.heap.size) hbw hg4 (Nat.le_refl _) (fun q hq => by injection hq with hq; subst hq; have := (own_lt o3 g3 rfl).1; omega)⟩
    have hgl := (own_lt o4 g4 rfl).1
    show Ob _ _ _ ([k, s] ++ w4 n ++ w4 u ++ D)
    generalize [k, s] ++ w4 n ++ w4 u ++ D = P at *
    rw [← hlen] at o4 ⊢
    exact Ob.own (B := w.heap.size) o4 (by omega) (by omega)
end Go.Proofs.Ytahheagfgfpdmaa
