import Derived.Test.YtcajejfddfiidaaDoorInN
namespace Go.Proofs.YtcajejfddfiidaaDoor
open Go.RowKit
set_option linter.unusedVariables false
set_option linter.unusedSimpArgs false


theorem bs_of (d : ByteArray) : bs d.data.toList = d := by apply WideShapes.bytes_inj; simp [bs]
theorem own_u {w : World} {base n : Nat} {a : Option Addr} {c k : Nat} {L : List Int} (h : w.ownsRow base 26 1 (.slice a n c) n (L.map uv)) (hk : k < L.length) : ∃ g, a = some ⟨g, 0, none⟩ ∧ g < w.heap.size ∧ base ≤ g ∧ w.cell? ⟨g, k, none⟩ = some (.int .u64 L[k]) := by
  have hn : L.length = n := by have h1 := h.1; rw [List.length_map, Nat.mul_one] at h1; exact h1
  obtain ⟨g, cap, e, -, hb, hg⟩ := own_blockR h (by omega)
  injection e with e _ _
  exact ⟨g, e, hg, hb, own_reads h (g := g) (by rw [e]; rfl) k _ (by simp [hk, uv])⟩
set_option maxRecDepth 100000 in
set_option maxHeartbeats 2000000 in
theorem inputs_law (s : ByteArray) (w : World) (hG : Sg w) (hT : Lib.Utf8Tabs 0 1 w) (hs : s.size ≤ 140737488355328) : Calls Tryd.prog 3 #[.string s] w fun e w' => e = .returned (.bool true) ∧ Below w.heap.size w w' := by
  have eS : bs s.data.toList = s := bs_of s
  have hX : s.data.toList.length ≤ 140737488355328 := by rw [← Lib.size_eq]; exact hs
  have k7 := inputs_any s.data.toList w hG hT hX
  have k8 := fun (W : World) => refInputs_any s.data.toList W hX
  rw [eS] at k7
  simp only [eS] at k8
  cases ho : inF okW (wsA [] s.data.toList) [] with
  | none =>
    rw [ho] at k7
    simp only [ho] at k8
    have k8' : Hid _ := k8
    clear k8 hG hT eS ho
    have t0 : ¬ (0 : Int) < ((0 : Nat) : Int) := by decide
    go_enter Tryd.func3, Tryd.ntmps3
    go_wp2_with (first | (go_at_call 7; (with_reducible refine Calls.mono k7 ?_); rintro e w1 ⟨rfl, hb1⟩; have k8 := k8'.out w1) | (go_at_call 8; (with_reducible refine Calls.mono k8 ?_); rintro e w2 ⟨rfl, hb2⟩))
    go_loopw [7] (fun i wr => i = .int .i64 0 ∧ Hid (wr = w2)) (fun _ _ => 0)
    case atStart => exact ⟨rfl, rfl⟩
    case round =>
      obtain ⟨rfl, hwr⟩ := hrel
      have hwr' := hwr.out
      subst hwr'
      go_wp2_with fail
      go_ret
      exact ⟨rfl, hb1.trans (hb2.mono hb1.size)⟩
  | some L =>
    rw [ho] at k7
    simp only [ho] at k8
    have k8' : Hid _ := k8
    clear k8 hG hT eS ho
    go_enter Tryd.func3, Tryd.ntmps3
    go_wp2_with (first
      | (go_at_call 7; (with_reducible refine Calls.mono k7 ?_); rintro e w1 ⟨⟨v1, rfl, o1, hL6⟩, hb1⟩; obtain ⟨a1, c1, rfl⟩ := own_slice' o1; have k8 := k8'.out w1)
      | (go_at_call 8; (with_reducible refine Calls.mono k8 ?_); rintro e w2 ⟨⟨v2, rfl, o2, -⟩, hb2⟩; obtain ⟨a2, c2, rfl⟩ := own_slice' o2; have o1' : Hid (w2.ownsRow w.heap.size 26 1 (.slice a1 L.length c1) L.length (L.map uv)) := own_bel o1 hb2; have o2' : Hid (w2.ownsRow w1.heap.size 26 1 (.slice a2 L.length c2) L.length (L.map uv)) := o2))
    have hbw : Hid (Below w.heap.size w w2) := hb1.trans (hb2.mono hb1.size)
    clear o1 o2 hb1 hb2
    go_loopw [7] (fun i wr => ∃ k : Nat, k ≤ L.length ∧ i = .int .i64 (k : Int) ∧ Hid (wr.ownsRow w.heap.size 26 1 (.slice a1 L.length c1) L.length (L.map uv)) ∧ Hid (wr.ownsRow w1.heap.size 26 1 (.slice a2 L.length c2) L.length (L.map uv)) ∧ Hid (Below w.heap.size w wr)) (fun i _ => L.length - (intOf i).toNat)
    case atStart => exact ⟨0, by omega, rfl, o1', o2', hbw⟩
    case round =>
      clear o1' o2' hbw
      obtain ⟨k, hk, rfl, o1, o2, hb⟩ := hrel
      by_cases hlt : k < L.length
      case neg =>
        have t1 : ¬ (k : Int) < (L.length : Int) := by omega
        go_wp2_with fail
        go_ret
        exact ⟨rfl, hb⟩
      have t1 : (k : Int) < (L.length : Int) := by omega
      have t2 : (0 : Int) ≤ (k : Int) := by omega
      obtain ⟨g1, rfl, -, -, x1⟩ := own_u o1.out hlt
      obtain ⟨g2, rfl, -, -, x2⟩ := own_u o2.out hlt
      have hod : Hid (wr.drew.ownsRow w.heap.size 26 1 (.slice (some ⟨g1, 0, none⟩) L.length c1) L.length (L.map uv)) := own_bel o1.out ((Below.refl _ _).drew)
      have hoe : Hid (wr.drew.ownsRow w1.heap.size 26 1 (.slice (some ⟨g2, 0, none⟩) L.length c2) L.length (L.map uv)) := own_bel o2.out ((Below.refl _ _).drew)
      have hbd : Hid (Below w.heap.size w wr.drew) := hb.out.drew
      generalize L[k] = y at x1 x2
      go_upto_region 8 with fail
      refine wp_region_noPanic ?_
      refine wp_region_held_drew (S := fun w' => w'.cell? ⟨g1, k, none⟩ = some (.int .u64 y) ∧ w'.cell? ⟨g2, k, none⟩ = some (.int .u64 y)) (by kernel_rfl) ?_ (fun hHeld => ?_)
      · (try dsimp only)
        exact ⟨x1, x2⟩
      refine wpAnyH_take (i := 0) (oi := { dst := some 34, op := Op.move (Operand.tmp 3), type := 22, pos := "driver.go:107", after := #[], guard := none }) (v := ?_) rfl (by kernel_rfl) (by kernel_rfl) (by kernel_rfl) (fun _ _ _ h => h) (Or.inl ⟨by rfl, ?_⟩) (by assumption) ?_
      rotate_left
      · intro wz hSz; (try dsimp only at hSz); go_simp; all_goals (with_reducible rfl)
      (try simp only [Act.put, List.setIfInBounds_toArray, List.set_cons_zero, List.set_cons_succ])
      refine wpAnyH_take (i := 1) (oi := { dst := some 35, op := Op.move (Operand.tmp 7), type := 3, pos := "driver.go:107", after := #[], guard := none }) (v := ?_) rfl (by kernel_rfl) (by kernel_rfl) (by kernel_rfl) (fun _ _ _ h => h) (Or.inl ⟨by rfl, ?_⟩) (by assumption) ?_
      rotate_left
      · intro wz hSz; (try dsimp only at hSz); go_simp; all_goals (with_reducible rfl)
      (try simp only [Act.put, List.setIfInBounds_toArray, List.set_cons_zero, List.set_cons_succ])
      refine wpAnyH_take (i := 2) (oi := { dst := some 36, op := Op.indexAddr 22 (Operand.tmp 34) (Operand.tmp 35), type := 0, pos := "driver.go:107", after := #[{ on := 0, ground := Ground.data }, { on := 1, ground := Ground.data }], guard := none }) (v := ?_) rfl (by kernel_rfl) (by kernel_rfl) (by kernel_rfl) (fun _ _ _ h => h) (Or.inl ⟨by rfl, ?_⟩) (by assumption) ?_
      rotate_left
      · intro wz hSz; (try dsimp only at hSz); go_simp; all_goals (with_reducible rfl)
      (try simp only [Act.put, List.setIfInBounds_toArray, List.set_cons_zero, List.set_cons_succ])
      refine wpAnyH_take (i := 3) (oi := { dst := some 37, op := Op.load 26 (Operand.tmp 36), type := 26, pos := "driver.go:107", after := #[{ on := 2, ground := Ground.data }], guard := none }) (v := ?_) rfl (by kernel_rfl) (by kernel_rfl) (by kernel_rfl) (fun _ _ _ h => h) (Or.inl ⟨by rfl, ?_⟩) (by assumption) ?_
      rotate_left
      · intro wz hSz; (try dsimp only at hSz); go_simp; all_goals (with_reducible rfl)
      (try simp only [Act.put, List.setIfInBounds_toArray, List.set_cons_zero, List.set_cons_succ])
      refine wpAnyH_take (i := 4) (oi := { dst := some 38, op := Op.move (Operand.tmp 5), type := 22, pos := "driver.go:107", after := #[], guard := none }) (v := ?_) rfl (by kernel_rfl) (by kernel_rfl) (by kernel_rfl) (fun _ _ _ h => h) (Or.inl ⟨by rfl, ?_⟩) (by assumption) ?_
      rotate_left
      · intro wz hSz; (try dsimp only at hSz); go_simp; all_goals (with_reducible rfl)
      (try simp only [Act.put, List.setIfInBounds_toArray, List.set_cons_zero, List.set_cons_succ])
      refine wpAnyH_take (i := 5) (oi := { dst := some 39, op := Op.move (Operand.tmp 7), type := 3, pos := "driver.go:107", after := #[], guard := none }) (v := ?_) rfl (by kernel_rfl) (by kernel_rfl) (by kernel_rfl) (fun _ _ _ h => h) (Or.inl ⟨by rfl, ?_⟩) (by assumption) ?_
      rotate_left
      · intro wz hSz; (try dsimp only at hSz); go_simp; all_goals (with_reducible rfl)
      (try simp only [Act.put, List.setIfInBounds_toArray, List.set_cons_zero, List.set_cons_succ])
      refine wpAnyH_take (i := 6) (oi := { dst := some 40, op := Op.indexAddr 22 (Operand.tmp 38) (Operand.tmp 39), type := 0, pos := "driver.go:107", after := #[{ on := 4, ground := Ground.data }, { on := 5, ground := Ground.data }], guard := none }) (v := ?_) rfl (by kernel_rfl) (by kernel_rfl) (by kernel_rfl) (fun _ _ _ h => h) (Or.inl ⟨by rfl, ?_⟩) (by assumption) ?_
      rotate_left
      · intro wz hSz; (try dsimp only at hSz); go_simp; all_goals (with_reducible rfl)
      (try simp only [Act.put, List.setIfInBounds_toArray, List.set_cons_zero, List.set_cons_succ])
      refine wpAnyH_take (i := 7) (oi := { dst := some 41, op := Op.load 26 (Operand.tmp 40), type := 26, pos := "driver.go:107", after := #[{ on := 6, ground := Ground.data }], guard := none }) (v := ?_) rfl (by kernel_rfl) (by kernel_rfl) (by kernel_rfl) (fun _ _ _ h => h) (Or.inl ⟨by rfl, ?_⟩) (by assumption) ?_
      rotate_left
      · intro wz hSz; (try dsimp only at hSz); go_simp; all_goals (with_reducible rfl)
      (try simp only [Act.put, List.setIfInBounds_toArray, List.set_cons_zero, List.set_cons_succ])
      refine wpAnyH_take (i := 8) (oi := { dst := some 42, op := Op.binOp BinOp.neq 26 (Operand.tmp 37) (Operand.tmp 41) 26, type := 4, pos := "driver.go:107", after := #[{ on := 3, ground := Ground.data }, { on := 7, ground := Ground.data }], guard := none }) (v := ?_) rfl (by kernel_rfl) (by kernel_rfl) (by kernel_rfl) (fun _ _ _ h => h) (Or.inl ⟨by rfl, ?_⟩) (by assumption) ?_
      rotate_left
      · intro wz hSz; (try dsimp only at hSz); go_simp; all_goals (with_reducible rfl)
      (try simp only [Act.put, List.setIfInBounds_toArray, List.set_cons_zero, List.set_cons_succ])
      refine wpAnyH_done (by kernel_rfl) ?_ _
      refine NoPanic.normal ?_
      go_wp2_with fail
      go_roundw
      case rel => exact ⟨k + 1, by omega, by go_num, hod, hoe, hbd⟩
      case measure => simp [intOf]; omega
end Go.Proofs.YtcajejfddfiidaaDoor
