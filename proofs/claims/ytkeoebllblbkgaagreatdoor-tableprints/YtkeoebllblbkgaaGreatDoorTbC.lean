import Derived.Test.YtkeoebllblbkgaaGreatDoorTbB
import Derived.Test.YtkeoebllblbkgaaGreatDoorInR
namespace Go.Proofs.YtkeoebllblbkgaaGreatDoor
open Go.RowKit
set_option linter.unusedVariables false
set_option linter.unusedSimpArgs false

theorem wrap64 (z : Int) (h : -9223372036854775808 ≤ z ∧ z ≤ 9223372036854775807) : IntKind.i64.wrap z = z := by
  simp [IntKind.wrap, IntKind.bits, IntKind.signed]
  omega
theorem ri_step (L : List Int) (j : Nat) (h : j + 1 < L.length) : riB (L.drop j) = (decide (L[j] < L[j + 1]) && riB (L.drop (j + 1))) := by
  rw [List.drop_eq_getElem_cons (show j < L.length by omega), List.drop_eq_getElem_cons h]; rfl
theorem ri_end (L : List Int) (j : Nat) (h : L.length ≤ j + 1) : riB (L.drop j) = true := by
  rcases Nat.lt_or_ge j L.length with h1 | h1
  · rw [List.drop_eq_getElem_cons h1, List.drop_eq_nil_of_le (by omega)]; rfl
  · rw [List.drop_eq_nil_of_le h1]; rfl
set_option maxRecDepth 100000 in
set_option maxHeartbeats 4000000 in
theorem k81 (x : Rw) (w : World) : Calls Tryz.prog 72 #[.agg #[.int .i64 x.m, .int .i64 x.s]] w fun e w' => e = .returned (.int .i64 x.m) ∧ Below w.heap.size w w' := by
  obtain ⟨m, p⟩ := x
  dsimp only at *
  go_enter Tryz.func72, Tryz.ntmps72
  go_wp2
  go_ret
  exact ⟨rfl, bel1⟩
set_option maxRecDepth 100000 in
set_option maxHeartbeats 4000000 in
theorem riseR (L : List Rw) (a : Option Addr) (c : Nat) (w : World) (hL : L = [] ∨ ∃ g o, a = some ⟨g, o, none⟩ ∧ g < w.heap.size ∧ ∀ (i : Nat) (h : i < L.length) (j : Nat) (u : Value), (Rw.cs L[i])[j]? = some u → w.cell? ⟨g, o + i * 2 + j, none⟩ = some u) (hl : L.length ≤ 8796093021952) :
    Calls Tryz.prog 71 #[.slice a L.length c, .func (.func 72) #[] #[]] w fun e w' => e = .returned (.bool (riB (L.map (·.m)))) ∧ Below w.heap.size w w' := by
  have hstep : Hid (∀ j, ∀ h : j + 1 < L.length, riB ((L.map (·.m)).drop j) = (decide (L[j].m < L[j + 1].m) && riB ((L.map (·.m)).drop (j + 1)))) := by
    intro j h; rw [ri_step _ j (by simpa using h)]; simp
  have hend : Hid (∀ j, L.length ≤ j + 1 → riB ((L.map (·.m)).drop j) = true) := fun j h => ri_end _ j (by simpa using h)
  have hzero : Hid (riB ((L.map (·.m)).drop 0) = riB (L.map (·.m))) := rfl
  generalize riB (L.map (·.m)) = R at *
  go_enter Tryz.func71, Tryz.ntmps71
  go_wp2
  go_loopg [5] (L.length - 1) (fun gk s5 wr => ∃ j : Nat, j + gk = L.length - 1 ∧ s5 = .int .i64 ((j : Int) + 1) ∧ Hid (riB ((L.map (·.m)).drop j) = R) ∧ Below w.heap.size w wr)
  case atStart => exact ⟨0, by omega, rfl, hzero, Below.refl _ _⟩
  case round =>
    obtain ⟨j, hj, rfl, hA, hb⟩ := hrel
    by_cases hlt : j + 1 < L.length
    · obtain ⟨g, o, rfl, hg, P⟩ := hL.resolve_left (by intro e; rw [e] at hlt; simp at hlt)
      have p0 := (hb.cell (p := ⟨g, _, none⟩) hg).trans (P j (by omega) 0 _ rfl)
      have p1 := (hb.cell (p := ⟨g, _, none⟩) hg).trans (P j (by omega) 1 _ rfl)
      have r0 := (hb.cell (p := ⟨g, _, none⟩) hg).trans (P (j + 1) hlt 0 _ rfl)
      have r1 := (hb.cell (p := ⟨g, _, none⟩) hg).trans (P (j + 1) hlt 1 _ rfl)
      simp only [Nat.add_zero] at p0 r0
      have t1 : (j : Int) + 1 < (L.length : Int) := by omega
      have t0 : (0 : Int) ≤ (j : Int) := by omega
      have t2 : (j : Int) < (L.length : Int) := by omega
      have t3 : (0 : Int) ≤ (j : Int) + 1 := by omega
      have wj : IntKind.i64.wrap (j : Int) = (j : Int) := wrap64 _ (by omega)
      have hE := hstep.out j hlt
      have hE2 : Hid (R = (decide (L[j].m < L[j + 1].m) && riB ((L.map (·.m)).drop (j + 1)))) := by show _ = _; rw [← hA.out, hE]
      have kf0 := fun W => k81 L[j] W
      have kf1 := fun W => k81 L[j + 1] W
      clear hE hA P hL
      generalize L[j].m = x0 at *
      generalize L[j].s = x1 at *
      generalize L[j + 1].m = y0 at *
      generalize L[j + 1].s = y1 at *
      go_wp2_with fail
      refine wp_region_noPanic ?_
      refine wp_region_held_drew (S := fun w' => Below w.heap.size w w' ∧ w'.cell? ⟨g, o + j * 2, none⟩ = some (.int .i64 x0) ∧ w'.cell? ⟨g, o + j * 2 + 1, none⟩ = some (.int .i64 x1) ∧ w'.cell? ⟨g, o + (j + 1) * 2, none⟩ = some (.int .i64 y0) ∧ w'.cell? ⟨g, o + (j + 1) * 2 + 1, none⟩ = some (.int .i64 y1)) (by kernel_rfl) ?_ (fun hHeld => ?_)
      · (try dsimp only)
        first | exact ⟨hb, p0, p1, r0, r1⟩ | exact ⟨hb.drew, p0, p1, r0, r1⟩
      refine wpAnyH_take (i := 0) (oi := { dst := some 12, op := Op.move (Operand.tmp 1), type := 94, pos := "sound.go:118", after := #[], guard := none }) (v := ?_) rfl (by kernel_rfl) (by kernel_rfl) (by kernel_rfl) (fun _ _ _ h => h) (Or.inl ⟨by rfl, ?_⟩) (by assumption) ?_
      rotate_left
      · intro wz hSz; (try dsimp only at hSz); go_simp; all_goals (with_reducible rfl)
      (try simp only [Act.put, List.setIfInBounds_toArray, List.set_cons_zero, List.set_cons_succ])
      refine wpAnyH_take (i := 1) (oi := { dst := some 13, op := Op.move (Operand.tmp 0), type := 39, pos := "sound.go:118", after := #[], guard := none }) (v := ?_) rfl (by kernel_rfl) (by kernel_rfl) (by kernel_rfl) (fun _ _ _ h => h) (Or.inl ⟨by rfl, ?_⟩) (by assumption) ?_
      rotate_left
      · intro wz hSz; (try dsimp only at hSz); go_simp; all_goals (with_reducible rfl)
      (try simp only [Act.put, List.setIfInBounds_toArray, List.set_cons_zero, List.set_cons_succ])
      refine wpAnyH_take (i := 2) (oi := { dst := some 14, op := Op.move (Operand.tmp 5), type := 3, pos := "sound.go:118", after := #[], guard := none }) (v := ?_) rfl (by kernel_rfl) (by kernel_rfl) (by kernel_rfl) (fun _ _ _ h => h) (Or.inl ⟨by rfl, ?_⟩) (by assumption) ?_
      rotate_left
      · intro wz hSz; (try dsimp only at hSz); go_simp; all_goals (with_reducible rfl)
      (try simp only [Act.put, List.setIfInBounds_toArray, List.set_cons_zero, List.set_cons_succ])
      refine wpAnyH_take (i := 3) (oi := { dst := some 15, op := Op.binOp BinOp.sub 3 (Operand.tmp 14) (Operand.const (Value.int IntKind.i64 1)) 3, type := 3, pos := "sound.go:118", after := #[{ on := 2, ground := Ground.data }], guard := none }) (v := ?_) rfl (by kernel_rfl) (by kernel_rfl) (by kernel_rfl) (fun _ _ _ h => h) (Or.inl ⟨by rfl, ?_⟩) (by assumption) ?_
      rotate_left
      · intro wz hSz; (try dsimp only at hSz); go_simp; all_goals (with_reducible rfl)
      (try simp only [Act.put, List.setIfInBounds_toArray, List.set_cons_zero, List.set_cons_succ])
      refine wpAnyH_take (i := 4) (oi := { dst := some 16, op := Op.indexAddr 39 (Operand.tmp 13) (Operand.tmp 15), type := 0, pos := "sound.go:118", after := #[{ on := 1, ground := Ground.data }, { on := 3, ground := Ground.data }], guard := none }) (v := ?_) rfl (by kernel_rfl) (by kernel_rfl) (by kernel_rfl) (fun _ _ _ h => h) (Or.inl ⟨by rfl, ?_⟩) (by assumption) ?_
      rotate_left
      · intro wz hSz; (try dsimp only at hSz); go_simp; all_goals (with_reducible rfl)
      (try simp only [Act.put, List.setIfInBounds_toArray, List.set_cons_zero, List.set_cons_succ])
      refine wpAnyH_take (i := 5) (oi := { dst := some 17, op := Op.load 43 (Operand.tmp 16), type := 43, pos := "sound.go:118", after := #[{ on := 4, ground := Ground.data }], guard := none }) (v := ?_) rfl (by kernel_rfl) (by kernel_rfl) (by kernel_rfl) (fun _ _ _ h => h) (Or.inl ⟨by rfl, ?_⟩) (by assumption) ?_
      rotate_left
      · intro wz hSz; (try dsimp only at hSz); go_simp; all_goals (with_reducible rfl)
      (try simp only [Act.put, List.setIfInBounds_toArray, List.set_cons_zero, List.set_cons_succ])
      refine wpAnyH_take (i := 7) (oi := { dst := some 19, op := Op.move (Operand.tmp 1), type := 94, pos := "sound.go:118", after := #[], guard := none }) (v := ?_) rfl (by kernel_rfl) (by kernel_rfl) (by kernel_rfl) (fun _ _ _ h => h) (Or.inl ⟨by rfl, ?_⟩) (by assumption) ?_
      rotate_left
      · intro wz hSz; (try dsimp only at hSz); go_simp; all_goals (with_reducible rfl)
      (try simp only [Act.put, List.setIfInBounds_toArray, List.set_cons_zero, List.set_cons_succ])
      refine wpAnyH_take (i := 8) (oi := { dst := some 20, op := Op.move (Operand.tmp 0), type := 39, pos := "sound.go:118", after := #[], guard := none }) (v := ?_) rfl (by kernel_rfl) (by kernel_rfl) (by kernel_rfl) (fun _ _ _ h => h) (Or.inl ⟨by rfl, ?_⟩) (by assumption) ?_
      rotate_left
      · intro wz hSz; (try dsimp only at hSz); go_simp; all_goals (with_reducible rfl)
      (try simp only [Act.put, List.setIfInBounds_toArray, List.set_cons_zero, List.set_cons_succ])
      refine wpAnyH_take (i := 9) (oi := { dst := some 21, op := Op.move (Operand.tmp 5), type := 3, pos := "sound.go:118", after := #[], guard := none }) (v := ?_) rfl (by kernel_rfl) (by kernel_rfl) (by kernel_rfl) (fun _ _ _ h => h) (Or.inl ⟨by rfl, ?_⟩) (by assumption) ?_
      rotate_left
      · intro wz hSz; (try dsimp only at hSz); go_simp; all_goals (with_reducible rfl)
      (try simp only [Act.put, List.setIfInBounds_toArray, List.set_cons_zero, List.set_cons_succ])
      refine wpAnyH_take (i := 10) (oi := { dst := some 22, op := Op.indexAddr 39 (Operand.tmp 20) (Operand.tmp 21), type := 0, pos := "sound.go:118", after := #[{ on := 8, ground := Ground.data }, { on := 9, ground := Ground.data }], guard := none }) (v := ?_) rfl (by kernel_rfl) (by kernel_rfl) (by kernel_rfl) (fun _ _ _ h => h) (Or.inl ⟨by rfl, ?_⟩) (by assumption) ?_
      rotate_left
      · intro wz hSz; (try dsimp only at hSz); go_simp; all_goals (with_reducible rfl)
      (try simp only [Act.put, List.setIfInBounds_toArray, List.set_cons_zero, List.set_cons_succ])
      refine wpAnyH_take (i := 11) (oi := { dst := some 23, op := Op.load 43 (Operand.tmp 22), type := 43, pos := "sound.go:118", after := #[{ on := 10, ground := Ground.data }], guard := none }) (v := ?_) rfl (by kernel_rfl) (by kernel_rfl) (by kernel_rfl) (fun _ _ _ h => h) (Or.inl ⟨by rfl, ?_⟩) (by assumption) ?_
      rotate_left
      · intro wz hSz; (try dsimp only at hSz); go_simp; all_goals (with_reducible rfl)
      (try simp only [Act.put, List.setIfInBounds_toArray, List.set_cons_zero, List.set_cons_succ])
      refine wpAnyH_ready (rs := [6]) (by kernel_rfl) (by simp) ?_
      refine AllReadyH.cons (o := { dst := some 18, op := Op.call { callee := Callee.value (Operand.tmp 12), args := #[Operand.tmp 17], argTypes := #[43] }, type := 3, pos := "sound.go:118", after := #[{ on := 0, ground := Ground.data }, { on := 5, ground := Ground.data }], guard := none }) rfl (fun K hK => ?_) AllReadyH.nil
      go_simp
      go_at_call 72
      (with_reducible refine (kf0 _).mono ?_)
      rintro e w1 ⟨rfl, hb1⟩
      go_wp2_with fail
      refine hK.out _ _ ?_ (fun hHeld => ?_)
      · (try dsimp only)
        obtain ⟨q0, q1, q2, q3, q4⟩ := hHeld; exact ⟨belT q0 hb1, (hb1.cell (p := ⟨g, _, none⟩) (Nat.lt_of_lt_of_le hg q0.size)).trans q1, (hb1.cell (p := ⟨g, _, none⟩) (Nat.lt_of_lt_of_le hg q0.size)).trans q2, (hb1.cell (p := ⟨g, _, none⟩) (Nat.lt_of_lt_of_le hg q0.size)).trans q3, (hb1.cell (p := ⟨g, _, none⟩) (Nat.lt_of_lt_of_le hg q0.size)).trans q4⟩
      clear hK K
      (try simp only [Act.put, List.setIfInBounds_toArray, List.set_cons_zero, List.set_cons_succ])
      refine wpAnyH_ready (rs := [12]) (by kernel_rfl) (by simp) ?_
      refine AllReadyH.cons (o := { dst := some 24, op := Op.call { callee := Callee.value (Operand.tmp 19), args := #[Operand.tmp 23], argTypes := #[43] }, type := 3, pos := "sound.go:118", after := #[{ on := 7, ground := Ground.data }, { on := 11, ground := Ground.data }, { on := 6, ground := Ground.chain }], guard := none }) rfl (fun K hK => ?_) AllReadyH.nil
      go_simp
      go_at_call 72
      (with_reducible refine (kf1 _).mono ?_)
      rintro e w2 ⟨rfl, hb2⟩
      go_wp2_with fail
      refine hK.out _ _ ?_ (fun hHeld => ?_)
      · (try dsimp only)
        obtain ⟨q0, q1, q2, q3, q4⟩ := hHeld; exact ⟨belT q0 hb2, (hb2.cell (p := ⟨g, _, none⟩) (Nat.lt_of_lt_of_le hg q0.size)).trans q1, (hb2.cell (p := ⟨g, _, none⟩) (Nat.lt_of_lt_of_le hg q0.size)).trans q2, (hb2.cell (p := ⟨g, _, none⟩) (Nat.lt_of_lt_of_le hg q0.size)).trans q3, (hb2.cell (p := ⟨g, _, none⟩) (Nat.lt_of_lt_of_le hg q0.size)).trans q4⟩
      clear hK K
      (try simp only [Act.put, List.setIfInBounds_toArray, List.set_cons_zero, List.set_cons_succ])
      refine wpAnyH_take (i := 13) (oi := { dst := some 25, op := Op.binOp BinOp.geq 3 (Operand.tmp 18) (Operand.tmp 24) 3, type := 4, pos := "sound.go:118", after := #[{ on := 6, ground := Ground.data }, { on := 12, ground := Ground.data }], guard := none }) (v := ?_) rfl (by kernel_rfl) (by kernel_rfl) (by kernel_rfl) (fun _ _ _ h => h) (Or.inl ⟨by rfl, ?_⟩) (by assumption) ?_
      rotate_left
      · intro wz hSz; (try dsimp only at hSz); go_simp; all_goals (with_reducible rfl)
      (try simp only [Act.put, List.setIfInBounds_toArray, List.set_cons_zero, List.set_cons_succ])
      refine wpAnyH_done (by kernel_rfl) ?_ _
      refine NoPanic.normal ?_
      by_cases hxy : x0 < y0
      · have hxy' : ¬ y0 ≤ x0 := by omega
        have hE3 : Hid (riB ((L.map (·.m)).drop (j + 1)) = R) := by show _ = _; rw [hE2.out]; simp [hxy]
        go_wp2_with fail
        go_roundg (gk - 1)
        case measure => go_light; omega
        case rel => exact ⟨j + 1, by omega, by go_num, hE3, by first | exact hHeld.1 | exact hHeld.1.drew⟩
      · have hxy' : y0 ≤ x0 := by omega
        have hE3 : Hid (R = false) := by show _ = _; rw [hE2.out]; simp [hxy]
        go_wp2_with fail
        go_ret
        exact ⟨ret_bool hE3.out.symm, by first | exact hHeld.1 | exact hHeld.1.drew⟩
    · have t1 : ¬ (j : Int) + 1 < (L.length : Int) := by omega
      have hE3 : Hid (R = true) := by show _ = _; rw [← hA.out, hend.out j (by omega)]
      clear hL
      go_wp2
      go_ret
      exact ⟨ret_bool hE3.out.symm, hb⟩
set_option maxRecDepth 100000 in
set_option maxHeartbeats 4000000 in
theorem k83 (x : Sh) (w : World) : Calls Tryz.prog 74 #[.agg #[.int .i64 x.m, .int .i64 x.plus]] w fun e w' => e = .returned (.int .i64 x.m) ∧ Below w.heap.size w w' := by
  obtain ⟨m, p⟩ := x
  dsimp only at *
  go_enter Tryz.func74, Tryz.ntmps74
  go_wp2
  go_ret
  exact ⟨rfl, bel1⟩
set_option maxRecDepth 100000 in
set_option maxHeartbeats 4000000 in
theorem riseH (L : List Sh) (a : Option Addr) (c : Nat) (w : World) (hL : L = [] ∨ ∃ g o, a = some ⟨g, o, none⟩ ∧ g < w.heap.size ∧ ∀ (i : Nat) (h : i < L.length) (j : Nat) (u : Value), (Sh.cs L[i])[j]? = some u → w.cell? ⟨g, o + i * 2 + j, none⟩ = some u) (hl : L.length ≤ 8796093021952) :
    Calls Tryz.prog 73 #[.slice a L.length c, .func (.func 74) #[] #[]] w fun e w' => e = .returned (.bool (riB (L.map (·.m)))) ∧ Below w.heap.size w w' := by
  have hstep : Hid (∀ j, ∀ h : j + 1 < L.length, riB ((L.map (·.m)).drop j) = (decide (L[j].m < L[j + 1].m) && riB ((L.map (·.m)).drop (j + 1)))) := by
    intro j h; rw [ri_step _ j (by simpa using h)]; simp
  have hend : Hid (∀ j, L.length ≤ j + 1 → riB ((L.map (·.m)).drop j) = true) := fun j h => ri_end _ j (by simpa using h)
  have hzero : Hid (riB ((L.map (·.m)).drop 0) = riB (L.map (·.m))) := rfl
  generalize riB (L.map (·.m)) = R at *
  go_enter Tryz.func73, Tryz.ntmps73
  go_wp2
  go_loopg [5] (L.length - 1) (fun gk s5 wr => ∃ j : Nat, j + gk = L.length - 1 ∧ s5 = .int .i64 ((j : Int) + 1) ∧ Hid (riB ((L.map (·.m)).drop j) = R) ∧ Below w.heap.size w wr)
  case atStart => exact ⟨0, by omega, rfl, hzero, Below.refl _ _⟩
  case round =>
    obtain ⟨j, hj, rfl, hA, hb⟩ := hrel
    by_cases hlt : j + 1 < L.length
    · obtain ⟨g, o, rfl, hg, P⟩ := hL.resolve_left (by intro e; rw [e] at hlt; simp at hlt)
      have p0 := (hb.cell (p := ⟨g, _, none⟩) hg).trans (P j (by omega) 0 _ rfl)
      have p1 := (hb.cell (p := ⟨g, _, none⟩) hg).trans (P j (by omega) 1 _ rfl)
      have r0 := (hb.cell (p := ⟨g, _, none⟩) hg).trans (P (j + 1) hlt 0 _ rfl)
      have r1 := (hb.cell (p := ⟨g, _, none⟩) hg).trans (P (j + 1) hlt 1 _ rfl)
      simp only [Nat.add_zero] at p0 r0
      have t1 : (j : Int) + 1 < (L.length : Int) := by omega
      have t0 : (0 : Int) ≤ (j : Int) := by omega
      have t2 : (j : Int) < (L.length : Int) := by omega
      have t3 : (0 : Int) ≤ (j : Int) + 1 := by omega
      have wj : IntKind.i64.wrap (j : Int) = (j : Int) := wrap64 _ (by omega)
      have hE := hstep.out j hlt
      have hE2 : Hid (R = (decide (L[j].m < L[j + 1].m) && riB ((L.map (·.m)).drop (j + 1)))) := by show _ = _; rw [← hA.out, hE]
      have kf0 := fun W => k83 L[j] W
      have kf1 := fun W => k83 L[j + 1] W
      clear hE hA P hL
      generalize L[j].m = x0 at *
      generalize L[j].plus = x1 at *
      generalize L[j + 1].m = y0 at *
      generalize L[j + 1].plus = y1 at *
      go_wp2_with fail
      refine wp_region_noPanic ?_
      refine wp_region_held_drew (S := fun w' => Below w.heap.size w w' ∧ w'.cell? ⟨g, o + j * 2, none⟩ = some (.int .i64 x0) ∧ w'.cell? ⟨g, o + j * 2 + 1, none⟩ = some (.int .i64 x1) ∧ w'.cell? ⟨g, o + (j + 1) * 2, none⟩ = some (.int .i64 y0) ∧ w'.cell? ⟨g, o + (j + 1) * 2 + 1, none⟩ = some (.int .i64 y1)) (by kernel_rfl) ?_ (fun hHeld => ?_)
      · (try dsimp only)
        first | exact ⟨hb, p0, p1, r0, r1⟩ | exact ⟨hb.drew, p0, p1, r0, r1⟩
      refine wpAnyH_take (i := 0) (oi := { dst := some 12, op := Op.move (Operand.tmp 1), type := 96, pos := "sound.go:118", after := #[], guard := none }) (v := ?_) rfl (by kernel_rfl) (by kernel_rfl) (by kernel_rfl) (fun _ _ _ h => h) (Or.inl ⟨by rfl, ?_⟩) (by assumption) ?_
      rotate_left
      · intro wz hSz; (try dsimp only at hSz); go_simp; all_goals (with_reducible rfl)
      (try simp only [Act.put, List.setIfInBounds_toArray, List.set_cons_zero, List.set_cons_succ])
      refine wpAnyH_take (i := 1) (oi := { dst := some 13, op := Op.move (Operand.tmp 0), type := 26, pos := "sound.go:118", after := #[], guard := none }) (v := ?_) rfl (by kernel_rfl) (by kernel_rfl) (by kernel_rfl) (fun _ _ _ h => h) (Or.inl ⟨by rfl, ?_⟩) (by assumption) ?_
      rotate_left
      · intro wz hSz; (try dsimp only at hSz); go_simp; all_goals (with_reducible rfl)
      (try simp only [Act.put, List.setIfInBounds_toArray, List.set_cons_zero, List.set_cons_succ])
      refine wpAnyH_take (i := 2) (oi := { dst := some 14, op := Op.move (Operand.tmp 5), type := 3, pos := "sound.go:118", after := #[], guard := none }) (v := ?_) rfl (by kernel_rfl) (by kernel_rfl) (by kernel_rfl) (fun _ _ _ h => h) (Or.inl ⟨by rfl, ?_⟩) (by assumption) ?_
      rotate_left
      · intro wz hSz; (try dsimp only at hSz); go_simp; all_goals (with_reducible rfl)
      (try simp only [Act.put, List.setIfInBounds_toArray, List.set_cons_zero, List.set_cons_succ])
      refine wpAnyH_take (i := 3) (oi := { dst := some 15, op := Op.binOp BinOp.sub 3 (Operand.tmp 14) (Operand.const (Value.int IntKind.i64 1)) 3, type := 3, pos := "sound.go:118", after := #[{ on := 2, ground := Ground.data }], guard := none }) (v := ?_) rfl (by kernel_rfl) (by kernel_rfl) (by kernel_rfl) (fun _ _ _ h => h) (Or.inl ⟨by rfl, ?_⟩) (by assumption) ?_
      rotate_left
      · intro wz hSz; (try dsimp only at hSz); go_simp; all_goals (with_reducible rfl)
      (try simp only [Act.put, List.setIfInBounds_toArray, List.set_cons_zero, List.set_cons_succ])
      refine wpAnyH_take (i := 4) (oi := { dst := some 16, op := Op.indexAddr 26 (Operand.tmp 13) (Operand.tmp 15), type := 0, pos := "sound.go:118", after := #[{ on := 1, ground := Ground.data }, { on := 3, ground := Ground.data }], guard := none }) (v := ?_) rfl (by kernel_rfl) (by kernel_rfl) (by kernel_rfl) (fun _ _ _ h => h) (Or.inl ⟨by rfl, ?_⟩) (by assumption) ?_
      rotate_left
      · intro wz hSz; (try dsimp only at hSz); go_simp; all_goals (with_reducible rfl)
      (try simp only [Act.put, List.setIfInBounds_toArray, List.set_cons_zero, List.set_cons_succ])
      refine wpAnyH_take (i := 5) (oi := { dst := some 17, op := Op.load 49 (Operand.tmp 16), type := 49, pos := "sound.go:118", after := #[{ on := 4, ground := Ground.data }], guard := none }) (v := ?_) rfl (by kernel_rfl) (by kernel_rfl) (by kernel_rfl) (fun _ _ _ h => h) (Or.inl ⟨by rfl, ?_⟩) (by assumption) ?_
      rotate_left
      · intro wz hSz; (try dsimp only at hSz); go_simp; all_goals (with_reducible rfl)
      (try simp only [Act.put, List.setIfInBounds_toArray, List.set_cons_zero, List.set_cons_succ])
      refine wpAnyH_take (i := 7) (oi := { dst := some 19, op := Op.move (Operand.tmp 1), type := 96, pos := "sound.go:118", after := #[], guard := none }) (v := ?_) rfl (by kernel_rfl) (by kernel_rfl) (by kernel_rfl) (fun _ _ _ h => h) (Or.inl ⟨by rfl, ?_⟩) (by assumption) ?_
      rotate_left
      · intro wz hSz; (try dsimp only at hSz); go_simp; all_goals (with_reducible rfl)
      (try simp only [Act.put, List.setIfInBounds_toArray, List.set_cons_zero, List.set_cons_succ])
      refine wpAnyH_take (i := 8) (oi := { dst := some 20, op := Op.move (Operand.tmp 0), type := 26, pos := "sound.go:118", after := #[], guard := none }) (v := ?_) rfl (by kernel_rfl) (by kernel_rfl) (by kernel_rfl) (fun _ _ _ h => h) (Or.inl ⟨by rfl, ?_⟩) (by assumption) ?_
      rotate_left
      · intro wz hSz; (try dsimp only at hSz); go_simp; all_goals (with_reducible rfl)
      (try simp only [Act.put, List.setIfInBounds_toArray, List.set_cons_zero, List.set_cons_succ])
      refine wpAnyH_take (i := 9) (oi := { dst := some 21, op := Op.move (Operand.tmp 5), type := 3, pos := "sound.go:118", after := #[], guard := none }) (v := ?_) rfl (by kernel_rfl) (by kernel_rfl) (by kernel_rfl) (fun _ _ _ h => h) (Or.inl ⟨by rfl, ?_⟩) (by assumption) ?_
      rotate_left
      · intro wz hSz; (try dsimp only at hSz); go_simp; all_goals (with_reducible rfl)
      (try simp only [Act.put, List.setIfInBounds_toArray, List.set_cons_zero, List.set_cons_succ])
      refine wpAnyH_take (i := 10) (oi := { dst := some 22, op := Op.indexAddr 26 (Operand.tmp 20) (Operand.tmp 21), type := 0, pos := "sound.go:118", after := #[{ on := 8, ground := Ground.data }, { on := 9, ground := Ground.data }], guard := none }) (v := ?_) rfl (by kernel_rfl) (by kernel_rfl) (by kernel_rfl) (fun _ _ _ h => h) (Or.inl ⟨by rfl, ?_⟩) (by assumption) ?_
      rotate_left
      · intro wz hSz; (try dsimp only at hSz); go_simp; all_goals (with_reducible rfl)
      (try simp only [Act.put, List.setIfInBounds_toArray, List.set_cons_zero, List.set_cons_succ])
      refine wpAnyH_take (i := 11) (oi := { dst := some 23, op := Op.load 49 (Operand.tmp 22), type := 49, pos := "sound.go:118", after := #[{ on := 10, ground := Ground.data }], guard := none }) (v := ?_) rfl (by kernel_rfl) (by kernel_rfl) (by kernel_rfl) (fun _ _ _ h => h) (Or.inl ⟨by rfl, ?_⟩) (by assumption) ?_
      rotate_left
      · intro wz hSz; (try dsimp only at hSz); go_simp; all_goals (with_reducible rfl)
      (try simp only [Act.put, List.setIfInBounds_toArray, List.set_cons_zero, List.set_cons_succ])
      refine wpAnyH_ready (rs := [6]) (by kernel_rfl) (by simp) ?_
      refine AllReadyH.cons (o := { dst := some 18, op := Op.call { callee := Callee.value (Operand.tmp 12), args := #[Operand.tmp 17], argTypes := #[49] }, type := 3, pos := "sound.go:118", after := #[{ on := 0, ground := Ground.data }, { on := 5, ground := Ground.data }], guard := none }) rfl (fun K hK => ?_) AllReadyH.nil
      go_simp
      go_at_call 74
      (with_reducible refine (kf0 _).mono ?_)
      rintro e w1 ⟨rfl, hb1⟩
      go_wp2_with fail
      refine hK.out _ _ ?_ (fun hHeld => ?_)
      · (try dsimp only)
        obtain ⟨q0, q1, q2, q3, q4⟩ := hHeld; exact ⟨belT q0 hb1, (hb1.cell (p := ⟨g, _, none⟩) (Nat.lt_of_lt_of_le hg q0.size)).trans q1, (hb1.cell (p := ⟨g, _, none⟩) (Nat.lt_of_lt_of_le hg q0.size)).trans q2, (hb1.cell (p := ⟨g, _, none⟩) (Nat.lt_of_lt_of_le hg q0.size)).trans q3, (hb1.cell (p := ⟨g, _, none⟩) (Nat.lt_of_lt_of_le hg q0.size)).trans q4⟩
      clear hK K
      (try simp only [Act.put, List.setIfInBounds_toArray, List.set_cons_zero, List.set_cons_succ])
      refine wpAnyH_ready (rs := [12]) (by kernel_rfl) (by simp) ?_
      refine AllReadyH.cons (o := { dst := some 24, op := Op.call { callee := Callee.value (Operand.tmp 19), args := #[Operand.tmp 23], argTypes := #[49] }, type := 3, pos := "sound.go:118", after := #[{ on := 7, ground := Ground.data }, { on := 11, ground := Ground.data }, { on := 6, ground := Ground.chain }], guard := none }) rfl (fun K hK => ?_) AllReadyH.nil
      go_simp
      go_at_call 74
      (with_reducible refine (kf1 _).mono ?_)
      rintro e w2 ⟨rfl, hb2⟩
      go_wp2_with fail
      refine hK.out _ _ ?_ (fun hHeld => ?_)
      · (try dsimp only)
        obtain ⟨q0, q1, q2, q3, q4⟩ := hHeld; exact ⟨belT q0 hb2, (hb2.cell (p := ⟨g, _, none⟩) (Nat.lt_of_lt_of_le hg q0.size)).trans q1, (hb2.cell (p := ⟨g, _, none⟩) (Nat.lt_of_lt_of_le hg q0.size)).trans q2, (hb2.cell (p := ⟨g, _, none⟩) (Nat.lt_of_lt_of_le hg q0.size)).trans q3, (hb2.cell (p := ⟨g, _, none⟩) (Nat.lt_of_lt_of_le hg q0.size)).trans q4⟩
      clear hK K
      (try simp only [Act.put, List.setIfInBounds_toArray, List.set_cons_zero, List.set_cons_succ])
      refine wpAnyH_take (i := 13) (oi := { dst := some 25, op := Op.binOp BinOp.geq 3 (Operand.tmp 18) (Operand.tmp 24) 3, type := 4, pos := "sound.go:118", after := #[{ on := 6, ground := Ground.data }, { on := 12, ground := Ground.data }], guard := none }) (v := ?_) rfl (by kernel_rfl) (by kernel_rfl) (by kernel_rfl) (fun _ _ _ h => h) (Or.inl ⟨by rfl, ?_⟩) (by assumption) ?_
      rotate_left
      · intro wz hSz; (try dsimp only at hSz); go_simp; all_goals (with_reducible rfl)
      (try simp only [Act.put, List.setIfInBounds_toArray, List.set_cons_zero, List.set_cons_succ])
      refine wpAnyH_done (by kernel_rfl) ?_ _
      refine NoPanic.normal ?_
      by_cases hxy : x0 < y0
      · have hxy' : ¬ y0 ≤ x0 := by omega
        have hE3 : Hid (riB ((L.map (·.m)).drop (j + 1)) = R) := by show _ = _; rw [hE2.out]; simp [hxy]
        go_wp2_with fail
        go_roundg (gk - 1)
        case measure => go_light; omega
        case rel => exact ⟨j + 1, by omega, by go_num, hE3, by first | exact hHeld.1 | exact hHeld.1.drew⟩
      · have hxy' : y0 ≤ x0 := by omega
        have hE3 : Hid (R = false) := by show _ = _; rw [hE2.out]; simp [hxy]
        go_wp2_with fail
        go_ret
        exact ⟨ret_bool hE3.out.symm, by first | exact hHeld.1 | exact hHeld.1.drew⟩
    · have t1 : ¬ (j : Int) + 1 < (L.length : Int) := by omega
      have hE3 : Hid (R = true) := by show _ = _; rw [← hA.out, hend.out j (by omega)]
      clear hL
      go_wp2
      go_ret
      exact ⟨ret_bool hE3.out.symm, hb⟩
end Go.Proofs.YtkeoebllblbkgaaGreatDoor
