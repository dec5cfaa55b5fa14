import Derived.Test.YtddphepgcihdbaaTbB
import Derived.Test.YtddphepgcihdbaaInR
namespace Go.Proofs.Ytddphepgcihdbaa
open Go.RowKit
set_option linter.unusedVariables false
set_option linter.unusedSimpArgs false

theorem wrap64 (z : Int) (h : -9223372036854775808 ≤ z ∧ z ≤ 9223372036854775807) : IntKind.i64.wrap z = z := by
  simp [IntKind.wrap, IntKind.bits, IntKind.signed]
  omega
theorem ri_step (L : List Int) (j : Nat) (h : j + 1 < L.length) : riB (L.drop j) = (decide (L[j] < L[j + 1]) && riB (L.drop (j + 1))) := by
  rw [List.drop_eq_getElem_cons (show j < L.length by omega), List.drop_eq_getElem_cons h]; rfl
theorem ri_end (L : List Int) (j : Nat) (h : L.length ≤ j + 1) : riB (L.drop j) = true := by
  rcases Nat.lt_or_ge j L.length with h1 | h1
  · rw [List.drop_eq_getElem_cons h1, List.drop_eq_nil_of_le (by omega)]; rfl
  · rw [List.drop_eq_nil_of_le h1]; rfl
set_option maxRecDepth 100000 in
set_option maxHeartbeats 4000000 in
theorem k81 (x : Rw) (w : World) : Calls Try.prog 73 #[.agg #[.int .i64 x.m, .int .i64 x.s]] w fun e w' => e = .returned (.int .i64 x.m) ∧ Below w.heap.size w w' := by
  obtain ⟨m, p⟩ := x
  dsimp only at *
  go_enter Try.func73, Try.ntmps73
  go_wp2
  go_ret
  exact ⟨rfl, bel1⟩
set_option maxRecDepth 100000 in
set_option maxHeartbeats 4000000 in
theorem riseR (L : List Rw) (a : Option Addr) (c : Nat) (w : World) (hL : L = [] ∨ ∃ g o, a = some ⟨g, o, none⟩ ∧ g < w.heap.size ∧ ∀ (i : Nat) (h : i < L.length) (j : Nat) (u : Value), (Rw.cs L[i])[j]? = some u → w.cell? ⟨g, o + i * 2 + j, none⟩ = some u) (hl : L.length ≤ 8796093021952) :
    Calls Try.prog 72 #[.slice a L.length c, .func (.func 73) #[] #[]] w fun e w' => e = .returned (.bool (riB (L.map (·.m)))) ∧ Below w.heap.size w w' := by
  have hstep : Hid (∀ j, ∀ h : j + 1 < L.length, riB ((L.map (·.m)).drop j) = (decide (L[j].m < L[j + 1].m) && riB ((L.map (·.m)).drop (j + 1)))) := by
    intro j h; rw [ri_step _ j (by simpa using h)]; simp
  have hend : Hid (∀ j, L.length ≤ j + 1 → riB ((L.map (·.m)).drop j) = true) := fun j h => ri_end _ j (by simpa using h)
  have hzero : Hid (riB ((L.map (·.m)).drop 0) = riB (L.map (·.m))) := rfl
  generalize riB (L.map (·.m)) = R at *
  go_enter Try.func72, Try.ntmps72
  go_wp2
  go_loopg [5] (L.length - 1) (fun gk s5 wr => ∃ j : Nat, j + gk = L.length - 1 ∧ s5 = .int .i64 ((j : Int) + 1) ∧ Hid (riB ((L.map (·.m)).drop j) = R) ∧ Below w.heap.size w wr)
  case atStart => exact ⟨0, by omega, rfl, hzero, Below.refl _ _⟩
  case round =>
    obtain ⟨j, hj, rfl, hA, hb⟩ := hrel
    by_cases hlt : j + 1 < L.length
    · obtain ⟨g, o, rfl, hg, P⟩ := hL.resolve_left (by intro e; rw [e] at hlt; simp at hlt)
      have p0 := (hb.cell (p := ⟨g, _, none⟩) hg).trans (P j (by omega) 0 _ rfl)
      have p1 := (hb.cell (p := ⟨g, _, none⟩) hg).trans (P j (by omega) 1 _ rfl)
      have r0 := (hb.cell (p := ⟨g, _, none⟩) hg).trans (P (j + 1) hlt 0 _ rfl)
      have r1 := (hb.cell (p := ⟨g, _, none⟩) hg).trans (P (j + 1) hlt 1 _ rfl)
      simp only [Nat.add_zero] at p0 r0
      have t1 : (j : Int) + 1 < (L.length : Int) := by omega
      have t0 : (0 : Int) ≤ (j : Int) := by omega
      have t2 : (j : Int) < (L.length : Int) := by omega
      have t3 : (0 : Int) ≤ (j : Int) + 1 := by omega
      have wj : IntKind.i64.wrap (j : Int) = (j : Int) := wrap64 _ (by omega)
      have hE := hstep.out j hlt
      have hE2 : Hid (R = (decide (L[j].m < L[j + 1].m) && riB ((L.map (·.m)).drop (j + 1)))) := by show _ = _; rw [← hA.out, hE]
      have kf0 := fun W => k81 L[j] W
      have kf1 := fun W => k81 L[j + 1] W
      clear hE hA P hL
      generalize L[j].m = x0 at *
      generalize L[j].s = x1 at *
      generalize L[j + 1].m = y0 at *
      generalize L[j + 1].s = y1 at *
      go_wp2_with fail
      refine wp_region_noPanic ?_
      refine wp_region_held_drew (S := fun w' => Below w.heap.size w w' ∧ w'.cell? ⟨g, o + j * 2, none⟩ = some (.int .i64 x0) ∧ w'.cell? ⟨g, o + j * 2 + 1, none⟩ = some (.int .i64 x1) ∧ w'.cell? ⟨g, o + (j + 1) * 2, none⟩ = some (.int .i64 y0) ∧ w'.cell? ⟨g, o + (j + 1) * 2 + 1, none⟩ = some (.int .i64 y1)) (by kernel_rfl) ?_ (fun hHeld => ?_)
      · (try dsimp only)
        first | exact ⟨hb, p0, p1, r0, r1⟩ | exact ⟨hb.drew, p0, p1, r0, r1⟩
      refine wpAnyH_take (i := 0) (oi := { dst := some 12, op := Op.move (Operand.tmp 1), type := 111, pos := "sound.go:118", after := #[], guard := none }) (v := ?_) rfl (by kernel_rfl) (by kernel_rfl) (by kernel_rfl) (fun _ _ _ h => h) (Or.inl ⟨by rfl, ?_⟩) (by assumption) ?_
      rotate_left
      · intro wz hSz; (try dsimp only at hSz); go_simp; all_goals (with_reducible rfl)
      (try simp only [Act.put, List.setIfInBounds_toArray, List.set_cons_zero, List.set_cons_succ])
      refine wpAnyH_take (i := 1) (oi := { dst := some 13, op := Op.move (Operand.tmp 0), type := 70, pos := "sound.go:118", after := #[], guard := none }) (v := ?_) rfl (by kernel_rfl) (by kernel_rfl) (by kernel_rfl) (fun _ _ _ h => h) (Or.inl ⟨by rfl, ?_⟩) (by assumption) ?_
      rotate_left
      · intro wz hSz; (try dsimp only at hSz); go_simp; all_goals (with_reducible rfl)
      (try simp only [Act.put, List.setIfInBounds_toArray, List.set_cons_zero, List.set_cons_succ])
      refine wpAnyH_take (i := 2) (oi := { dst := some 14, op := Op.move (Operand.tmp 5), type := 3, pos := "sound.go:118", after := #[], guard := none }) (v := ?_) rfl (by kernel_rfl) (by kernel_rfl) (by kernel_rfl) (fun _ _ _ h => h) (Or.inl ⟨by rfl, ?_⟩) (by assumption) ?_
      rotate_left
      · intro wz hSz; (try dsimp only at hSz); go_simp; all_goals (with_reducible rfl)
      (try simp only [Act.put, List.setIfInBounds_toArray, List.set_cons_zero, List.set_cons_succ])
      refine wpAnyH_take (i := 3) (oi := { dst := some 15, op := Op.binOp BinOp.sub 3 (Operand.tmp 14) (Operand.const (Value.int IntKind.i64 1)) 3, type := 3, pos := "sound.go:118", after := #[{ on := 2, ground := Ground.data }], guard := none }) (v := ?_) rfl (by kernel_rfl) (by kernel_rfl) (by kernel_rfl) (fun _ _ _ h => h) (Or.inl ⟨by rfl, ?_⟩) (by assumption) ?_
      rotate_left
      · intro wz hSz; (try dsimp only at hSz); go_simp; all_goals (with_reducible rfl)
      (try simp only [Act.put, List.setIfInBounds_toArray, List.set_cons_zero, List.set_cons_succ])
      refine wpAnyH_take (i := 4) (oi := { dst := some 16, op := Op.indexAddr 70 (Operand.tmp 13) (Operand.tmp 15), type := 0, pos := "sound.go:118", after := #[{ on := 1, ground := Ground.data }, { on := 3, ground := Ground.data }], guard := none }) (v := ?_) rfl (by kernel_rfl) (by kernel_rfl) (by kernel_rfl) (fun _ _ _ h => h) (Or.inl ⟨by rfl, ?_⟩) (by assumption) ?_
      rotate_left
      · intro wz hSz; (try dsimp only at hSz); go_simp; all_goals (with_reducible rfl)
      (try simp only [Act.put, List.setIfInBounds_toArray, List.set_cons_zero, List.set_cons_succ])
      refine wpAnyH_take (i := 5) (oi := { dst := some 17, op := Op.load 74 (Operand.tmp 16), type := 74, pos := "sound.go:118", after := #[{ on := 4, ground := Ground.data }], guard := none }) (v := ?_) rfl (by kernel_rfl) (by kernel_rfl) (by kernel_rfl) (fun _ _ _ h => h) (Or.inl ⟨by rfl, ?_⟩) (by assumption) ?_
      rotate_left
      · intro wz hSz; (try dsimp only at hSz); go_simp; all_goals (with_reducible rfl)
      (try simp only [Act.put, List.setIfInBounds_toArray, List.set_cons_zero, List.set_cons_succ])
      refine wpAnyH_take (i := 7) (oi := { dst := some 19, op := Op.move (Operand.tmp 1), type := 111, pos := "sound.go:118", after := #[], guard := none }) (v := ?_) rfl (by kernel_rfl) (by kernel_rfl) (by kernel_rfl) (fun _ _ _ h => h) (Or.inl ⟨by rfl, ?_⟩) (by assumption) ?_
      rotate_left
      · intro wz hSz; (try dsimp only at hSz); go_simp; all_goals (with_reducible rfl)
      (try simp only [Act.put, List.setIfInBounds_toArray, List.set_cons_zero, List.set_cons_succ])
      refine wpAnyH_take (i := 8) (oi := { dst := some 20, op := Op.move (Operand.tmp 0), type := 70, pos := "sound.go:118", after := #[], guard := none }) (v := ?_) rfl (by kernel_rfl) (by kernel_rfl) (by kernel_rfl) (fun _ _ _ h => h) (Or.inl ⟨by rfl, ?_⟩) (by assumption) ?_
      rotate_left
      · intro wz hSz; (try dsimp only at hSz); go_simp; all_goals (with_reducible rfl)
      (try simp only [Act.put, List.setIfInBounds_toArray, List.set_cons_zero, List.set_cons_succ])
      refine wpAnyH_take (i := 9) (oi := { dst := some 21, op := Op.move (Operand.tmp 5), type := 3, pos := "sound.go:118", after := #[], guard := none }) (v := ?_) rfl (by kernel_rfl) (by kernel_rfl) (by kernel_rfl) (fun _ _ _ h => h) (Or.inl ⟨by rfl, ?_⟩) (by assumption) ?_
      rotate_left
      · intro wz hSz; (try dsimp only at hSz); go_simp; all_goals (with_reducible rfl)
      (try simp only [Act.put, List.setIfInBounds_toArray, List.set_cons_zero, List.set_cons_succ])
      refine wpAnyH_take (i := 10) (oi := { dst := some 22, op := Op.indexAddr 70 (Operand.tmp 20) (Operand.tmp 21), type := 0, pos := "sound.go:118", after := #[{ on := 8, ground := Ground.data }, { on := 9, ground := Ground.data }], guard := none }) (v := ?_) rfl (by kernel_rfl) (by kernel_rfl) (by kernel_rfl) (fun _ _ _ h => h) (Or.inl ⟨by rfl, ?_⟩) (by assumption) ?_
      rotate_left
      · intro wz hSz; (try dsimp only at hSz); go_simp; all_goals (with_reducible rfl)
      (try simp only [Act.put, List.setIfInBounds_toArray, List.set_cons_zero, List.set_cons_succ])
      refine wpAnyH_take (i := 11) (oi := { dst := some 23, op := Op.load 74 (Operand.tmp 22), type := 74, pos := "sound.go:118", after := #[{ on := 10, ground := Ground.data }], guard := none }) (v := ?_) rfl (by kernel_rfl) (by kernel_rfl) (by kernel_rfl) (fun _ _ _ h => h) (Or.inl ⟨by rfl, ?_⟩) (by assumption) ?_
      rotate_left
      · intro wz hSz; (try dsimp only at hSz); go_simp; all_goals (with_reducible rfl)
      (try simp only [Act.put, List.setIfInBounds_toArray, List.set_cons_zero, List.set_cons_succ])
      refine wpAnyH_ready (rs := [6]) (by kernel_rfl) (by simp) ?_
      refine AllReadyH.cons (o := { dst := some 18, op := Op.call { callee := Callee.value (Operand.tmp 12), args := #[Operand.tmp 17], argTypes := #[74] }, type := 3, pos := "sound.go:118", after := #[{ on := 0, ground := Ground.data }, { on := 5, ground := Ground.data }], guard := none }) rfl (fun K hK => ?_) AllReadyH.nil
      go_simp
      go_at_call 73
      (with_reducible refine (kf0 _).mono ?_)
      rintro e w1 ⟨rfl, hb1⟩
      go_wp2_with fail
      refine hK.out _ _ ?_ (fun hHeld => ?_)
      · (try dsimp only)
        obtain ⟨q0, q1, q2, q3, q4⟩ := hHeld; exact ⟨belT q0 hb1, (hb1.cell (p := ⟨g, _, none⟩) (Nat.lt_of_lt_of_le hg q0.size)).trans q1, (hb1.cell (p := ⟨g, _, none⟩) (Nat.lt_of_lt_of_le hg q0.size)).trans q2, (hb1.cell (p := ⟨g, _, none⟩) (Nat.lt_of_lt_of_le hg q0.size)).trans q3, (hb1.cell (p := ⟨g, _, none⟩) (Nat.lt_of_lt_of_le hg q0.size)).trans q4⟩
      clear hK K
      (try simp only [Act.put, List.setIfInBounds_toArray, List.set_cons_zero, List.set_cons_succ])
      refine wpAnyH_ready (rs := [12]) (by kernel_rfl) (by simp) ?_
      refine AllReadyH.cons (o := { dst := some 24, op := Op.call { callee := Callee.value (Operand.tmp 19), args := #[Operand.tmp 23], argTypes := #[74] }, type := 3, pos := "sound.go:118", after := #[{ on := 7, ground := Ground.data }, { on := 11, ground := Ground.data }, { on := 6, ground := Ground.chain }], guard := none }) rfl (fun K hK => ?_) AllReadyH.nil
      go_simp
      go_at_call 73
      (with_reducible refine (kf1 _).mono ?_)
      rintro e w2 ⟨rfl, hb2⟩
      go_wp2_with fail
      refine hK.out _ _ ?_ (fun hHeld => ?_)
      · (try dsimp only)
        obtain ⟨q0, q1, q2, q3, q4⟩ := hHeld; exact ⟨belT q0 hb2, (hb2.cell (p := ⟨g, _, none⟩) (Nat.lt_of_lt_of_le hg q0.size)).trans q1, (hb2.cell (p := ⟨g, _, none⟩) (Nat.lt_of_lt_of_le hg q0.size)).trans q2, (hb2.cell (p := ⟨g, _, none⟩) (Nat.lt_of_lt_of_le hg q0.size)).trans q3, (hb2.cell (p := ⟨g, _, none⟩) (Nat.lt_of_lt_of_le hg q0.size)).trans q4⟩
      clear hK K
      (try simp only [Act.put, List.setIfInBounds_toArray, List.set_cons_zero, List.set_cons_succ])
      refine wpAnyH_take (i := 13) (oi := { dst := some 25, op := Op.binOp BinOp.geq 3 (Operand.tmp 18) (Operand.tmp 24) 3, type := 4, pos := "sound.go:118", after := #[{ on := 6, ground := Ground.data }, { on := 12, ground := Ground.data }], guard := none }) (v := ?_) rfl (by kernel_rfl) (by kernel_rfl) (by kernel_rfl) (fun _ _ _ h => h) (Or.inl ⟨by rfl, ?_⟩) (by assumption) ?_
      rotate_left
      · intro wz hSz; (try dsimp only at hSz); go_simp; all_goals (with_reducible rfl)
      (try simp only [Act.put, List.setIfInBounds_toArray, List.set_cons_zero, List.set_cons_succ])
      refine wpAnyH_done (by kernel_rfl) ?_ _
      refine NoPanic.normal ?_
      by_cases hxy : x0 < y0
      · have hxy' : ¬ y0 ≤ x0 := by omega
        have hE3 : Hid (riB ((L.map (·.m)).drop (j + 1)) = R) := by show _ = _; rw [hE2.out]; simp [hxy]
        go_wp2_with fail
        go_roundg (gk - 1)
        case measure => go_light; omega
        case rel => exact ⟨j + 1, by omega, by go_num, hE3, by first | exact hHeld.1 | exact hHeld.1.drew⟩
      · have hxy' : y0 ≤ x0 := by omega
        have hE3 : Hid (R = false) := by show _ = _; rw [hE2.out]; simp [hxy]
        go_wp2_with fail
        go_ret
        exact ⟨ret_bool hE3.out.symm, by first | exact hHeld.1 | exact hHeld.1.drew⟩
    · have t1 : ¬ (j : Int) + 1 < (L.length : Int) := by omega
      have hE3 : Hid (R = true) := by show _ = _; rw [← hA.out, hend.out j (by omega)]
      clear hL
      go_wp2
      go_ret
      exact ⟨ret_bool hE3.out.symm, hb⟩
set_option maxRecDepth 100000 in
set_option maxHeartbeats 4000000 in
theorem k83 (x : Sh) (w : World) : Calls Try.prog 75 #[.agg #[.int .i64 x.m, .int .i64 x.plus]] w fun e w' => e = .returned (.int .i64 x.m) ∧ Below w.heap.size w w' := by
  obtain ⟨m, p⟩ := x
  dsimp only at *
  go_enter Try.func75, Try.ntmps75
  go_wp2
  go_ret
  exact ⟨rfl, bel1⟩
set_option maxRecDepth 100000 in
set_option maxHeartbeats 4000000 in
theorem riseH (L : List Sh) (a : Option Addr) (c : Nat) (w : World) (hL : L = [] ∨ ∃ g o, a = some ⟨g, o, none⟩ ∧ g < w.heap.size ∧ ∀ (i : Nat) (h : i < L.length) (j : Nat) (u : Value), (Sh.cs L[i])[j]? = some u → w.cell? ⟨g, o + i * 2 + j, none⟩ = some u) (hl : L.length ≤ 8796093021952) :
    Calls Try.prog 74 #[.slice a L.length c, .func (.func 75) #[] #[]] w fun e w' => e = .returned (.bool (riB (L.map (·.m)))) ∧ Below w.heap.size w w' := by
  have hstep : Hid (∀ j, ∀ h : j + 1 < L.length, riB ((L.map (·.m)).drop j) = (decide (L[j].m < L[j + 1].m) && riB ((L.map (·.m)).drop (j + 1)))) := by
    intro j h; rw [ri_step _ j (by simpa using h)]; simp
  have hend : Hid (∀ j, L.length ≤ j + 1 → riB ((L.map (·.m)).drop j) = true) := fun j h => ri_end _ j (by simpa using h)
  have hzero : Hid (riB ((L.map (·.m)).drop 0) = riB (L.map (·.m))) := rfl
  generalize riB (L.map (·.m)) = R at *
  go_enter Try.func74, Try.ntmps74
  go_wp2
  go_loopg [5] (L.length - 1) (fun gk s5 wr => ∃ j : Nat, j + gk = L.length - 1 ∧ s5 = .int .i64 ((j : Int) + 1) ∧ Hid (riB ((L.map (·.m)).drop j) = R) ∧ Below w.heap.size w wr)
  case atStart => exact ⟨0, by omega, rfl, hzero, Below.refl _ _⟩
  case round =>
    obtain ⟨j, hj, rfl, hA, hb⟩ := hrel
    by_cases hlt : j + 1 < L.length
    · obtain ⟨g, o, rfl, hg, P⟩ := hL.resolve_left (by intro e; rw [e] at hlt; simp at hlt)
      have p0 := (hb.cell (p := ⟨g, _, none⟩) hg).trans (P j (by omega) 0 _ rfl)
      have p1 := (hb.cell (p := ⟨g, _, none⟩) hg).trans (P j (by omega) 1 _ rfl)
      have r0 := (hb.cell (p := ⟨g, _, none⟩) hg).trans (P (j + 1) hlt 0 _ rfl)
      have r1 := (hb.cell (p := ⟨g, _, none⟩) hg).trans (P (j + 1) hlt 1 _ rfl)
      simp only [Nat.add_zero] at p0 r0
      have t1 : (j : Int) + 1 < (L.length : Int) := by omega
      have t0 : (0 : Int) ≤ (j : Int) := by omega
      have t2 : (j : Int) < (L.length : Int) := by omega
      have t3 : (0 : Int) ≤ (j : Int) + 1 := by omega
      have wj : IntKind.i64.wrap (j : Int) = (j : Int) := wrap64 _ (by omega)
      have hE := hstep.out j hlt
      have hE2 : Hid (R = (decide (L[j].m < L[j + 1].m) && riB ((L.map (·.m)).drop (j + 1)))) := by show _ = _; rw [← hA.out, hE]
      have kf0 := fun W => k83 L[j] W
      have kf1 := fun W => k83 L[j + 1] W
      clear hE hA P hL
      generalize L[j].m = x0 at *
      generalize L[j].plus = x1 at *
      generalize L[j + 1].m = y0 at *
      generalize L[j + 1].plus = y1 at *
      go_wp2_with fail
      refine wp_region_noPanic ?_
      refine wp_region_held_drew (S := fun w' => Below w.heap.size w w' ∧ w'.cell? ⟨g, o + j * 2, none⟩ = some (.int .i64 x0) ∧ w'.cell? ⟨g, o + j * 2 + 1, none⟩ = some (.int .i64 x1) ∧ w'.cell? ⟨g, o + (j + 1) * 2, none⟩ = some (.int .i64 y0) ∧ w'.cell? ⟨g, o + (j + 1) * 2 + 1, none⟩ = some (.int .i64 y1)) (by kernel_rfl) ?_ (fun hHeld => ?_)
      · (try dsimp only)
        first | exact ⟨hb, p0, p1, r0, r1⟩ | exact ⟨hb.drew, p0, p1, r0, r1⟩
      refine wpAnyH_take (i := 0) (oi := { dst := some 12, op := Op.move (Operand.tmp 1), type := 113, pos := "sound.go:118", after := #[], guard := none }) (v := ?_) rfl (by kernel_rfl) (by kernel_rfl) (by kernel_rfl) (fun _ _ _ h => h) (Or.inl ⟨by rfl, ?_⟩) (by assumption) ?_
      rotate_left
      · intro wz hSz; (try dsimp only at hSz); go_simp; all_goals (with_reducible rfl)
      (try simp only [Act.put, List.setIfInBounds_toArray, List.set_cons_zero, List.set_cons_succ])
      refine wpAnyH_take (i := 1) (oi := { dst := some 13, op := Op.move (Operand.tmp 0), type := 27, pos := "sound.go:118", after := #[], guard := none }) (v := ?_) rfl (by kernel_rfl) (by kernel_rfl) (by kernel_rfl) (fun _ _ _ h => h) (Or.inl ⟨by rfl, ?_⟩) (by assumption) ?_
      rotate_left
      · intro wz hSz; (try dsimp only at hSz); go_simp; all_goals (with_reducible rfl)
      (try simp only [Act.put, List.setIfInBounds_toArray, List.set_cons_zero, List.set_cons_succ])
      refine wpAnyH_take (i := 2) (oi := { dst := some 14, op := Op.move (Operand.tmp 5), type := 3, pos := "sound.go:118", after := #[], guard := none }) (v := ?_) rfl (by kernel_rfl) (by kernel_rfl) (by kernel_rfl) (fun _ _ _ h => h) (Or.inl ⟨by rfl, ?_⟩) (by assumption) ?_
      rotate_left
      · intro wz hSz; (try dsimp only at hSz); go_simp; all_goals (with_reducible rfl)
      (try simp only [Act.put, List.setIfInBounds_toArray, List.set_cons_zero, List.set_cons_succ])
      refine wpAnyH_take (i := 3) (oi := { dst := some 15, op := Op.binOp BinOp.sub 3 (Operand.tmp 14) (Operand.const (Value.int IntKind.i64 1)) 3, type := 3, pos := "sound.go:118", after := #[{ on := 2, ground := Ground.data }], guard := none }) (v := ?_) rfl (by kernel_rfl) (by kernel_rfl) (by kernel_rfl) (fun _ _ _ h => h) (Or.inl ⟨by rfl, ?_⟩) (by assumption) ?_
      rotate_left
      · intro wz hSz; (try dsimp only at hSz); go_simp; all_goals (with_reducible rfl)
      (try simp only [Act.put, List.setIfInBounds_toArray, List.set_cons_zero, List.set_cons_succ])
      refine wpAnyH_take (i := 4) (oi := { dst := some 16, op := Op.indexAddr 27 (Operand.tmp 13) (Operand.tmp 15), type := 0, pos := "sound.go:118", after := #[{ on := 1, ground := Ground.data }, { on := 3, ground := Ground.data }], guard := none }) (v := ?_) rfl (by kernel_rfl) (by kernel_rfl) (by kernel_rfl) (fun _ _ _ h => h) (Or.inl ⟨by rfl, ?_⟩) (by assumption) ?_
      rotate_left
      · intro wz hSz; (try dsimp only at hSz); go_simp; all_goals (with_reducible rfl)
      (try simp only [Act.put, List.setIfInBounds_toArray, List.set_cons_zero, List.set_cons_succ])
      refine wpAnyH_take (i := 5) (oi := { dst := some 17, op := Op.load 61 (Operand.tmp 16), type := 61, pos := "sound.go:118", after := #[{ on := 4, ground := Ground.data }], guard := none }) (v := ?_) rfl (by kernel_rfl) (by kernel_rfl) (by kernel_rfl) (fun _ _ _ h => h) (Or.inl ⟨by rfl, ?_⟩) (by assumption) ?_
      rotate_left
      · intro wz hSz; (try dsimp only at hSz); go_simp; all_goals (with_reducible rfl)
      (try simp only [Act.put, List.setIfInBounds_toArray, List.set_cons_zero, List.set_cons_succ])
      refine wpAnyH_take (i := 7) (oi := { dst := some 19, op := Op.move (Operand.tmp 1), type := 113, pos := "sound.go:118", after := #[], guard := none }) (v := ?_) rfl (by kernel_rfl) (by kernel_rfl) (by kernel_rfl) (fun _ _ _ h => h) (Or.inl ⟨by rfl, ?_⟩) (by assumption) ?_
      rotate_left
      · intro wz hSz; (try dsimp only at hSz); go_simp; all_goals (with_reducible rfl)
      (try simp only [Act.put, List.setIfInBounds_toArray, List.set_cons_zero, List.set_cons_succ])
      refine wpAnyH_take (i := 8) (oi := { dst := some 20, op := Op.move (Operand.tmp 0), type := 27, pos := "sound.go:118", after := #[], guard := none }) (v := ?_) rfl (by kernel_rfl) (by kernel_rfl) (by kernel_rfl) (fun _ _ _ h => h) (Or.inl ⟨by rfl, ?_⟩) (by assumption) ?_
      rotate_left
      · intro wz hSz; (try dsimp only at hSz); go_simp; all_goals (with_reducible rfl)
      (try simp only [Act.put, List.setIfInBounds_toArray, List.set_cons_zero, List.set_cons_succ])
      refine wpAnyH_take (i := 9) (oi := { dst := some 21, op := Op.move (Operand.tmp 5), type := 3, pos := "sound.go:118", after := #[], guard := none }) (v := ?_) rfl (by kernel_rfl) (by kernel_rfl) (by kernel_rfl) (fun _ _ _ h => h) (Or.inl ⟨by rfl, ?_⟩) (by assumption) ?_
      rotate_left
      · intro wz hSz; (try dsimp only at hSz); go_simp; all_goals (with_reducible rfl)
      (try simp only [Act.put, List.setIfInBounds_toArray, List.set_cons_zero, List.set_cons_succ])
      refine wpAnyH_take (i := 10) (oi := { dst := some 22, op := Op.indexAddr 27 (Operand.tmp 20) (Operand.tmp 21), type := 0, pos := "sound.go:118", after := #[{ on := 8, ground := Ground.data }, { on := 9, ground := Ground.data }], guard := none }) (v := ?_) rfl (by kernel_rfl) (by kernel_rfl) (by kernel_rfl) (fun _ _ _ h => h) (Or.inl ⟨by rfl, ?_⟩) (by assumption) ?_
      rotate_left
      · intro wz hSz; (try dsimp only at hSz); go_simp; all_goals (with_reducible rfl)
      (try simp only [Act.put, List.setIfInBounds_toArray, List.set_cons_zero, List.set_cons_succ])
      refine wpAnyH_take (i := 11) (oi := { dst := some 23, op := Op.load 61 (Operand.tmp 22), type := 61, pos := "sound.go:118", after := #[{ on := 10, ground := Ground.data }], guard := none }) (v := ?_) rfl (by kernel_rfl) (by kernel_rfl) (by kernel_rfl) (fun _ _ _ h => h) (Or.inl ⟨by rfl, ?_⟩) (by assumption) ?_
      rotate_left
      · intro wz hSz; (try dsimp only at hSz); go_simp; all_goals (with_reducible rfl)
      (try simp only [Act.put, List.setIfInBounds_toArray, List.set_cons_zero, List.set_cons_succ])
      refine wpAnyH_ready (rs := [6]) (by kernel_rfl) (by simp) ?_
      refine AllReadyH.cons (o := { dst := some 18, op := Op.call { callee := Callee.value (Operand.tmp 12), args := #[Operand.tmp 17], argTypes := #[61] }, type := 3, pos := "sound.go:118", after := #[{ on := 0, ground := Ground.data }, { on := 5, ground := Ground.data }], guard := none }) rfl (fun K hK => ?_) AllReadyH.nil
      go_simp
      go_at_call 75
      (with_reducible refine (kf0 _).mono ?_)
      rintro e w1 ⟨rfl, hb1⟩
      go_wp2_with fail
      refine hK.out _ _ ?_ (fun hHeld => ?_)
      · (try dsimp only)
        obtain ⟨q0, q1, q2, q3, q4⟩ := hHeld; exact ⟨belT q0 hb1, (hb1.cell (p := ⟨g, _, none⟩) (Nat.lt_of_lt_of_le hg q0.size)).trans q1, (hb1.cell (p := ⟨g, _, none⟩) (Nat.lt_of_lt_of_le hg q0.size)).trans q2, (hb1.cell (p := ⟨g, _, none⟩) (Nat.lt_of_lt_of_le hg q0.size)).trans q3, (hb1.cell (p := ⟨g, _, none⟩) (Nat.lt_of_lt_of_le hg q0.size)).trans q4⟩
      clear hK K
      (try simp only [Act.put, List.setIfInBounds_toArray, List.set_cons_zero, List.set_cons_succ])
      refine wpAnyH_ready (rs := [12]) (by kernel_rfl) (by simp) ?_
      refine AllReadyH.cons (o := { dst := some 24, op := Op.call { callee := Callee.value (Operand.tmp 19), args := #[Operand.tmp 23], argTypes := #[61] }, type := 3, pos := "sound.go:118", after := #[{ on := 7, ground := Ground.data }, { on := 11, ground := Ground.data }, { on := 6, ground := Ground.chain }], guard := none }) rfl (fun K hK => ?_) AllReadyH.nil
      go_simp
      go_at_call 75
      (with_reducible refine (kf1 _).mono ?_)
      rintro e w2 ⟨rfl, hb2⟩
      go_wp2_with fail
      refine hK.out _ _ ?_ (fun hHeld => ?_)
      · (try dsimp only)
        obtain ⟨q0, q1, q2, q3, q4⟩ := hHeld; exact ⟨belT q0 hb2, (hb2.cell (p := ⟨g, _, none⟩) (Nat.lt_of_lt_of_le hg q0.size)).trans q1, (hb2.cell (p := ⟨g, _, none⟩) (Nat.lt_of_lt_of_le hg q0.size)).trans q2, (hb2.cell (p := ⟨g, _, none⟩) (Nat.lt_of_lt_of_le hg q0.size)).trans q3, (hb2.cell (p := ⟨g, _, none⟩) (Nat.lt_of_lt_of_le hg q0.size)).trans q4⟩
      clear hK K
      (try simp only [Act.put, List.setIfInBounds_toArray, List.set_cons_zero, List.set_cons_succ])
      refine wpAnyH_take (i := 13) (oi := { dst := some 25, op := Op.binOp BinOp.geq 3 (Operand.tmp 18) (Operand.tmp 24) 3, type := 4, pos := "sound.go:118", after := #[{ on := 6, ground := Ground.data }, { on := 12, ground := Ground.data }], guard := none }) (v := ?_) rfl (by kernel_rfl) (by kernel_rfl) (by kernel_rfl) (fun _ _ _ h => h) (Or.inl ⟨by rfl, ?_⟩) (by assumption) ?_
      rotate_left
      · intro wz hSz; (try dsimp only at hSz); go_simp; all_goals (with_reducible rfl)
      (try simp only [Act.put, List.setIfInBounds_toArray, List.set_cons_zero, List.set_cons_succ])
      refine wpAnyH_done (by kernel_rfl) ?_ _
      refine NoPanic.normal ?_
      by_cases hxy : x0 < y0
      · have hxy' : ¬ y0 ≤ x0 := by omega
        have hE3 : Hid (riB ((L.map (·.m)).drop (j + 1)) = R) := by show _ = _; rw [hE2.out]; simp [hxy]
        go_wp2_with fail
        go_roundg (gk - 1)
        case measure => go_light; omega
        case rel => exact ⟨j + 1, by omega, by go_num, hE3, by first | exact hHeld.1 | exact hHeld.1.drew⟩
      · have hxy' : y0 ≤ x0 := by omega
        have hE3 : Hid (R = false) := by show _ = _; rw [hE2.out]; simp [hxy]
        go_wp2_with fail
        go_ret
        exact ⟨ret_bool hE3.out.symm, by first | exact hHeld.1 | exact hHeld.1.drew⟩
    · have t1 : ¬ (j : Int) + 1 < (L.length : Int) := by omega
      have hE3 : Hid (R = true) := by show _ = _; rw [← hA.out, hend.out j (by omega)]
      clear hL
      go_wp2
      go_ret
      exact ⟨ret_bool hE3.out.symm, hb⟩
theorem Fl.ln {α : Type} {sz : Nat} {cs : α → List Value} {w : World} {a : Option Addr} {c : Nat} {L : List α} (h : Fl sz cs w (.slice a L.length c) L) : L = [] ∨ ∃ g o, a = some ⟨g, o, none⟩ ∧ g < w.heap.size ∧ ∀ (i : Nat) (h : i < L.length) (j : Nat) (u : Value), (cs L[i])[j]? = some u → w.cell? ⟨g, o + i * sz + j, none⟩ = some u := by
  obtain ⟨a', c', e, k⟩ := h.any
  injection e with e1 e2 e3
  subst e1
  exact k
set_option maxRecDepth 100000 in
set_option maxHeartbeats 4000000 in
theorem k79 (x : Dk) (w : World) (hr : Fl 2 Rw.cs w x.rv x.rows) (hl : x.rows.length ≤ 8796093021952) : Calls Try.prog 71 #[.agg #[.string x.name, x.rv]] w fun e w' => e = .returned (.bool (riB (x.rows.map (·.m)))) ∧ Below w.heap.size w w' := by
  obtain ⟨m, p, r⟩ := x
  dsimp only at *
  obtain ⟨a, c, rfl, k⟩ := (hr.below (bel1 (o := .cells #[.string m, p] 72))).any
  have c1 := riseR r a c (w.alloc (.cells #[.string m, .slice a r.length c] 72)) k hl
  clear k hr
  generalize riB (r.map (·.m)) = R at *
  go_enter Try.func71, Try.ntmps71
  go_wp2_with (go_at_call 72; (with_reducible refine c1.mono ?_); rintro e w1 ⟨rfl, hb⟩)
  go_ret
  exact ⟨rfl, belT bel1 hb⟩
set_option maxRecDepth 100000 in
set_option maxHeartbeats 4000000 in
theorem k78 (n : Nat) (a : Option Addr) (c q tb : Nat) (x : Ex) (w : World) (hq : w.cell? ⟨q, 0, none⟩ = some (.func (.func 67) #[] #[.pointer (some ⟨tb, 0, none⟩)])) (h1 : w.cell? ⟨tb, 1, none⟩ = some (.slice a n c)) (hn : n ≤ 3518437208781) : Calls Try.prog 70 #[.agg #[.int .i64 x.day, .int .i64 x.kind], .pointer (some ⟨q, 0, none⟩)] w fun e w' => e = .returned (.bool (kdB n x.kind)) ∧ Below w.heap.size w w' := by
  have c1 := k75 n a c tb x.kind (w.alloc (.cells #[.int .i64 x.day, .int .i64 x.kind] 58)) ((bel1.cell (p := ⟨tb, 1, none⟩) (cell_ltF h1)).trans h1) hn
  have hl := cell_ltF hq
  generalize kdB n x.kind = R at *
  obtain ⟨d, k⟩ := x
  dsimp only at *
  go_enter Try.func70, Try.ntmps70
  go_wp2_with (go_at_call 67; (with_reducible refine c1.mono ?_); rintro e w1 ⟨rfl, hb⟩)
  go_ret
  exact ⟨rfl, belT bel1 hb⟩
set_option maxRecDepth 100000 in
set_option maxHeartbeats 4000000 in
theorem k77 (n : Nat) (a : Option Addr) (c q tb : Nat) (x : Sn) (w : World) (hq : w.cell? ⟨q, 0, none⟩ = some (.func (.func 67) #[] #[.pointer (some ⟨tb, 0, none⟩)])) (h1 : w.cell? ⟨tb, 1, none⟩ = some (.slice a n c)) (hn : n ≤ 3518437208781) : Calls Try.prog 69 #[.agg #[.int .i64 x.fr, .int .i64 x.till, .int .i64 x.w0, .int .i64 x.w1, .int .i64 x.w2, .int .i64 x.w3, .int .i64 x.w4, .int .i64 x.w5, .int .i64 x.w6], .pointer (some ⟨q, 0, none⟩)] w fun e w' => e = .returned (.bool (x.wk.all (kdB n))) ∧ Below w.heap.size w w' := by
  obtain ⟨x0, x1, x2, x3, x4, x5, x6, x7, x8⟩ := x
  dsimp only at *
  have hl := cell_ltF hq
  have hq1 : (w.alloc (.cells #[.int .i64 x0, .int .i64 x1, .int .i64 x2, .int .i64 x3, .int .i64 x4, .int .i64 x5, .int .i64 x6, .int .i64 x7, .int .i64 x8] 56)).cell? ⟨q, 0, none⟩ = some (.func (.func 67) #[] #[.pointer (some ⟨tb, 0, none⟩)]) := (bel1.cell (p := ⟨q, 0, none⟩) hl).trans hq
  have c1 : ∀ W, Below (w.alloc (.cells #[.int .i64 x0, .int .i64 x1, .int .i64 x2, .int .i64 x3, .int .i64 x4, .int .i64 x5, .int .i64 x6, .int .i64 x7, .int .i64 x8] 56)).heap.size (w.alloc (.cells #[.int .i64 x0, .int .i64 x1, .int .i64 x2, .int .i64 x3, .int .i64 x4, .int .i64 x5, .int .i64 x6, .int .i64 x7, .int .i64 x8] 56)) W → Calls Try.prog 68 #[.slice (some ⟨w.heap.size, 2, none⟩) 7 7, .func (.func 67) #[] #[.pointer (some ⟨tb, 0, none⟩)]] W fun e w' => e = .returned (.bool (Sn.wk ⟨x0, x1, x2, x3, x4, x5, x6, x7, x8⟩ |>.all (kdB n))) ∧ Below W.heap.size W w' := by
    intro W hW
    refine allI75 (Sn.wk ⟨x0, x1, x2, x3, x4, x5, x6, x7, x8⟩) (some ⟨w.heap.size, 2, none⟩) 7 tb (kdB n) W (.inr ⟨w.heap.size, 2, rfl, by have := hW.size; simp at this; omega, ?_⟩) (by simp [Sn.wk]) (fun W2 hW2 i hi => k75 n a c tb _ W2 ?_ hn)
    · intro i hi j u hu
      rw [hW.cell (p := ⟨w.heap.size, _, none⟩) (by simp), (Has.new w #[.int .i64 x0, .int .i64 x1, .int .i64 x2, .int .i64 x3, .int .i64 x4, .int .i64 x5, .int .i64 x6, .int .i64 x7, .int .i64 x8] 56 rfl).2.1]
      have hi' : i < 7 := hi
      have hj : j = 0 := by
        have := (List.getElem?_eq_some_iff.1 hu).1
        simp [Int.cs] at this; exact this
      subst hj
      rw [← hu]
      rcases (show i = 0 ∨ i = 1 ∨ i = 2 ∨ i = 3 ∨ i = 4 ∨ i = 5 ∨ i = 6 by omega) with rfl | rfl | rfl | rfl | rfl | rfl | rfl <;> rfl
    · have e1 := cell_ltF h1
      rw [hW2.cell (p := ⟨tb, 1, none⟩) (by have := hW.size; simp at this; show tb < _; omega), hW.cell (p := ⟨tb, 1, none⟩) (by simp; omega)]
      exact (bel1.cell (p := ⟨tb, 1, none⟩) e1).trans h1
  generalize (Sn.wk ⟨x0, x1, x2, x3, x4, x5, x6, x7, x8⟩).all (kdB n) = R at *
  go_enter Try.func69, Try.ntmps69
  go_wp2_with fail
  refine wp_region_noPanic ?_
  refine wp_region_held_drew (S := fun w' => Below (w.alloc (.cells #[.int .i64 x0, .int .i64 x1, .int .i64 x2, .int .i64 x3, .int .i64 x4, .int .i64 x5, .int .i64 x6, .int .i64 x7, .int .i64 x8] 56)).heap.size (w.alloc (.cells #[.int .i64 x0, .int .i64 x1, .int .i64 x2, .int .i64 x3, .int .i64 x4, .int .i64 x5, .int .i64 x6, .int .i64 x7, .int .i64 x8] 56)) w' ∧ w'.cell? ⟨q, 0, none⟩ = some (.func (.func 67) #[] #[.pointer (some ⟨tb, 0, none⟩)])) (by kernel_rfl) ?_ (fun hHeld => ?_)
  · (try dsimp only)
    exact ⟨(Below.refl _ _).drew, hq1⟩
  refine wpAnyH_take (i := 0) (oi := { dst := some 4, op := Op.fieldAddr 56 (Operand.tmp 2) 2, type := 0, pos := "sound.go:75", after := #[], guard := none }) (v := ?_) rfl (by kernel_rfl) (by kernel_rfl) (by kernel_rfl) (fun _ _ _ h => h) (Or.inl ⟨by rfl, ?_⟩) (by assumption) ?_
  rotate_left
  · intro wz hSz; (try dsimp only at hSz); go_simp; all_goals (with_reducible rfl)
  (try simp only [Act.put, List.setIfInBounds_toArray, List.set_cons_zero, List.set_cons_succ])
  refine wpAnyH_take (i := 1) (oi := { dst := some 5, op := Op.slice 24 (Operand.tmp 4) none none none, type := 22, pos := "sound.go:75", after := #[{ on := 0, ground := Ground.data }], guard := none }) (v := ?_) rfl (by kernel_rfl) (by kernel_rfl) (by kernel_rfl) (fun _ _ _ h => h) (Or.inl ⟨by rfl, ?_⟩) (by assumption) ?_
  rotate_left
  · intro wz hSz; (try dsimp only at hSz); go_simp; all_goals (with_reducible rfl)
  (try simp only [Act.put, List.setIfInBounds_toArray, List.set_cons_zero, List.set_cons_succ])
  refine wpAnyH_take (i := 2) (oi := { dst := some 6, op := Op.load 85 (Operand.tmp 1), type := 85, pos := "sound.go:75", after := #[], guard := none }) (v := ?_) rfl (by kernel_rfl) (by kernel_rfl) (by kernel_rfl) (fun _ _ _ h => h) (Or.inl ⟨by rfl, ?_⟩) (by assumption) ?_
  rotate_left
  · intro wz hSz; (try dsimp only at hSz); go_simp; all_goals (with_reducible rfl)
  (try simp only [Act.put, List.setIfInBounds_toArray, List.set_cons_zero, List.set_cons_succ])
  refine wpAnyH_ready (rs := [3]) (by kernel_rfl) (by simp) ?_
  refine AllReadyH.cons (o := { dst := some 7, op := Op.call { callee := Callee.value (Operand.func 68), args := #[Operand.tmp 5, Operand.tmp 6], argTypes := #[22, 85] }, type := 4, pos := "sound.go:75", after := #[{ on := 1, ground := Ground.data }, { on := 2, ground := Ground.data }], guard := none }) rfl (fun K hK => ?_) AllReadyH.nil
  go_simp
  go_at_call 68
  (with_reducible refine (c1 _ hHeld.1).mono ?_)
  rintro e w1 ⟨rfl, hb1⟩
  go_wp2_with fail
  refine hK.out _ _ ?_ (fun hHeld => ?_)
  · (try dsimp only)
    exact ⟨belT hHeld.1 hb1, (hb1.cell (p := ⟨q, _, none⟩) (by have := hHeld.1.size; simp at this; show q < _; first | omega | (simp; omega))).trans hHeld.2⟩
  clear hK K
  (try simp only [Act.put, List.setIfInBounds_toArray, List.set_cons_zero, List.set_cons_succ])
  refine wpAnyH_take (i := 4) (oi := { dst := some 3, op := Op.assign (Operand.tmp 7), type := 4, pos := "sound.go:75", after := #[{ on := 3, ground := Ground.data }, { on := 3, ground := Ground.chain }, { on := 0, ground := Ground.phase }, { on := 1, ground := Ground.phase }, { on := 2, ground := Ground.phase }, { on := 3, ground := Ground.phase }], guard := none }) (v := ?_) rfl (by kernel_rfl) (by kernel_rfl) (by kernel_rfl) (fun _ _ _ h => h) (Or.inl ⟨by rfl, ?_⟩) (by assumption) ?_
  rotate_left
  · intro wz hSz; (try dsimp only at hSz); go_simp; all_goals (with_reducible rfl)
  (try simp only [Act.put, List.setIfInBounds_toArray, List.set_cons_zero, List.set_cons_succ])
  refine wpAnyH_done (by kernel_rfl) ?_ _
  refine NoPanic.normal ?_
  go_wp2_with fail
  go_ret
  exact ⟨rfl, by first | exact belT bel1 hHeld.1 | exact (belT bel1 hHeld.1).drew⟩
end Go.Proofs.Ytddphepgcihdbaa
