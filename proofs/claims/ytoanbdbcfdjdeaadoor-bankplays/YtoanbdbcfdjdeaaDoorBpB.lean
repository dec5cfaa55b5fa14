import Derived.Test.YtoanbdbcfdjdeaaDoorRgE
namespace Go.Proofs.YtoanbdbcfdjdeaaDoor
open Go.RowKit
set_option linter.unusedVariables false
set_option linter.unusedSimpArgs false


theorem wrap64 (z : Int) (h : -9223372036854775808 ≤ z ∧ z ≤ 9223372036854775807) : IntKind.i64.wrap z = z := by
  simp [IntKind.wrap, IntKind.bits, IntKind.signed]
  omega
def bv (x : Int) : Value := .int .u8 x
theorem own_at {w : World} {base g n cap : Nat} {L : List Int} (h : w.ownsRow base 5 1 (.slice (some ⟨g, 0, none⟩) n cap) n (L.map bv)) : g < w.heap.size ∧ base ≤ g ∧ n = L.length ∧ n ≤ cap ∧ (∀ j, w.frozen? ⟨g, j, none⟩ = false) ∧ ∀ (j : Nat) (hj : j < L.length), w.cell? ⟨g, j, none⟩ = some (.int .u8 L[j]) := by
  have hr := own_reads h (g := g) rfl
  have hl := h.1
  rcases h.2 with ⟨h0, _⟩ | ⟨g', cap', cur, h1, h2, h3, h4, h5, h6, h7⟩
  · cases h0
  · injection h1 with e1 _ e3
    injection e1 with e1
    injection e1 with e1
    subst e1
    subst e3
    refine ⟨(Array.getElem?_eq_some_iff.1 h3).1, h2, by simpa using hl.symm, h4, fun j => by simp [World.frozen?, h3], fun j hj => hr j _ (by simp [hj, bv])⟩
theorem own_set {w : World} {base g n cap : Nat} {L : List Int} (h : w.ownsRow base 5 1 (.slice (some ⟨g, 0, none⟩) n cap) n (L.map bv)) (j : Nat) (x : Int) : (w.setCell ⟨g, j, none⟩ (.int .u8 x)).ownsRow base 5 1 (.slice (some ⟨g, 0, none⟩) n cap) n ((L.set j x).map bv) := by
  have := (h.stored j (.int .u8 x)).1
  rwa [List.map_set]
set_option maxRecDepth 100000 in
set_option maxHeartbeats 2000000 in
theorem step_any (S : Nat → Prop) (a : Ac) (va : Option Addr) (c : Nat) (F : List Int) (g cap i : Nat) (t : Int) (base : Nat) (w : World) (hown : w.ownsRow base 5 1 (.slice (some ⟨g, 0, none⟩) F.length cap) F.length (F.map bv)) (hd : By S w (.slice va a.d.length c) a.d)
    (h0 : 0 ≤ a.o) (hi : a.o.toNat + i < F.length) (hk : a.k = 1 ∨ (a.k ≠ 1 ∧ i < a.d.length)) (hF : F.length ≤ 4194304) :
    Calls Tryd.prog 31 #[.slice (some ⟨g, 0, none⟩) F.length cap, .agg #[.int .i64 a.k, .int .i64 a.o, .slice va a.d.length c], .int .i64 (i : Int), .int .u8 t] w fun e w' => e = .returned (.tuple #[]) ∧ w'.ownsRow base 5 1 (.slice (some ⟨g, 0, none⟩) F.length cap) F.length ((stF F a i t).map bv) ∧ Only (fun q => q = g) w w' := by
  obtain ⟨k, o, d⟩ := a
  dsimp only at *
  obtain ⟨m, rfl⟩ : ∃ m : Nat, o = (m : Int) := ⟨o.toNat, by omega⟩
  rw [Int.toNat_natCast] at hi
  obtain ⟨gl, -, -, hcap, fz, rd⟩ := own_at hown
  have rx := rd (m + i) hi
  have efx : F.getD (m + i) 0 = F[m + i] := by simp [List.getD, hi]
  generalize F[m + i] = x at rx efx
  have O1 : ∀ ob : Obj, (w.alloc ob).ownsRow base 5 1 (.slice (some ⟨g, 0, none⟩) F.length cap) F.length (F.map bv) := fun ob => own_bel hown belN1
  have X1 : ∀ ob : Obj, (w.alloc ob).cell? ⟨g, m + i, none⟩ = some (.int .u8 x) := fun ob => ((belN1 (w := w) (o1 := ob)).cell (p := ⟨g, m + i, none⟩) gl).trans rx
  have Z1 : ∀ ob : Obj, (w.alloc ob).frozen? ⟨g, m + i, none⟩ = false := fun ob => ((belN1 (w := w) (o1 := ob)).frozen (p := ⟨g, m + i, none⟩) gl).trans (fz _)
  have hE : (m : Int) + (i : Int) = ((m + i : Nat) : Int) := by omega
  have q1 : ((m + i : Nat) : Int) < (F.length : Int) := by omega
  have q2 : (0 : Int) ≤ ((m + i : Nat) : Int) := by omega
  have o1 : Only (fun q => q = g) w (w.alloc (.cells #[.int .i64 k, .int .i64 (m : Int), .slice va d.length c] 41)) := Only.of_below belN1
  rcases hk with rfl | ⟨k1, hid⟩
  · have e1 : stF F ⟨1, (m : Int), d⟩ i t = F.set (m + i) (orB x t) := by simp only [stF, byF, Int.toNat_natCast, efx, if_true]
    rw [e1]
    clear rd fz hd
    generalize F.length = n at *
    generalize m + i = j at *
    go_enter Tryd.func31, Tryd.ntmps31
    go_wp2_with fail
    go_end0
    exact ⟨rfl, own_bel (own_set hown j _) belN1, (Only.set (S := fun q => q = g) (Only.refl _ w) rfl _).alloc _⟩
  · have e1 : stF F ⟨k, (m : Int), d⟩ i t = F.set (m + i) (anB x (anB t (d[i]))) := by simp only [stF, byF, Int.toNat_natCast, efx, if_neg k1]; simp [List.getD, hid]
    rw [e1]
    obtain ⟨va', c', ev, -, -, -, hd4⟩ := hd
    injection ev with ev _ ec
    subst ev
    subst ec
    obtain ⟨gd, od, rfl, -, hgd, hdx⟩ := hd4.resolve_left (by intro e; rw [e] at hid; simp at hid)
    have dx := hdx i hid
    clear e1
    generalize d[i] = y at dx ⊢
    have D1 : ∀ ob : Obj, (w.alloc ob).cell? ⟨gd, od + i, none⟩ = some (.int .u8 y) := fun ob => ((belN1 (w := w) (o1 := ob)).cell (p := ⟨gd, od + i, none⟩) hgd).trans dx
    have q3 : (i : Int) < (d.length : Int) := by omega
    have q4 : (0 : Int) ≤ (i : Int) := by omega
    have B1 := (Has.new w #[.int .i64 k, .int .i64 (m : Int), .slice (some ⟨gd, od, none⟩) d.length c] 41 rfl)
    have b0 := B1.2.1 0
    have b1 := B1.2.1 1
    have b2 := B1.2.1 2
    have nb : w.heap.size ≠ g := by omega
    have wj : IntKind.i64.wrap ((m + i : Nat) : Int) = ((m + i : Nat) : Int) := wrap64 _ (by omega)
    clear rd fz hdx hd4 hcap hid hi
    generalize F.length = n at *
    generalize d.length = l at *
    generalize m + i = j at *
    generalize hW : w.alloc (.cells #[.int .i64 k, .int .i64 (m : Int), .slice (some ⟨gd, od, none⟩) l c] 41) = W at *
    have oW := O1 (.cells #[.int .i64 k, .int .i64 (m : Int), .slice (some ⟨gd, od, none⟩) l c] 41)
    have xW := X1 (.cells #[.int .i64 k, .int .i64 (m : Int), .slice (some ⟨gd, od, none⟩) l c] 41)
    have zW := Z1 (.cells #[.int .i64 k, .int .i64 (m : Int), .slice (some ⟨gd, od, none⟩) l c] 41)
    have dW := D1 (.cells #[.int .i64 k, .int .i64 (m : Int), .slice (some ⟨gd, od, none⟩) l c] 41)
    rw [hW] at oW xW zW dW
    clear O1 X1 Z1 D1 B1
    go_enter Tryd.func31, Tryd.ntmps31
    go_upto_region 3 with fail
    try rw [hW]
    refine wp_region_noPanic ?_
    refine wp_region_E (S := fun w' => w'.cell? ⟨w.heap.size, 0, none⟩ = some (.int .i64 k) ∧ w'.cell? ⟨w.heap.size, 1, none⟩ = some (.int .i64 (m : Int)) ∧ w'.cell? ⟨w.heap.size, 2, none⟩ = some (.slice (some ⟨gd, od, none⟩) l c) ∧ w'.cell? ⟨g, j, none⟩ = some (.int .u8 x) ∧ w'.cell? ⟨gd, od + i, none⟩ = some (.int .u8 y) ∧ w'.frozen? ⟨g, j, none⟩ = false) (E := 16) (by kernel_rfl) ?_ (fun hHeld => ?_)
    · (try dsimp only)
      exact ⟨b0, b1, b2, xW, dW, zW⟩
    refine wpAnyE_take (i := 0) (oi := { dst := some 21, op := Op.move (Operand.tmp 0), type := 22, pos := "act.go:85", after := #[], guard := none }) (v := ?_) rfl (by kernel_rfl) (by kernel_rfl) (by kernel_rfl) (by kernel_rfl) (fun _ _ _ h => h) (Or.inl ⟨by rfl, ?_⟩) (by assumption) ?_
    rotate_left
    · intro wz hSz; (try dsimp only at hSz); go_simp; all_goals (with_reducible rfl)
    (try simp only [Act.put, List.setIfInBounds_toArray, List.set_cons_zero, List.set_cons_succ])
    refine wpAnyE_take (i := 1) (oi := { dst := some 22, op := Op.fieldAddr 41 (Operand.tmp 5) 1, type := 0, pos := "act.go:85", after := #[], guard := none }) (v := ?_) rfl (by kernel_rfl) (by kernel_rfl) (by kernel_rfl) (by kernel_rfl) (fun _ _ _ h => h) (Or.inl ⟨by rfl, ?_⟩) (by assumption) ?_
    rotate_left
    · intro wz hSz; (try dsimp only at hSz); go_simp; all_goals (with_reducible rfl)
    (try simp only [Act.put, List.setIfInBounds_toArray, List.set_cons_zero, List.set_cons_succ])
    refine wpAnyE_take (i := 2) (oi := { dst := some 23, op := Op.load 3 (Operand.tmp 22), type := 3, pos := "act.go:85", after := #[{ on := 1, ground := Ground.data }], guard := none }) (v := ?_) rfl (by kernel_rfl) (by kernel_rfl) (by kernel_rfl) (by kernel_rfl) (fun _ _ _ h => h) (Or.inl ⟨by rfl, ?_⟩) (by assumption) ?_
    rotate_left
    · intro wz hSz; (try dsimp only at hSz); go_simp; all_goals (with_reducible rfl)
    (try simp only [Act.put, List.setIfInBounds_toArray, List.set_cons_zero, List.set_cons_succ])
    refine wpAnyE_take (i := 3) (oi := { dst := some 24, op := Op.move (Operand.tmp 2), type := 3, pos := "act.go:85", after := #[], guard := none }) (v := ?_) rfl (by kernel_rfl) (by kernel_rfl) (by kernel_rfl) (by kernel_rfl) (fun _ _ _ h => h) (Or.inl ⟨by rfl, ?_⟩) (by assumption) ?_
    rotate_left
    · intro wz hSz; (try dsimp only at hSz); go_simp; all_goals (with_reducible rfl)
    (try simp only [Act.put, List.setIfInBounds_toArray, List.set_cons_zero, List.set_cons_succ])
    refine wpAnyE_take (i := 4) (oi := { dst := some 25, op := Op.binOp BinOp.add 3 (Operand.tmp 23) (Operand.tmp 24) 3, type := 3, pos := "act.go:85", after := #[{ on := 2, ground := Ground.data }, { on := 3, ground := Ground.data }], guard := none }) (v := ?_) rfl (by kernel_rfl) (by kernel_rfl) (by kernel_rfl) (by kernel_rfl) (fun _ _ _ h => h) (Or.inl ⟨by rfl, ?_⟩) (by assumption) ?_
    rotate_left
    · intro wz hSz; (try dsimp only at hSz); go_simp; all_goals (with_reducible rfl)
    (try simp only [Act.put, List.setIfInBounds_toArray, List.set_cons_zero, List.set_cons_succ])
    refine wpAnyE_take (i := 5) (oi := { dst := some 26, op := Op.indexAddr 22 (Operand.tmp 21) (Operand.tmp 25), type := 0, pos := "act.go:85", after := #[{ on := 0, ground := Ground.data }, { on := 4, ground := Ground.data }], guard := none }) (v := ?_) rfl (by kernel_rfl) (by kernel_rfl) (by kernel_rfl) (by kernel_rfl) (fun _ _ _ h => h) (Or.inl ⟨by rfl, ?_⟩) (by assumption) ?_
    rotate_left
    · intro wz hSz; (try dsimp only at hSz); go_simp; all_goals (with_reducible rfl)
    (try simp only [Act.put, List.setIfInBounds_toArray, List.set_cons_zero, List.set_cons_succ])
    refine wpAnyE_take (i := 6) (oi := { dst := some 27, op := Op.load 5 (Operand.tmp 26), type := 5, pos := "act.go:85", after := #[{ on := 5, ground := Ground.data }], guard := none }) (v := ?_) rfl (by kernel_rfl) (by kernel_rfl) (by kernel_rfl) (by kernel_rfl) (fun _ _ _ h => h) (Or.inl ⟨by rfl, ?_⟩) (by assumption) ?_
    rotate_left
    · intro wz hSz; (try dsimp only at hSz); go_simp; all_goals (with_reducible rfl)
    (try simp only [Act.put, List.setIfInBounds_toArray, List.set_cons_zero, List.set_cons_succ])
    refine wpAnyE_take (i := 7) (oi := { dst := some 28, op := Op.move (Operand.tmp 3), type := 5, pos := "act.go:85", after := #[], guard := none }) (v := ?_) rfl (by kernel_rfl) (by kernel_rfl) (by kernel_rfl) (by kernel_rfl) (fun _ _ _ h => h) (Or.inl ⟨by rfl, ?_⟩) (by assumption) ?_
    rotate_left
    · intro wz hSz; (try dsimp only at hSz); go_simp; all_goals (with_reducible rfl)
    (try simp only [Act.put, List.setIfInBounds_toArray, List.set_cons_zero, List.set_cons_succ])
    refine wpAnyE_take (i := 8) (oi := { dst := some 29, op := Op.fieldAddr 41 (Operand.tmp 5) 2, type := 0, pos := "act.go:85", after := #[], guard := none }) (v := ?_) rfl (by kernel_rfl) (by kernel_rfl) (by kernel_rfl) (by kernel_rfl) (fun _ _ _ h => h) (Or.inl ⟨by rfl, ?_⟩) (by assumption) ?_
    rotate_left
    · intro wz hSz; (try dsimp only at hSz); go_simp; all_goals (with_reducible rfl)
    (try simp only [Act.put, List.setIfInBounds_toArray, List.set_cons_zero, List.set_cons_succ])
    refine wpAnyE_take (i := 9) (oi := { dst := some 30, op := Op.load 22 (Operand.tmp 29), type := 22, pos := "act.go:85", after := #[{ on := 8, ground := Ground.data }], guard := none }) (v := ?_) rfl (by kernel_rfl) (by kernel_rfl) (by kernel_rfl) (by kernel_rfl) (fun _ _ _ h => h) (Or.inl ⟨by rfl, ?_⟩) (by assumption) ?_
    rotate_left
    · intro wz hSz; (try dsimp only at hSz); go_simp; all_goals (with_reducible rfl)
    (try simp only [Act.put, List.setIfInBounds_toArray, List.set_cons_zero, List.set_cons_succ])
    refine wpAnyE_take (i := 10) (oi := { dst := some 31, op := Op.move (Operand.tmp 2), type := 3, pos := "act.go:85", after := #[], guard := none }) (v := ?_) rfl (by kernel_rfl) (by kernel_rfl) (by kernel_rfl) (by kernel_rfl) (fun _ _ _ h => h) (Or.inl ⟨by rfl, ?_⟩) (by assumption) ?_
    rotate_left
    · intro wz hSz; (try dsimp only at hSz); go_simp; all_goals (with_reducible rfl)
    (try simp only [Act.put, List.setIfInBounds_toArray, List.set_cons_zero, List.set_cons_succ])
    refine wpAnyE_take (i := 11) (oi := { dst := some 32, op := Op.indexAddr 22 (Operand.tmp 30) (Operand.tmp 31), type := 0, pos := "act.go:85", after := #[{ on := 9, ground := Ground.data }, { on := 10, ground := Ground.data }], guard := none }) (v := ?_) rfl (by kernel_rfl) (by kernel_rfl) (by kernel_rfl) (by kernel_rfl) (fun _ _ _ h => h) (Or.inl ⟨by rfl, ?_⟩) (by assumption) ?_
    rotate_left
    · intro wz hSz; (try dsimp only at hSz); go_simp; all_goals (with_reducible rfl)
    (try simp only [Act.put, List.setIfInBounds_toArray, List.set_cons_zero, List.set_cons_succ])
    refine wpAnyE_take (i := 12) (oi := { dst := some 33, op := Op.load 5 (Operand.tmp 32), type := 5, pos := "act.go:85", after := #[{ on := 11, ground := Ground.data }], guard := none }) (v := ?_) rfl (by kernel_rfl) (by kernel_rfl) (by kernel_rfl) (by kernel_rfl) (fun _ _ _ h => h) (Or.inl ⟨by rfl, ?_⟩) (by assumption) ?_
    rotate_left
    · intro wz hSz; (try dsimp only at hSz); go_simp; all_goals (with_reducible rfl)
    (try simp only [Act.put, List.setIfInBounds_toArray, List.set_cons_zero, List.set_cons_succ])
    refine wpAnyE_take (i := 13) (oi := { dst := some 34, op := Op.binOp BinOp.andNot 5 (Operand.tmp 28) (Operand.tmp 33) 5, type := 5, pos := "act.go:85", after := #[{ on := 7, ground := Ground.data }, { on := 12, ground := Ground.data }], guard := none }) (v := ?_) rfl (by kernel_rfl) (by kernel_rfl) (by kernel_rfl) (by kernel_rfl) (fun _ _ _ h => h) (Or.inl ⟨by rfl, ?_⟩) (by assumption) ?_
    rotate_left
    · intro wz hSz; (try dsimp only at hSz); go_simp; all_goals (with_reducible rfl)
    (try simp only [Act.put, List.setIfInBounds_toArray, List.set_cons_zero, List.set_cons_succ])
    refine wpAnyE_take (i := 14) (oi := { dst := some 35, op := Op.binOp BinOp.andNot 5 (Operand.tmp 27) (Operand.tmp 34) 5, type := 5, pos := "act.go:85", after := #[{ on := 6, ground := Ground.data }, { on := 13, ground := Ground.data }], guard := none }) (v := ?_) rfl (by kernel_rfl) (by kernel_rfl) (by kernel_rfl) (by kernel_rfl) (fun _ _ _ h => h) (Or.inl ⟨by rfl, ?_⟩) (by assumption) ?_
    rotate_left
    · intro wz hSz; (try dsimp only at hSz); go_simp; all_goals (with_reducible rfl)
    (try simp only [Act.put, List.setIfInBounds_toArray, List.set_cons_zero, List.set_cons_succ])
    refine wpAnyE_take (i := 15) (oi := { dst := some 36, op := Op.indexAddr 22 (Operand.tmp 21) (Operand.tmp 25), type := 0, pos := "act.go:85", after := #[{ on := 0, ground := Ground.data }, { on := 4, ground := Ground.data }, { on := 0, ground := Ground.phase }, { on := 1, ground := Ground.phase }, { on := 2, ground := Ground.phase }, { on := 3, ground := Ground.phase }, { on := 4, ground := Ground.phase }, { on := 5, ground := Ground.phase }, { on := 6, ground := Ground.phase }, { on := 7, ground := Ground.phase }, { on := 8, ground := Ground.phase }, { on := 9, ground := Ground.phase }, { on := 10, ground := Ground.phase }, { on := 11, ground := Ground.phase }, { on := 12, ground := Ground.phase }, { on := 13, ground := Ground.phase }, { on := 14, ground := Ground.phase }], guard := none }) (v := ?_) rfl (by kernel_rfl) (by kernel_rfl) (by kernel_rfl) (by kernel_rfl) (fun _ _ _ h => h) (Or.inl ⟨by rfl, ?_⟩) (by assumption) ?_
    rotate_left
    · intro wz hSz; (try dsimp only at hSz); go_simp; all_goals (with_reducible rfl)
    (try simp only [Act.put, List.setIfInBounds_toArray, List.set_cons_zero, List.set_cons_succ])
    refine wpAnyE_last (o := { dst := none, op := Op.store 5 (Operand.tmp 36) (Operand.tmp 35), type := 0, pos := "act.go:85", after := #[{ on := 15, ground := Ground.data }, { on := 14, ground := Ground.data }, { on := 0, ground := Ground.phase }, { on := 1, ground := Ground.phase }, { on := 2, ground := Ground.phase }, { on := 3, ground := Ground.phase }, { on := 4, ground := Ground.phase }, { on := 5, ground := Ground.phase }, { on := 6, ground := Ground.phase }, { on := 7, ground := Ground.phase }, { on := 8, ground := Ground.phase }, { on := 9, ground := Ground.phase }, { on := 10, ground := Ground.phase }, { on := 11, ground := Ground.phase }, { on := 12, ground := Ground.phase }, { on := 13, ground := Ground.phase }, { on := 14, ground := Ground.phase }], guard := none }) (by kernel_rfl) rfl (by kernel_rfl) (by rfl) (fun K hK => ?_)
    have xD : W.drew.cell? ⟨g, j, none⟩ = some (.int .u8 x) := xW
    have zD : W.drew.frozen? ⟨g, j, none⟩ = false := zW
    go_simp
    refine hK _ _ ?_
    refine NoPanic.normal ?_
    go_wp2_with fail
    go_end0
    exact ⟨rfl, own_bel (oW.stored j _).1 ((Below.refl _ _).drew), (o1.set rfl _).drew⟩
set_option maxRecDepth 100000 in
set_option maxHeartbeats 2000000 in
theorem rstep_any (S : Nat → Prop) (a : Ac) (va : Option Addr) (c : Nat) (F : List Int) (g cap i : Nat) (t : Int) (base : Nat) (w : World) (hown : w.ownsRow base 5 1 (.slice (some ⟨g, 0, none⟩) F.length cap) F.length (F.map bv)) (hd : By S w (.slice va a.d.length c) a.d)
    (h0 : 0 ≤ a.o) (hi : a.o.toNat + i < F.length) (hk : a.k = 1 ∨ (a.k ≠ 1 ∧ i < a.d.length)) (hF : F.length ≤ 4194304) :
    Calls Tryd.prog 22 #[.slice (some ⟨g, 0, none⟩) F.length cap, .agg #[.int .i64 a.k, .int .i64 a.o, .slice va a.d.length c], .int .i64 (i : Int), .int .u8 t] w fun e w' => e = .returned (.tuple #[]) ∧ w'.ownsRow base 5 1 (.slice (some ⟨g, 0, none⟩) F.length cap) F.length ((stF F a i t).map bv) ∧ Only (fun q => q = g) w w' := by
  obtain ⟨k, o, d⟩ := a
  dsimp only at *
  obtain ⟨m, rfl⟩ : ∃ m : Nat, o = (m : Int) := ⟨o.toNat, by omega⟩
  rw [Int.toNat_natCast] at hi
  obtain ⟨gl, -, -, hcap, fz, rd⟩ := own_at hown
  have rx := rd (m + i) hi
  have efx : F.getD (m + i) 0 = F[m + i] := by simp [List.getD, hi]
  generalize F[m + i] = x at rx efx
  have O1 : ∀ ob : Obj, (w.alloc ob).ownsRow base 5 1 (.slice (some ⟨g, 0, none⟩) F.length cap) F.length (F.map bv) := fun ob => own_bel hown belN1
  have X1 : ∀ ob : Obj, (w.alloc ob).cell? ⟨g, m + i, none⟩ = some (.int .u8 x) := fun ob => ((belN1 (w := w) (o1 := ob)).cell (p := ⟨g, m + i, none⟩) gl).trans rx
  have Z1 : ∀ ob : Obj, (w.alloc ob).frozen? ⟨g, m + i, none⟩ = false := fun ob => ((belN1 (w := w) (o1 := ob)).frozen (p := ⟨g, m + i, none⟩) gl).trans (fz _)
  have hE : (m : Int) + (i : Int) = ((m + i : Nat) : Int) := by omega
  have q1 : ((m + i : Nat) : Int) < (F.length : Int) := by omega
  have q2 : (0 : Int) ≤ ((m + i : Nat) : Int) := by omega
  have o1 : Only (fun q => q = g) w (w.alloc (.cells #[.int .i64 k, .int .i64 (m : Int), .slice va d.length c] 41)) := Only.of_below belN1
  rcases hk with rfl | ⟨k1, hid⟩
  · have e1 : stF F ⟨1, (m : Int), d⟩ i t = F.set (m + i) (orB x t) := by simp only [stF, byF, Int.toNat_natCast, efx, if_true]
    rw [e1]
    clear rd fz hd
    generalize F.length = n at *
    generalize m + i = j at *
    go_enter Tryd.func22, Tryd.ntmps22
    go_wp2_with fail
    go_end0
    exact ⟨rfl, own_bel (own_set hown j _) belN1, (Only.set (S := fun q => q = g) (Only.refl _ w) rfl _).alloc _⟩
  · have e1 : stF F ⟨k, (m : Int), d⟩ i t = F.set (m + i) (anB x (anB t (d[i]))) := by simp only [stF, byF, Int.toNat_natCast, efx, if_neg k1]; simp [List.getD, hid]
    rw [e1]
    obtain ⟨va', c', ev, -, -, -, hd4⟩ := hd
    injection ev with ev _ ec
    subst ev
    subst ec
    obtain ⟨gd, od, rfl, -, hgd, hdx⟩ := hd4.resolve_left (by intro e; rw [e] at hid; simp at hid)
    have dx := hdx i hid
    clear e1
    generalize d[i] = y at dx ⊢
    have D1 : ∀ ob : Obj, (w.alloc ob).cell? ⟨gd, od + i, none⟩ = some (.int .u8 y) := fun ob => ((belN1 (w := w) (o1 := ob)).cell (p := ⟨gd, od + i, none⟩) hgd).trans dx
    have q3 : (i : Int) < (d.length : Int) := by omega
    have q4 : (0 : Int) ≤ (i : Int) := by omega
    have B1 := (Has.new w #[.int .i64 k, .int .i64 (m : Int), .slice (some ⟨gd, od, none⟩) d.length c] 41 rfl)
    have b0 := B1.2.1 0
    have b1 := B1.2.1 1
    have b2 := B1.2.1 2
    have nb : w.heap.size ≠ g := by omega
    have wj : IntKind.i64.wrap ((m + i : Nat) : Int) = ((m + i : Nat) : Int) := wrap64 _ (by omega)
    clear rd fz hdx hd4 hcap hid hi
    generalize F.length = n at *
    generalize d.length = l at *
    generalize m + i = j at *
    generalize hW : w.alloc (.cells #[.int .i64 k, .int .i64 (m : Int), .slice (some ⟨gd, od, none⟩) l c] 41) = W at *
    have oW := O1 (.cells #[.int .i64 k, .int .i64 (m : Int), .slice (some ⟨gd, od, none⟩) l c] 41)
    have xW := X1 (.cells #[.int .i64 k, .int .i64 (m : Int), .slice (some ⟨gd, od, none⟩) l c] 41)
    have zW := Z1 (.cells #[.int .i64 k, .int .i64 (m : Int), .slice (some ⟨gd, od, none⟩) l c] 41)
    have dW := D1 (.cells #[.int .i64 k, .int .i64 (m : Int), .slice (some ⟨gd, od, none⟩) l c] 41)
    rw [hW] at oW xW zW dW
    clear O1 X1 Z1 D1 B1
    go_enter Tryd.func22, Tryd.ntmps22
    go_upto_region 4 with fail
    try rw [hW]
    refine wp_region_noPanic ?_
    refine wp_region_E (S := fun w' => w'.cell? ⟨w.heap.size, 0, none⟩ = some (.int .i64 k) ∧ w'.cell? ⟨w.heap.size, 1, none⟩ = some (.int .i64 (m : Int)) ∧ w'.cell? ⟨w.heap.size, 2, none⟩ = some (.slice (some ⟨gd, od, none⟩) l c) ∧ w'.cell? ⟨g, j, none⟩ = some (.int .u8 x) ∧ w'.cell? ⟨gd, od + i, none⟩ = some (.int .u8 y) ∧ w'.frozen? ⟨g, j, none⟩ = false) (E := 15) (by kernel_rfl) ?_ (fun hHeld => ?_)
    · (try dsimp only)
      exact ⟨b0, b1, b2, xW, dW, zW⟩
    refine wpAnyE_take (i := 0) (oi := { dst := some 25, op := Op.move (Operand.tmp 0), type := 22, pos := "bank.go:82", after := #[], guard := none }) (v := ?_) rfl (by kernel_rfl) (by kernel_rfl) (by kernel_rfl) (by kernel_rfl) (fun _ _ _ h => h) (Or.inl ⟨by rfl, ?_⟩) (by assumption) ?_
    rotate_left
    · intro wz hSz; (try dsimp only at hSz); go_simp; all_goals (with_reducible rfl)
    (try simp only [Act.put, List.setIfInBounds_toArray, List.set_cons_zero, List.set_cons_succ])
    refine wpAnyE_take (i := 1) (oi := { dst := some 26, op := Op.move (Operand.tmp 8), type := 3, pos := "bank.go:82", after := #[], guard := none }) (v := ?_) rfl (by kernel_rfl) (by kernel_rfl) (by kernel_rfl) (by kernel_rfl) (fun _ _ _ h => h) (Or.inl ⟨by rfl, ?_⟩) (by assumption) ?_
    rotate_left
    · intro wz hSz; (try dsimp only at hSz); go_simp; all_goals (with_reducible rfl)
    (try simp only [Act.put, List.setIfInBounds_toArray, List.set_cons_zero, List.set_cons_succ])
    refine wpAnyE_take (i := 2) (oi := { dst := some 27, op := Op.move (Operand.tmp 0), type := 22, pos := "bank.go:82", after := #[], guard := none }) (v := ?_) rfl (by kernel_rfl) (by kernel_rfl) (by kernel_rfl) (by kernel_rfl) (fun _ _ _ h => h) (Or.inl ⟨by rfl, ?_⟩) (by assumption) ?_
    rotate_left
    · intro wz hSz; (try dsimp only at hSz); go_simp; all_goals (with_reducible rfl)
    (try simp only [Act.put, List.setIfInBounds_toArray, List.set_cons_zero, List.set_cons_succ])
    refine wpAnyE_take (i := 3) (oi := { dst := some 28, op := Op.move (Operand.tmp 8), type := 3, pos := "bank.go:82", after := #[], guard := none }) (v := ?_) rfl (by kernel_rfl) (by kernel_rfl) (by kernel_rfl) (by kernel_rfl) (fun _ _ _ h => h) (Or.inl ⟨by rfl, ?_⟩) (by assumption) ?_
    rotate_left
    · intro wz hSz; (try dsimp only at hSz); go_simp; all_goals (with_reducible rfl)
    (try simp only [Act.put, List.setIfInBounds_toArray, List.set_cons_zero, List.set_cons_succ])
    refine wpAnyE_take (i := 4) (oi := { dst := some 29, op := Op.indexAddr 22 (Operand.tmp 27) (Operand.tmp 28), type := 0, pos := "bank.go:82", after := #[{ on := 2, ground := Ground.data }, { on := 3, ground := Ground.data }], guard := none }) (v := ?_) rfl (by kernel_rfl) (by kernel_rfl) (by kernel_rfl) (by kernel_rfl) (fun _ _ _ h => h) (Or.inl ⟨by rfl, ?_⟩) (by assumption) ?_
    rotate_left
    · intro wz hSz; (try dsimp only at hSz); go_simp; all_goals (with_reducible rfl)
    (try simp only [Act.put, List.setIfInBounds_toArray, List.set_cons_zero, List.set_cons_succ])
    refine wpAnyE_take (i := 5) (oi := { dst := some 30, op := Op.load 5 (Operand.tmp 29), type := 5, pos := "bank.go:82", after := #[{ on := 4, ground := Ground.data }], guard := none }) (v := ?_) rfl (by kernel_rfl) (by kernel_rfl) (by kernel_rfl) (by kernel_rfl) (fun _ _ _ h => h) (Or.inl ⟨by rfl, ?_⟩) (by assumption) ?_
    rotate_left
    · intro wz hSz; (try dsimp only at hSz); go_simp; all_goals (with_reducible rfl)
    (try simp only [Act.put, List.setIfInBounds_toArray, List.set_cons_zero, List.set_cons_succ])
    refine wpAnyE_take (i := 6) (oi := { dst := some 31, op := Op.move (Operand.tmp 3), type := 5, pos := "bank.go:82", after := #[], guard := none }) (v := ?_) rfl (by kernel_rfl) (by kernel_rfl) (by kernel_rfl) (by kernel_rfl) (fun _ _ _ h => h) (Or.inl ⟨by rfl, ?_⟩) (by assumption) ?_
    rotate_left
    · intro wz hSz; (try dsimp only at hSz); go_simp; all_goals (with_reducible rfl)
    (try simp only [Act.put, List.setIfInBounds_toArray, List.set_cons_zero, List.set_cons_succ])
    refine wpAnyE_take (i := 7) (oi := { dst := some 32, op := Op.fieldAddr 41 (Operand.tmp 5) 2, type := 0, pos := "bank.go:82", after := #[], guard := none }) (v := ?_) rfl (by kernel_rfl) (by kernel_rfl) (by kernel_rfl) (by kernel_rfl) (fun _ _ _ h => h) (Or.inl ⟨by rfl, ?_⟩) (by assumption) ?_
    rotate_left
    · intro wz hSz; (try dsimp only at hSz); go_simp; all_goals (with_reducible rfl)
    (try simp only [Act.put, List.setIfInBounds_toArray, List.set_cons_zero, List.set_cons_succ])
    refine wpAnyE_take (i := 8) (oi := { dst := some 33, op := Op.load 22 (Operand.tmp 32), type := 22, pos := "bank.go:82", after := #[{ on := 7, ground := Ground.data }], guard := none }) (v := ?_) rfl (by kernel_rfl) (by kernel_rfl) (by kernel_rfl) (by kernel_rfl) (fun _ _ _ h => h) (Or.inl ⟨by rfl, ?_⟩) (by assumption) ?_
    rotate_left
    · intro wz hSz; (try dsimp only at hSz); go_simp; all_goals (with_reducible rfl)
    (try simp only [Act.put, List.setIfInBounds_toArray, List.set_cons_zero, List.set_cons_succ])
    refine wpAnyE_take (i := 9) (oi := { dst := some 34, op := Op.move (Operand.tmp 2), type := 3, pos := "bank.go:82", after := #[], guard := none }) (v := ?_) rfl (by kernel_rfl) (by kernel_rfl) (by kernel_rfl) (by kernel_rfl) (fun _ _ _ h => h) (Or.inl ⟨by rfl, ?_⟩) (by assumption) ?_
    rotate_left
    · intro wz hSz; (try dsimp only at hSz); go_simp; all_goals (with_reducible rfl)
    (try simp only [Act.put, List.setIfInBounds_toArray, List.set_cons_zero, List.set_cons_succ])
    refine wpAnyE_take (i := 10) (oi := { dst := some 35, op := Op.indexAddr 22 (Operand.tmp 33) (Operand.tmp 34), type := 0, pos := "bank.go:82", after := #[{ on := 8, ground := Ground.data }, { on := 9, ground := Ground.data }], guard := none }) (v := ?_) rfl (by kernel_rfl) (by kernel_rfl) (by kernel_rfl) (by kernel_rfl) (fun _ _ _ h => h) (Or.inl ⟨by rfl, ?_⟩) (by assumption) ?_
    rotate_left
    · intro wz hSz; (try dsimp only at hSz); go_simp; all_goals (with_reducible rfl)
    (try simp only [Act.put, List.setIfInBounds_toArray, List.set_cons_zero, List.set_cons_succ])
    refine wpAnyE_take (i := 11) (oi := { dst := some 36, op := Op.load 5 (Operand.tmp 35), type := 5, pos := "bank.go:82", after := #[{ on := 10, ground := Ground.data }], guard := none }) (v := ?_) rfl (by kernel_rfl) (by kernel_rfl) (by kernel_rfl) (by kernel_rfl) (fun _ _ _ h => h) (Or.inl ⟨by rfl, ?_⟩) (by assumption) ?_
    rotate_left
    · intro wz hSz; (try dsimp only at hSz); go_simp; all_goals (with_reducible rfl)
    (try simp only [Act.put, List.setIfInBounds_toArray, List.set_cons_zero, List.set_cons_succ])
    refine wpAnyE_take (i := 12) (oi := { dst := some 37, op := Op.binOp BinOp.andNot 5 (Operand.tmp 31) (Operand.tmp 36) 5, type := 5, pos := "bank.go:82", after := #[{ on := 6, ground := Ground.data }, { on := 11, ground := Ground.data }], guard := none }) (v := ?_) rfl (by kernel_rfl) (by kernel_rfl) (by kernel_rfl) (by kernel_rfl) (fun _ _ _ h => h) (Or.inl ⟨by rfl, ?_⟩) (by assumption) ?_
    rotate_left
    · intro wz hSz; (try dsimp only at hSz); go_simp; all_goals (with_reducible rfl)
    (try simp only [Act.put, List.setIfInBounds_toArray, List.set_cons_zero, List.set_cons_succ])
    refine wpAnyE_take (i := 13) (oi := { dst := some 38, op := Op.binOp BinOp.andNot 5 (Operand.tmp 30) (Operand.tmp 37) 5, type := 5, pos := "bank.go:82", after := #[{ on := 5, ground := Ground.data }, { on := 12, ground := Ground.data }], guard := none }) (v := ?_) rfl (by kernel_rfl) (by kernel_rfl) (by kernel_rfl) (by kernel_rfl) (fun _ _ _ h => h) (Or.inl ⟨by rfl, ?_⟩) (by assumption) ?_
    rotate_left
    · intro wz hSz; (try dsimp only at hSz); go_simp; all_goals (with_reducible rfl)
    (try simp only [Act.put, List.setIfInBounds_toArray, List.set_cons_zero, List.set_cons_succ])
    refine wpAnyE_take (i := 14) (oi := { dst := some 39, op := Op.indexAddr 22 (Operand.tmp 25) (Operand.tmp 26), type := 0, pos := "bank.go:82", after := #[{ on := 0, ground := Ground.data }, { on := 1, ground := Ground.data }, { on := 0, ground := Ground.phase }, { on := 1, ground := Ground.phase }, { on := 2, ground := Ground.phase }, { on := 3, ground := Ground.phase }, { on := 4, ground := Ground.phase }, { on := 5, ground := Ground.phase }, { on := 6, ground := Ground.phase }, { on := 7, ground := Ground.phase }, { on := 8, ground := Ground.phase }, { on := 9, ground := Ground.phase }, { on := 10, ground := Ground.phase }, { on := 11, ground := Ground.phase }, { on := 12, ground := Ground.phase }, { on := 13, ground := Ground.phase }], guard := none }) (v := ?_) rfl (by kernel_rfl) (by kernel_rfl) (by kernel_rfl) (by kernel_rfl) (fun _ _ _ h => h) (Or.inl ⟨by rfl, ?_⟩) (by assumption) ?_
    rotate_left
    · intro wz hSz; (try dsimp only at hSz); go_simp; all_goals (with_reducible rfl)
    (try simp only [Act.put, List.setIfInBounds_toArray, List.set_cons_zero, List.set_cons_succ])
    refine wpAnyE_last (o := { dst := none, op := Op.store 5 (Operand.tmp 39) (Operand.tmp 38), type := 0, pos := "bank.go:82", after := #[{ on := 14, ground := Ground.data }, { on := 13, ground := Ground.data }, { on := 0, ground := Ground.phase }, { on := 1, ground := Ground.phase }, { on := 2, ground := Ground.phase }, { on := 3, ground := Ground.phase }, { on := 4, ground := Ground.phase }, { on := 5, ground := Ground.phase }, { on := 6, ground := Ground.phase }, { on := 7, ground := Ground.phase }, { on := 8, ground := Ground.phase }, { on := 9, ground := Ground.phase }, { on := 10, ground := Ground.phase }, { on := 11, ground := Ground.phase }, { on := 12, ground := Ground.phase }, { on := 13, ground := Ground.phase }], guard := none }) (by kernel_rfl) rfl (by kernel_rfl) (by rfl) (fun K hK => ?_)
    have xD : W.drew.cell? ⟨g, j, none⟩ = some (.int .u8 x) := xW
    have zD : W.drew.frozen? ⟨g, j, none⟩ = false := zW
    go_simp
    refine hK _ _ ?_
    refine NoPanic.normal ?_
    go_wp2_with fail
    go_end0
    exact ⟨rfl, own_bel (oW.stored j _).1 ((Below.refl _ _).drew), (o1.set rfl _).drew⟩
end Go.Proofs.YtoanbdbcfdjdeaaDoor
