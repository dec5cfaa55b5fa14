import Derived.Test.YtcajejfddfiidaaDoorDrT
namespace Go.Proofs.YtcajejfddfiidaaDoor
open Go.RowKit
set_option linter.unusedVariables false
set_option linter.unusedSimpArgs false

def uc (x : Int) : List Value := [.int .u64 x]
theorem uc_len (x : Int) : (uc x).length = 1 := rfl
theorem uc_one (x : Int) : ∀ u ∈ uc x, u.oneCell' = true := by intro u hu; simp [uc] at hu; subst hu; rfl
theorem infoU : (Tryd.prog.info? 26).map (fun i => (i.zero, i.size, i.bytes)) = some (some (.int .u64 0), 1, 8) := by kernel_rfl
/-- A buffer of entries, filled from the front. -/
structure RC (w0 wr : World) (N : Nat) (e : Int) (k : Nat) : Prop where
  below : Below w0.heap.size w0 wr
  fits : k ≤ N
  row : ∃ cur, wr.heap[w0.heap.size]? = some (.cells cur 26 (0, 0)) ∧ cur.size = N * 1 ∧ cur.toList.take (k * 1) = cellsF uc (List.replicate k e)
theorem repc_cells (k : Nat) (e : Int) : (cellsF uc (List.replicate k e)).length = k * 1 := by rw [cellsF_len uc_len]; simp
theorem RC.drew {w0 wr : World} {N : Nat} {e : Int} {k : Nat} (h : RC w0 wr N e k) : RC w0 wr.drew N e k := ⟨h.below.drew, h.fits, h.row⟩
theorem repc_app (k c : Nat) (e : Int) : cellsF uc (List.replicate (k + c) e) = cellsF uc (List.replicate k e) ++ cellsF uc (List.replicate c e) := by rw [← List.replicate_append_replicate, cellsF_append]
theorem RC.copy {w0 wr : World} {N : Nat} {e : Int} {k : Nat} (h : RC w0 wr N e k) (a : Addr) (m cap c : Nat) (hc : Nat.min m (N - k) = c) (hsrc : ∀ j v, (cellsF uc (List.replicate c e))[j]? = some v → wr.cell? (a.add j) = some v) :
    ∃ wr', (Builtin.copy_ #[22, 22] 3 #[.slice (some ⟨w0.heap.size, k, none⟩) (N - k) (N - k), .slice (some a) m cap]).run Tryd.prog wr = .ok (.int .i64 (c : Int)) wr' ∧ RC w0 wr' N e (k + c) := by
  obtain ⟨cur, h1, h2, h3⟩ := h.row
  rw [Nat.mul_one] at h3
  have hcN : k + c ≤ N := by have := Nat.min_le_right m (N - k); have := h.fits; have e : Nat.min m (N - k) = min m (N - k) := rfl; omega
  have hl := repc_cells c e
  have hr := run_copy_rowS (P := Tryd.prog) wr 22 22 3 26 1 w0.heap.size k (N - k) (N - k) a m cap cur 26 (cellsF uc (List.replicate c e)) Tryd.underlying22 (by kernel_rfl) h1 (by rw [hc]; exact hl) hsrc (by rw [hl, h2]; omega) (cellsF_one uc_one _)
  rw [hc] at hr
  refine ⟨_, hr, below_setRow h.below (Nat.le_refl _) _, hcN, _, setRow_heap _ _ _ _ _ _ h1, ?_, ?_⟩
  · have hcl : cur.toList.length = N * 1 := by simpa using h2
    simp [hl, hcl]
    omega
  · have hcl : cur.toList.length = N * 1 := by simpa using h2
    rw [List.toList_toArray, h3, repc_app, show (k + c) * 1 = (cellsF uc (List.replicate k e) ++ cellsF uc (List.replicate c e)).length by rw [List.length_append, repc_cells, hl]; omega, List.take_left' rfl]
theorem sizeU (W : World) : (Go.sizeOf 26).run Tryd.prog W = .ok 1 W := by kernel_rfl
theorem slu_tail (W : World) (g N k : Nat) (hk : k < N) : (Instr.slice 22 (.slice (some ⟨g, 0, none⟩) N N) (some (.int .i64 (k : Int))) none none).run Tryd.prog W = .ok (.slice (some ⟨g, k, none⟩) (N - k) (N - k)) W := by
  have ht' : Tryd.prog.underlying 22 = some (.slice (Tryd.prog.elem 22)) := by simp [Program.elem, Tryd.underlying22]
  have he : Tryd.prog.elem 22 = 26 := by simp [Program.elem, Tryd.underlying22]
  rw [run_slice_l W 22 _ _ _ ht' .i64 _ (by omega) (by omega), he, sizeU W]
  have h1 : ¬ N = k := by omega
  simp [Result.andThen, sliced, Addr.add, h1]
  try omega
theorem slu_head (W : World) (g N k : Nat) (hk : k ≤ N) : (Instr.slice 22 (.slice (some ⟨g, 0, none⟩) N N) none (some (.int .i64 (k : Int))) none).run Tryd.prog W = .ok (.slice (some ⟨g, 0, none⟩) k N) W := by
  have ht' : Tryd.prog.underlying 22 = some (.slice (Tryd.prog.elem 22)) := by simp [Program.elem, Tryd.underlying22]
  have he : Tryd.prog.elem 22 = 26 := by simp [Program.elem, Tryd.underlying22]
  rw [run_slice_h W 22 _ _ _ ht' .i64 _ (by omega) (by omega), he, sizeU W]
  simp [Result.andThen, sliced, Addr.add]
set_option maxRecDepth 100000 in
set_option maxHeartbeats 2000000 in
theorem repeatU_any (e : Int) (N : Nat) (ad : Addr) (w : World) (h1 : 1 ≤ N) (h2 : N ≤ 65536) (hsrc : ∀ j v, (uc e)[j]? = some v → w.cell? (ad.add j) = some v) :
    Calls Tryd.prog 17 #[.slice (some ad) 1 1, .int .i64 (N : Int)] w fun r w' => r = .returned (.slice (some ⟨w.heap.size, 0, none⟩) N N) ∧ w'.ownsRow w.heap.size 26 1 (.slice (some ⟨w.heap.size, 0, none⟩) N N) N (cellsF uc (List.replicate N e)) ∧ Below w.heap.size w w' := by
  have h35 := fun (X : World) => Tryd.bits_Mul 1 N (by decide) (by omega) X
  rw [show 1 * N / 18446744073709551616 = 0 by omega, show 1 * N % 18446744073709551616 = N by omega] at h35
  obtain ⟨ti, hi, hx⟩ := Option.map_eq_some_iff.1 infoU
  have hi0 : ti.zero = some (.int .u64 0) := congrArg (·.1) hx
  have hi1 : ti.size = 1 := congrArg (·.2.1) hx
  have hi2 : ti.bytes = 8 := congrArg (·.2.2) hx
  have hmk : (Instr.makeSlice 22 (.int .i64 (N : Int)) (.int .i64 (N : Int))).run Tryd.prog w = .ok (.slice (some ⟨w.heap.size, 0, none⟩) N N) (w.alloc (.cells (madeCells (Value.int .u64 0).cells (N * 1)) 26)) := by
    have := run_make (P := Tryd.prog) w 22 26 ti _ Tryd.underlying22 hi hi0 .i64 .i64 (N : Int) (N : Int) (by omega) (by omega) (by rw [hi2]; omega) (by omega)
    rw [this, hi1, Int.toNat_natCast]
  have hsz : (madeCells (Value.int .u64 0).cells (N * 1)).size = N * 1 := size_madeCells _ _
  generalize madeCells (Value.int .u64 0).cells (N * 1) = MA at *
  have B0 : RC w (w.alloc (.cells MA 26)) N e 0 := ⟨(Below.refl _ _).alloc (Nat.le_refl _) _, Nat.zero_le _, MA, by unfold World.alloc; simp, hsz, by simp [cellsF]⟩
  have hlt : ∀ j v, (uc e)[j]? = some v → (w.alloc (.cells MA 26)).cell? (ad.add j) = some v := fun j v hv => Lib.cell?_alloc_some _ (hsrc j v hv)
  obtain ⟨w1, hr1, B1⟩ := B0.copy ad 1 1 1 (by show min 1 (N - 0) = 1; omega) (by simpa [cellsF] using hlt)
  rw [Nat.sub_zero] at hr1
  rw [Nat.zero_add] at B1
  have B1' : Hid (RC w w1 N e 1) := B1
  have i0 : (0 : Int) ≤ (N : Int) := by omega
  have i1 : ¬ (N : Int) < 0 := by omega
  clear B0 B1 hlt
  generalize hW : w.alloc (.cells MA 26) = W at *
  go_enter Tryd.func17, Tryd.ntmps17
  go_wp2_with (first | (go_at_call 35; (with_reducible refine Calls.mono (h35 _) ?_); rintro r w2 ⟨rfl, hw2⟩; have hw3 := hw2.symm; clear hw2; subst hw3) | (at_builtin; refine Lib.wpList_copy_run _ rfl _ _ 22 22 rfl _ _ rfl rfl hr1 ?_))
  go_loopw [8] (fun s wr => ∃ k : Nat, 1 ≤ k ∧ k ≤ N ∧ s = .int .i64 (k : Int) ∧ Hid (RC w wr N e k)) (fun s _ => N - (intOf s).toNat)
  case atStart => exact ⟨1, by omega, by omega, rfl, B1'⟩
  case round =>
    obtain ⟨k, hk1, hk2, rfl, HB'⟩ := hrel
    have HB := HB'.out
    clear HB'
    by_cases hltk : k < N
    case neg =>
      obtain rfl : k = N := by omega
      have t1 : ¬ (k : Int) < (k : Int) := by omega
      go_wp2_with fail
      go_ret
      obtain ⟨cur, q1, q2, q3⟩ := HB.row
      exact ⟨rfl, ⟨repc_cells k e, .inr ⟨w.heap.size, k, cur, rfl, Nat.le_refl _, q1, Nat.le_refl _, by unfold maxLen; omega, q2, q3⟩⟩, HB.below⟩
    have t1 : (k : Int) < (N : Int) := by omega
    have hsl1 := fun (X : World) => slu_tail X w.heap.size N k hltk
    have hsl2 := fun (X : World) => slu_head X w.heap.size N k hk2
    obtain ⟨c, hc⟩ : ∃ c, Nat.min k (N - k) = c := ⟨_, rfl⟩
    have hc1 : 1 ≤ c ∧ k + c ≤ N := by have e : Nat.min k (N - k) = min k (N - k) := rfl; omega
    obtain ⟨w3, hr2, HB3⟩ := HB.drew.copy ⟨w.heap.size, 0, none⟩ k N c hc (fun j v hv => by
      obtain ⟨cur, q1, q2, q3⟩ := HB.row
      have hj : j < c * 1 := by have := (List.getElem?_eq_some_iff.1 hv).1; rw [repc_cells] at this; exact this
      rw [Go.WideShapes.add_plain, Nat.zero_add]
      show wr.cell? ⟨w.heap.size, j, none⟩ = some v
      have hck : c ≤ k := by have e : Nat.min k (N - k) = min k (N - k) := rfl; omega
      have e1 : cur[j]? = (cur.toList.take (k * 1))[j]? := by rw [List.getElem?_take, if_pos (by omega)]; simp
      simp only [World.cell?, q1]
      rw [e1, q3, show k = c + (k - c) by omega, repc_app, List.getElem?_append_left (by rw [repc_cells]; exact hj)]
      exact hv)
    have wk : IntKind.i64.wrap ((k : Int) + (c : Int)) = (k : Int) + (c : Int) := wrap64 _ (by omega)
    · skip
      go_upto_region 9 with fail
      refine wp_region_noPanic ?_
      refine wp_region_held_drew (S := fun w' => True) (by kernel_rfl) ?_ (fun hHeld => ?_)
      · (try dsimp only)
        all_goals trivial
      refine wpAnyH_take (i := 0) (oi := { dst := some 38, op := Op.move (Operand.tmp 8), type := 3, pos := "slices.go:528", after := #[], guard := none }) (v := ?_) rfl (by kernel_rfl) (by kernel_rfl) (by kernel_rfl) (fun _ _ _ h => h) (Or.inl ⟨by rfl, ?_⟩) (by assumption) ?_
      rotate_left
      · intro wz hSz; (try dsimp only at hSz); go_simp; all_goals (with_reducible rfl)
      (try simp only [Act.put, List.setIfInBounds_toArray, List.set_cons_zero, List.set_cons_succ])
      refine wpAnyH_take (i := 1) (oi := { dst := some 39, op := Op.move (Operand.tmp 7), type := 22, pos := "slices.go:528", after := #[], guard := none }) (v := ?_) rfl (by kernel_rfl) (by kernel_rfl) (by kernel_rfl) (fun _ _ _ h => h) (Or.inl ⟨by rfl, ?_⟩) (by assumption) ?_
      rotate_left
      · intro wz hSz; (try dsimp only at hSz); go_simp; all_goals (with_reducible rfl)
      (try simp only [Act.put, List.setIfInBounds_toArray, List.set_cons_zero, List.set_cons_succ])
      refine wpAnyH_take (i := 2) (oi := { dst := some 40, op := Op.move (Operand.tmp 8), type := 3, pos := "slices.go:528", after := #[], guard := none }) (v := ?_) rfl (by kernel_rfl) (by kernel_rfl) (by kernel_rfl) (fun _ _ _ h => h) (Or.inl ⟨by rfl, ?_⟩) (by assumption) ?_
      rotate_left
      · intro wz hSz; (try dsimp only at hSz); go_simp; all_goals (with_reducible rfl)
      (try simp only [Act.put, List.setIfInBounds_toArray, List.set_cons_zero, List.set_cons_succ])
      refine wpAnyH_take (i := 3) (oi := { dst := some 41, op := Op.slice 22 (Operand.tmp 39) (some (Operand.tmp 40)) none none, type := 22, pos := "slices.go:528", after := #[{ on := 1, ground := Ground.data }, { on := 2, ground := Ground.data }], guard := none }) (v := ?_) rfl (by kernel_rfl) (by kernel_rfl) (by kernel_rfl) (fun _ _ _ h => h) (Or.inl ⟨by rfl, ?_⟩) (by assumption) ?_
      rotate_left
      · intro wz hSz; (try dsimp only at hSz); go_simp; all_goals (with_reducible rfl)
      (try simp only [Act.put, List.setIfInBounds_toArray, List.set_cons_zero, List.set_cons_succ])
      refine wpAnyH_take (i := 4) (oi := { dst := some 42, op := Op.move (Operand.tmp 7), type := 22, pos := "slices.go:528", after := #[], guard := none }) (v := ?_) rfl (by kernel_rfl) (by kernel_rfl) (by kernel_rfl) (fun _ _ _ h => h) (Or.inl ⟨by rfl, ?_⟩) (by assumption) ?_
      rotate_left
      · intro wz hSz; (try dsimp only at hSz); go_simp; all_goals (with_reducible rfl)
      (try simp only [Act.put, List.setIfInBounds_toArray, List.set_cons_zero, List.set_cons_succ])
      refine wpAnyH_take (i := 5) (oi := { dst := some 43, op := Op.move (Operand.tmp 8), type := 3, pos := "slices.go:528", after := #[], guard := none }) (v := ?_) rfl (by kernel_rfl) (by kernel_rfl) (by kernel_rfl) (fun _ _ _ h => h) (Or.inl ⟨by rfl, ?_⟩) (by assumption) ?_
      rotate_left
      · intro wz hSz; (try dsimp only at hSz); go_simp; all_goals (with_reducible rfl)
      (try simp only [Act.put, List.setIfInBounds_toArray, List.set_cons_zero, List.set_cons_succ])
      refine wpAnyH_take (i := 6) (oi := { dst := some 44, op := Op.slice 22 (Operand.tmp 42) none (some (Operand.tmp 43)) none, type := 22, pos := "slices.go:528", after := #[{ on := 4, ground := Ground.data }, { on := 5, ground := Ground.data }], guard := none }) (v := ?_) rfl (by kernel_rfl) (by kernel_rfl) (by kernel_rfl) (fun _ _ _ h => h) (Or.inl ⟨by rfl, ?_⟩) (by assumption) ?_
      rotate_left
      · intro wz hSz; (try dsimp only at hSz); go_simp; all_goals (with_reducible rfl)
      (try simp only [Act.put, List.setIfInBounds_toArray, List.set_cons_zero, List.set_cons_succ])
      refine wpAnyH_ready (rs := [7]) (by kernel_rfl) (by simp) ?_
      refine AllReadyH.cons (o := { dst := some 45, op := Op.call { callee := Callee.builtin Builtin.copy, args := #[Operand.tmp 41, Operand.tmp 44], argTypes := #[22, 22] }, type := 3, pos := "slices.go:528", after := #[{ on := 3, ground := Ground.data }, { on := 6, ground := Ground.data }], guard := none }) rfl (fun K hK => ?_) AllReadyH.nil
      rw [if_pos (show Region.wanted _ _ = true from by rfl)]
      refine Lib.wp_copy_run _ _ _ 22 22 rfl _ _ rfl rfl hr2 ?_
      refine hK.out _ _ trivial (fun hHeld => ?_)
      clear hK K
      (try simp only [Act.put, List.setIfInBounds_toArray, List.set_cons_zero, List.set_cons_succ])
      refine wpAnyH_take (i := 8) (oi := { dst := some 46, op := Op.binOp BinOp.add 3 (Operand.tmp 38) (Operand.tmp 45) 3, type := 3, pos := "slices.go:528", after := #[{ on := 0, ground := Ground.data }, { on := 7, ground := Ground.data }], guard := none }) (v := ?_) rfl (by kernel_rfl) (by kernel_rfl) (by kernel_rfl) (fun _ _ _ h => h) (Or.inl ⟨by rfl, ?_⟩) (by assumption) ?_
      rotate_left
      · intro wz hSz; (try dsimp only at hSz); go_simp; all_goals (with_reducible rfl)
      (try simp only [Act.put, List.setIfInBounds_toArray, List.set_cons_zero, List.set_cons_succ])
      refine wpAnyH_take (i := 9) (oi := { dst := some 8, op := Op.assign (Operand.tmp 46), type := 3, pos := "slices.go:528", after := #[{ on := 8, ground := Ground.data }, { on := 7, ground := Ground.chain }, { on := 0, ground := Ground.phase }, { on := 1, ground := Ground.phase }, { on := 2, ground := Ground.phase }, { on := 3, ground := Ground.phase }, { on := 4, ground := Ground.phase }, { on := 5, ground := Ground.phase }, { on := 6, ground := Ground.phase }, { on := 7, ground := Ground.phase }, { on := 8, ground := Ground.phase }], guard := none }) (v := ?_) rfl (by kernel_rfl) (by kernel_rfl) (by kernel_rfl) (fun _ _ _ h => h) (Or.inl ⟨by rfl, ?_⟩) (by assumption) ?_
      rotate_left
      · intro wz hSz; (try dsimp only at hSz); go_simp; all_goals (with_reducible rfl)
      (try simp only [Act.put, List.setIfInBounds_toArray, List.set_cons_zero, List.set_cons_succ])
      refine wpAnyH_done (by kernel_rfl) ?_ _
      refine NoPanic.normal ?_
      go_wp2_with fail
      go_roundw
      case rel => exact ⟨k + c, by omega, by omega, by first | rfl | (congr 1; omega), HB3⟩
      case measure => (try simp only [wk]); simp [intOf]; omega
end Go.Proofs.YtcajejfddfiidaaDoor
