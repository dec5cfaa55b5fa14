import Derived.Lib.SlBuf
import Derived.Laws.CopyRow
import Derived.Laws.CopyOwn
import Derived.Laws.MakeOwn
import Derived.Lib.SliceRun
import Derived.Deep.RegionHeld
import Derived.Deep.RegionHeld3
import Derived.Test.YtcajejfddfiidaaDoorDrS
namespace Go.Proofs.YtcajejfddfiidaaDoor
open Go.RowKit
set_option linter.unusedVariables false
set_option linter.unusedSimpArgs false


theorem run_copy_rowS {P : Program} (w : World) (dT sT ty elem : TypeId) (sz g o dLen dCap : Nat) (a : Addr) (sLen sCap : Nat) (cur : Array Value) (t : TypeId) (cs : List Value)
    (hu : P.underlying dT = some (.slice elem)) (hs : (P.info? elem).map (·.size) = some sz)
    (hg : w.heap[g]? = some (.cells cur t (0, 0))) (hn : cs.length = Nat.min sLen dLen * sz)
    (hsrc : ∀ j v, cs[j]? = some v → w.cell? (a.add j) = some v) (hfit : o + cs.length ≤ cur.size) (h1 : ∀ v ∈ cs, v.oneCell' = true) :
    (Builtin.copy_ #[dT, sT] ty #[.slice (some ⟨g, o, none⟩) dLen dCap, .slice (some a) sLen sCap]).run P w =
      .ok (goInt (Nat.min sLen dLen)) (w.setRow g (cur.toList.take o ++ cs ++ cur.toList.drop (o + cs.length)).toArray) := by
  have hl := run_loadCells_list (P := P) w a cs hsrc
  have hst := run_storeCells_at P g o t cs 0 cur w hg (by simpa using hfit) h1
  cases hq : P.info? elem with
  | none => simp [hq] at hs
  | some i =>
    have hi : i.size = sz := by simpa [hq] using hs
    simp [Builtin.copy_, run_underlying hu, Builtin.lenOf, Builtin.firstCells, sizeOf, typeInfo, hq, hi, ← hn, hl, hst]
/-- A buffer of entries, filled from the front. -/
structure RB (w0 wr : World) (N : Nat) (e : En) (k : Nat) : Prop where
  below : Below w0.heap.size w0 wr
  fits : k ≤ N
  row : ∃ cur, wr.heap[w0.heap.size]? = some (.cells cur 34 (0, 0)) ∧ cur.size = N * 2 ∧ cur.toList.take (k * 2) = cellsF En.cs (List.replicate k e)
theorem rep_cells (k : Nat) (e : En) : (cellsF En.cs (List.replicate k e)).length = k * 2 := by rw [cellsF_len en_len]; simp
theorem RB.drew {w0 wr : World} {N : Nat} {e : En} {k : Nat} (h : RB w0 wr N e k) : RB w0 wr.drew N e k := ⟨h.below.drew, h.fits, h.row⟩
theorem rep_app (k c : Nat) (e : En) : cellsF En.cs (List.replicate (k + c) e) = cellsF En.cs (List.replicate k e) ++ cellsF En.cs (List.replicate c e) := by rw [← List.replicate_append_replicate, cellsF_append]
theorem RB.copy {w0 wr : World} {N : Nat} {e : En} {k : Nat} (h : RB w0 wr N e k) (a : Addr) (m cap c : Nat) (hc : Nat.min m (N - k) = c) (hsrc : ∀ j v, (cellsF En.cs (List.replicate c e))[j]? = some v → wr.cell? (a.add j) = some v) :
    ∃ wr', (Builtin.copy_ #[28, 28] 3 #[.slice (some ⟨w0.heap.size, k * 2, none⟩) (N - k) (N - k), .slice (some a) m cap]).run Tryd.prog wr = .ok (.int .i64 (c : Int)) wr' ∧ RB w0 wr' N e (k + c) := by
  obtain ⟨cur, h1, h2, h3⟩ := h.row
  have hcN : k + c ≤ N := by have := Nat.min_le_right m (N - k); have := h.fits; have e : Nat.min m (N - k) = min m (N - k) := rfl; omega
  have hl := rep_cells c e
  have hr := run_copy_rowS (P := Tryd.prog) wr 28 28 3 34 2 w0.heap.size (k * 2) (N - k) (N - k) a m cap cur 34 (cellsF En.cs (List.replicate c e)) Tryd.underlying28 (by kernel_rfl) h1 (by rw [hc]; exact hl) hsrc (by rw [hl, h2]; omega) (cellsF_one en_one _)
  rw [hc] at hr
  refine ⟨_, hr, below_setRow h.below (Nat.le_refl _) _, hcN, _, setRow_heap _ _ _ _ _ _ h1, ?_, ?_⟩
  · have hcl : cur.toList.length = N * 2 := by simpa using h2
    simp [hl, hcl]
    omega
  · have hcl : cur.toList.length = N * 2 := by simpa using h2
    rw [List.toList_toArray, h3, rep_app, show (k + c) * 2 = (cellsF En.cs (List.replicate k e) ++ cellsF En.cs (List.replicate c e)).length by rw [List.length_append, rep_cells, hl]; omega, List.take_left' rfl]
theorem size34 (W : World) : (Go.sizeOf 34).run Tryd.prog W = .ok 2 W := by kernel_rfl
theorem sl_tail (W : World) (g N k : Nat) (hk : k < N) : (Instr.slice 28 (.slice (some ⟨g, 0, none⟩) N N) (some (.int .i64 (k : Int))) none none).run Tryd.prog W = .ok (.slice (some ⟨g, k * 2, none⟩) (N - k) (N - k)) W := by
  have ht' : Tryd.prog.underlying 28 = some (.slice (Tryd.prog.elem 28)) := by simp [Program.elem, Tryd.underlying28]
  have he : Tryd.prog.elem 28 = 34 := by simp [Program.elem, Tryd.underlying28]
  rw [run_slice_l W 28 _ _ _ ht' .i64 _ (by omega) (by omega), he, size34 W]
  have h1 : ¬ N = k := by omega
  simp [Result.andThen, sliced, Addr.add, h1]
  try omega
theorem sl_head (W : World) (g N k : Nat) (hk : k ≤ N) : (Instr.slice 28 (.slice (some ⟨g, 0, none⟩) N N) none (some (.int .i64 (k : Int))) none).run Tryd.prog W = .ok (.slice (some ⟨g, 0, none⟩) k N) W := by
  have ht' : Tryd.prog.underlying 28 = some (.slice (Tryd.prog.elem 28)) := by simp [Program.elem, Tryd.underlying28]
  have he : Tryd.prog.elem 28 = 34 := by simp [Program.elem, Tryd.underlying28]
  rw [run_slice_h W 28 _ _ _ ht' .i64 _ (by omega) (by omega), he, size34 W]
  simp [Result.andThen, sliced, Addr.add]
set_option maxRecDepth 100000 in
set_option maxHeartbeats 2000000 in
theorem repeatE_any (e : En) (N : Nat) (ad : Addr) (w : World) (h1 : 1 ≤ N) (h2 : N ≤ 65536) (hsrc : ∀ j v, e.cs[j]? = some v → w.cell? (ad.add j) = some v) :
    Calls Tryd.prog 22 #[.slice (some ad) 1 1, .int .i64 (N : Int)] w fun r w' => r = .returned (.slice (some ⟨w.heap.size, 0, none⟩) N N) ∧ w'.ownsRow w.heap.size 34 2 (.slice (some ⟨w.heap.size, 0, none⟩) N N) N (cellsF En.cs (List.replicate N e)) ∧ Below w.heap.size w w' := by
  have h35 := fun (X : World) => Tryd.bits_Mul 1 N (by decide) (by omega) X
  rw [show 1 * N / 18446744073709551616 = 0 by omega, show 1 * N % 18446744073709551616 = N by omega] at h35
  obtain ⟨ti, hi, hx⟩ := Option.map_eq_some_iff.1 infoN
  have hi0 : ti.zero = some (.agg #[.string ⟨#[]⟩, .int .i64 0]) := congrArg (·.1) hx
  have hi1 : ti.size = 2 := congrArg (·.2.1) hx
  have hi2 : ti.bytes = 24 := congrArg (·.2.2) hx
  have hmk : (Instr.makeSlice 28 (.int .i64 (N : Int)) (.int .i64 (N : Int))).run Tryd.prog w = .ok (.slice (some ⟨w.heap.size, 0, none⟩) N N) (w.alloc (.cells (madeCells (Value.agg #[.string ⟨#[]⟩, .int .i64 0]).cells (N * 2)) 34)) := by
    have := run_make (P := Tryd.prog) w 28 34 ti _ Tryd.underlying28 hi hi0 .i64 .i64 (N : Int) (N : Int) (by omega) (by omega) (by rw [hi2]; omega) (by omega)
    rw [this, hi1, Int.toNat_natCast]
  have hsz : (madeCells (Value.agg #[.string ⟨#[]⟩, .int .i64 0]).cells (N * 2)).size = N * 2 := size_madeCells _ _
  generalize madeCells (Value.agg #[.string ⟨#[]⟩, .int .i64 0]).cells (N * 2) = MA at *
  have B0 : RB w (w.alloc (.cells MA 34)) N e 0 := ⟨(Below.refl _ _).alloc (Nat.le_refl _) _, Nat.zero_le _, MA, by unfold World.alloc; simp, hsz, by simp [cellsF]⟩
  have hlt : ∀ j v, e.cs[j]? = some v → (w.alloc (.cells MA 34)).cell? (ad.add j) = some v := fun j v hv => Lib.cell?_alloc_some _ (hsrc j v hv)
  obtain ⟨w1, hr1, B1⟩ := B0.copy ad 1 1 1 (by show min 1 (N - 0) = 1; omega) (by simpa [cellsF] using hlt)
  rw [Nat.zero_mul, Nat.sub_zero] at hr1
  rw [Nat.zero_add] at B1
  have B1' : Hid (RB w w1 N e 1) := B1
  have i0 : (0 : Int) ≤ (N : Int) := by omega
  have i1 : ¬ (N : Int) < 0 := by omega
  clear B0 B1 hlt
  generalize hW : w.alloc (.cells MA 34) = W at *
  go_enter Tryd.func22, Tryd.ntmps22
  go_wp2_with (first | (go_at_call 35; (with_reducible refine Calls.mono (h35 _) ?_); rintro r w2 ⟨rfl, hw2⟩; have hw3 := hw2.symm; clear hw2; subst hw3) | (at_builtin; refine Lib.wpList_copy_run _ rfl _ _ 28 28 rfl _ _ rfl rfl hr1 ?_))
  go_loopw [8] (fun s wr => ∃ k : Nat, 1 ≤ k ∧ k ≤ N ∧ s = .int .i64 (k : Int) ∧ Hid (RB w wr N e k)) (fun s _ => N - (intOf s).toNat)
  case atStart => exact ⟨1, by omega, by omega, rfl, B1'⟩
  case round =>
    obtain ⟨k, hk1, hk2, rfl, HB'⟩ := hrel
    have HB := HB'.out
    clear HB'
    by_cases hltk : k < N
    case neg =>
      obtain rfl : k = N := by omega
      have t1 : ¬ (k : Int) < (k : Int) := by omega
      go_wp2_with fail
      go_ret
      obtain ⟨cur, q1, q2, q3⟩ := HB.row
      exact ⟨rfl, ⟨rep_cells k e, .inr ⟨w.heap.size, k, cur, rfl, Nat.le_refl _, q1, Nat.le_refl _, by unfold maxLen; omega, q2, q3⟩⟩, HB.below⟩
    have t1 : (k : Int) < (N : Int) := by omega
    have hsl1 := fun (X : World) => sl_tail X w.heap.size N k hltk
    have hsl2 := fun (X : World) => sl_head X w.heap.size N k hk2
    obtain ⟨c, hc⟩ : ∃ c, Nat.min k (N - k) = c := ⟨_, rfl⟩
    have hc1 : 1 ≤ c ∧ k + c ≤ N := by have e : Nat.min k (N - k) = min k (N - k) := rfl; omega
    obtain ⟨w3, hr2, HB3⟩ := HB.drew.copy ⟨w.heap.size, 0, none⟩ k N c hc (fun j v hv => by
      obtain ⟨cur, q1, q2, q3⟩ := HB.row
      have hj : j < c * 2 := by have := (List.getElem?_eq_some_iff.1 hv).1; rw [rep_cells] at this; exact this
      rw [Go.WideShapes.add_plain, Nat.zero_add]
      show wr.cell? ⟨w.heap.size, j, none⟩ = some v
      have hck : c ≤ k := by have e : Nat.min k (N - k) = min k (N - k) := rfl; omega
      have e1 : cur[j]? = (cur.toList.take (k * 2))[j]? := by rw [List.getElem?_take, if_pos (by omega)]; simp
      simp only [World.cell?, q1]
      rw [e1, q3, show k = c + (k - c) by omega, rep_app, List.getElem?_append_left (by rw [rep_cells]; exact hj)]
      exact hv)
    have wk : IntKind.i64.wrap ((k : Int) + (c : Int)) = (k : Int) + (c : Int) := wrap64 _ (by omega)
    · skip
      go_upto_region 9 with fail
      refine wp_region_noPanic ?_
      refine wp_region_held_drew (S := fun w' => True) (by kernel_rfl) ?_ (fun hHeld => ?_)
      · (try dsimp only)
        all_goals trivial
      refine wpAnyH_take (i := 0) (oi := { dst := some 38, op := Op.move (Operand.tmp 8), type := 3, pos := "slices.go:528", after := #[], guard := none }) (v := ?_) rfl (by kernel_rfl) (by kernel_rfl) (by kernel_rfl) (fun _ _ _ h => h) (Or.inl ⟨by rfl, ?_⟩) (by assumption) ?_
      rotate_left
      · intro wz hSz; (try dsimp only at hSz); go_simp; all_goals (with_reducible rfl)
      (try simp only [Act.put, List.setIfInBounds_toArray, List.set_cons_zero, List.set_cons_succ])
      refine wpAnyH_take (i := 1) (oi := { dst := some 39, op := Op.move (Operand.tmp 7), type := 28, pos := "slices.go:528", after := #[], guard := none }) (v := ?_) rfl (by kernel_rfl) (by kernel_rfl) (by kernel_rfl) (fun _ _ _ h => h) (Or.inl ⟨by rfl, ?_⟩) (by assumption) ?_
      rotate_left
      · intro wz hSz; (try dsimp only at hSz); go_simp; all_goals (with_reducible rfl)
      (try simp only [Act.put, List.setIfInBounds_toArray, List.set_cons_zero, List.set_cons_succ])
      refine wpAnyH_take (i := 2) (oi := { dst := some 40, op := Op.move (Operand.tmp 8), type := 3, pos := "slices.go:528", after := #[], guard := none }) (v := ?_) rfl (by kernel_rfl) (by kernel_rfl) (by kernel_rfl) (fun _ _ _ h => h) (Or.inl ⟨by rfl, ?_⟩) (by assumption) ?_
      rotate_left
      · intro wz hSz; (try dsimp only at hSz); go_simp; all_goals (with_reducible rfl)
      (try simp only [Act.put, List.setIfInBounds_toArray, List.set_cons_zero, List.set_cons_succ])
      refine wpAnyH_take (i := 3) (oi := { dst := some 41, op := Op.slice 28 (Operand.tmp 39) (some (Operand.tmp 40)) none none, type := 28, pos := "slices.go:528", after := #[{ on := 1, ground := Ground.data }, { on := 2, ground := Ground.data }], guard := none }) (v := ?_) rfl (by kernel_rfl) (by kernel_rfl) (by kernel_rfl) (fun _ _ _ h => h) (Or.inl ⟨by rfl, ?_⟩) (by assumption) ?_
      rotate_left
      · intro wz hSz; (try dsimp only at hSz); go_simp; all_goals (with_reducible rfl)
      (try simp only [Act.put, List.setIfInBounds_toArray, List.set_cons_zero, List.set_cons_succ])
      refine wpAnyH_take (i := 4) (oi := { dst := some 42, op := Op.move (Operand.tmp 7), type := 28, pos := "slices.go:528", after := #[], guard := none }) (v := ?_) rfl (by kernel_rfl) (by kernel_rfl) (by kernel_rfl) (fun _ _ _ h => h) (Or.inl ⟨by rfl, ?_⟩) (by assumption) ?_
      rotate_left
      · intro wz hSz; (try dsimp only at hSz); go_simp; all_goals (with_reducible rfl)
      (try simp only [Act.put, List.setIfInBounds_toArray, List.set_cons_zero, List.set_cons_succ])
      refine wpAnyH_take (i := 5) (oi := { dst := some 43, op := Op.move (Operand.tmp 8), type := 3, pos := "slices.go:528", after := #[], guard := none }) (v := ?_) rfl (by kernel_rfl) (by kernel_rfl) (by kernel_rfl) (fun _ _ _ h => h) (Or.inl ⟨by rfl, ?_⟩) (by assumption) ?_
      rotate_left
      · intro wz hSz; (try dsimp only at hSz); go_simp; all_goals (with_reducible rfl)
      (try simp only [Act.put, List.setIfInBounds_toArray, List.set_cons_zero, List.set_cons_succ])
      refine wpAnyH_take (i := 6) (oi := { dst := some 44, op := Op.slice 28 (Operand.tmp 42) none (some (Operand.tmp 43)) none, type := 28, pos := "slices.go:528", after := #[{ on := 4, ground := Ground.data }, { on := 5, ground := Ground.data }], guard := none }) (v := ?_) rfl (by kernel_rfl) (by kernel_rfl) (by kernel_rfl) (fun _ _ _ h => h) (Or.inl ⟨by rfl, ?_⟩) (by assumption) ?_
      rotate_left
      · intro wz hSz; (try dsimp only at hSz); go_simp; all_goals (with_reducible rfl)
      (try simp only [Act.put, List.setIfInBounds_toArray, List.set_cons_zero, List.set_cons_succ])
      refine wpAnyH_ready (rs := [7]) (by kernel_rfl) (by simp) ?_
      refine AllReadyH.cons (o := { dst := some 45, op := Op.call { callee := Callee.builtin Builtin.copy, args := #[Operand.tmp 41, Operand.tmp 44], argTypes := #[28, 28] }, type := 3, pos := "slices.go:528", after := #[{ on := 3, ground := Ground.data }, { on := 6, ground := Ground.data }], guard := none }) rfl (fun K hK => ?_) AllReadyH.nil
      rw [if_pos (show Region.wanted _ _ = true from by rfl)]
      refine Lib.wp_copy_run _ _ _ 28 28 rfl _ _ rfl rfl hr2 ?_
      refine hK.out _ _ trivial (fun hHeld => ?_)
      clear hK K
      (try simp only [Act.put, List.setIfInBounds_toArray, List.set_cons_zero, List.set_cons_succ])
      refine wpAnyH_take (i := 8) (oi := { dst := some 46, op := Op.binOp BinOp.add 3 (Operand.tmp 38) (Operand.tmp 45) 3, type := 3, pos := "slices.go:528", after := #[{ on := 0, ground := Ground.data }, { on := 7, ground := Ground.data }], guard := none }) (v := ?_) rfl (by kernel_rfl) (by kernel_rfl) (by kernel_rfl) (fun _ _ _ h => h) (Or.inl ⟨by rfl, ?_⟩) (by assumption) ?_
      rotate_left
      · intro wz hSz; (try dsimp only at hSz); go_simp; all_goals (with_reducible rfl)
      (try simp only [Act.put, List.setIfInBounds_toArray, List.set_cons_zero, List.set_cons_succ])
      refine wpAnyH_take (i := 9) (oi := { dst := some 8, op := Op.assign (Operand.tmp 46), type := 3, pos := "slices.go:528", after := #[{ on := 8, ground := Ground.data }, { on := 7, ground := Ground.chain }, { on := 0, ground := Ground.phase }, { on := 1, ground := Ground.phase }, { on := 2, ground := Ground.phase }, { on := 3, ground := Ground.phase }, { on := 4, ground := Ground.phase }, { on := 5, ground := Ground.phase }, { on := 6, ground := Ground.phase }, { on := 7, ground := Ground.phase }, { on := 8, ground := Ground.phase }], guard := none }) (v := ?_) rfl (by kernel_rfl) (by kernel_rfl) (by kernel_rfl) (fun _ _ _ h => h) (Or.inl ⟨by rfl, ?_⟩) (by assumption) ?_
      rotate_left
      · intro wz hSz; (try dsimp only at hSz); go_simp; all_goals (with_reducible rfl)
      (try simp only [Act.put, List.setIfInBounds_toArray, List.set_cons_zero, List.set_cons_succ])
      refine wpAnyH_done (by kernel_rfl) ?_ _
      refine NoPanic.normal ?_
      go_wp2_with fail
      go_roundw
      case rel => exact ⟨k + c, by omega, by omega, by first | rfl | (congr 1; omega), HB3⟩
      case measure => (try simp only [wk]); simp [intOf]; omega
end Go.Proofs.YtcajejfddfiidaaDoor
