import Derived.Test.YtcajejfddfiidaaDoorInJ
import Derived.Test.YtcajejfddfiidaaDoorInH
import Derived.Test.YtcajejfddfiidaaDoorInM
namespace Go.Proofs.YtcajejfddfiidaaDoor
open Go.RowKit Go.Shelf
set_option linter.unusedVariables false
set_option linter.unusedSimpArgs false


theorem uc_map : ∀ L : List Int, cellsF uc L = L.map uv
  | [] => rfl
  | x :: L => by
    have := uc_map L
    unfold cellsF at this ⊢
    rw [List.flatMap_cons, this]
    rfl
/-- Between two rounds of Inputs. -/
structure ItV (w0 : World) (B : Nat) (L : List Int) (v : Value) (W : World) : Prop where
  list : Has W (w0.heap.size + 1 + 1) #[v]
  row : W.ownsRow (B + 2) 26 1 v L.length (cellsF uc L)
  r1 : Has W w0.heap.size #[.slice none 0 0]
  r2 : Has W (w0.heap.size + 1) #[.int .i64 0]
  bel : Below w0.heap.size w0 W
theorem ItV.only {w0 : World} {B : Nat} {L : List Int} {v : Value} {A C : World} {S : Nat → Prop} (h : ItV w0 B L v A) (ho : Only S A C) (h1 : ∀ k, k < w0.heap.size + 3 → ¬ S k) (h2 : ∀ k, B + 2 ≤ k → ¬ S k) : ItV w0 B L v C :=
  ⟨h.list.only ho (h1 _ (by omega)), own_only h.row ho h2, h.r1.only ho (h1 _ (by omega)), h.r2.only ho (h1 _ (by omega)), h.bel.trans ⟨ho.os, ho.tape, ho.output, ho.size, fun k hk => ho.block k (by have := h.bel.size; omega) (h1 _ (by omega))⟩⟩
theorem ItV.below {w0 : World} {B : Nat} {L : List Int} {v : Value} {A C : World} (h : ItV w0 B L v A) (hb : Below A.heap.size A C) : ItV w0 B L v C := h.only (Only.of_below (S := fun _ => False) hb) (fun _ _ h => h) (fun _ _ h => h)
set_option maxRecDepth 100000 in
set_option maxHeartbeats 2000000 in
theorem region7_any (w0 W : World) (B l n : Nat) (L : List Int) (v : Value) (N : Nat) (xv : Nat) (ds : List Deferred) (x0 x1 x2 x3 x5 x8 x9 x10 x11 x12 x13 x14 x15 x16 x17 x18 x19 x20 x21 x22 x23 x24 x25 x26 x27 x28 x29 x30 x31 x32 x33 : Value) (Q : Exit → Act → World → Prop)
    (hS : ItV w0 B L v W) (hB : w0.heap.size + 5 ≤ B) (hBW : B + 2 ≤ W.heap.size) (hN1 : 1 ≤ N) (hLN : L.length + N ≤ 65536)
    (hQ : ∀ a v' W', ItV w0 B (L ++ List.replicate N (xv : Int)) v' W' → W.heap.size ≤ W'.heap.size → (∀ k, (k = w0.heap.size + 1 + 1 + 1 ∨ k = w0.heap.size + 1 + 1 + 1 + 1 ∨ RgF B k) → k < W.heap.size → W'.heap[k]? = W.heap[k]?) → Q .normal a W') :
    (Code.region 7 #[{ dst := some 27, op := Op.load 22 (Operand.tmp 4), type := 22, pos := "inputs.go:22", after := #[], guard := none }, { dst := some 28, op := Op.move (Operand.tmp 7), type := 26, pos := "inputs.go:22", after := #[], guard := none }, { dst := some 29, op := Op.buildSlice 22 1 #[(0, Operand.tmp 28)], type := 22, pos := "inputs.go:22", after := #[{ on := 1, ground := Ground.data }], guard := none }, { dst := some 30, op := Op.move (Operand.tmp 6), type := 3, pos := "inputs.go:22", after := #[], guard := none }, { dst := some 31, op := Op.call { callee := Callee.value (Operand.func 17), args := #[Operand.tmp 29, Operand.tmp 30], argTypes := #[22, 3] }, type := 22, pos := "inputs.go:22", after := #[{ on := 2, ground := Ground.data }, { on := 3, ground := Ground.data }], guard := none }, { dst := some 32, op := Op.call { callee := Callee.builtin Builtin.append, args := #[Operand.tmp 27, Operand.tmp 31], argTypes := #[22, 22] }, type := 22, pos := "inputs.go:22", after := #[{ on := 0, ground := Ground.data }, { on := 4, ground := Ground.data }, { on := 4, ground := Ground.chain }], guard := none }, { dst := none, op := Op.store 22 (Operand.tmp 4) (Operand.tmp 32), type := 0, pos := "inputs.go:22", after := #[{ on := 5, ground := Ground.data }, { on := 5, ground := Ground.chain }, { on := 0, ground := Ground.phase }, { on := 1, ground := Ground.phase }, { on := 2, ground := Ground.phase }, { on := 3, ground := Ground.phase }, { on := 4, ground := Ground.phase }, { on := 5, ground := Ground.phase }], guard := none }] true).wpIn (Fence.wide.inRound l) n Tryd.prog Q { tmps := #[x0, x1, x2, x3, .pointer (some ⟨w0.heap.size + 1 + 1, 0, none⟩), x5, .int .i64 (N : Int), .int .u64 (xv : Int), x8, x9, x10, x11, x12, x13, x14, x15, x16, x17, x18, x19, x20, x21, x22, x23, x24, x25, x26, x27, x28, x29, x30, x31, x32, x33], defers := ds } W := by
  obtain ⟨ti, hi, hx⟩ := Option.map_eq_some_iff.1 infoU
  have hi0 : ti.zero = some (.int .u64 0) := congrArg (·.1) hx
  have hi1 : ti.size = 1 := congrArg (·.2.1) hx
  have hi2 : ti.bytes = 8 := congrArg (·.2.2) hx
  have hQ' : Hid _ := hQ
  have hvg : ∀ g, v.ownBlock = some g → g < W.heap.size := fun g hg => (own_lt hS.row g hg).2
  have hSd : ItV w0 B L v W.drew := hS.only (Only.refl (fun _ => False) _).drew (fun _ _ h => h) (fun _ _ h => h)
  have hS' : Hid (ItV w0 B L v W) := hS
  clear hQ hx hS
  refine wpIn_region_roundE (E := 6) (S := fun w' => w'.cell? ⟨w0.heap.size + 1 + 1, 0, none⟩ = some v) (by kernel_rfl) (by kernel_rfl) ?_ (fun hHeld => ?_)
  · exact hSd.list.2.1 0
  refine wpAnyE_take (i := 0) (oi := { dst := some 27, op := Op.load 22 (Operand.tmp 4), type := 22, pos := "inputs.go:22", after := #[], guard := none }) (v := ?_) rfl (by kernel_rfl) (by kernel_rfl) (by kernel_rfl) (by kernel_rfl) (fun _ _ _ h => nomatch h.1) (Or.inl ⟨by rfl, ?_⟩) (by assumption) ?_
  rotate_left
  · intro wz hSz; (try dsimp only at hSz); go_simp; all_goals (with_reducible rfl)
  (try simp only [Act.put, List.setIfInBounds_toArray, List.set_cons_zero, List.set_cons_succ])
  refine wpAnyE_take (i := 1) (oi := { dst := some 28, op := Op.move (Operand.tmp 7), type := 26, pos := "inputs.go:22", after := #[], guard := none }) (v := ?_) rfl (by kernel_rfl) (by kernel_rfl) (by kernel_rfl) (by kernel_rfl) (fun _ _ _ h => nomatch h.1) (Or.inl ⟨by rfl, ?_⟩) (by assumption) ?_
  rotate_left
  · intro wz hSz; (try dsimp only at hSz); go_simp; all_goals (with_reducible rfl)
  (try simp only [Act.put, List.setIfInBounds_toArray, List.set_cons_zero, List.set_cons_succ])
  refine wpAnyE_take (i := 3) (oi := { dst := some 30, op := Op.move (Operand.tmp 6), type := 3, pos := "inputs.go:22", after := #[], guard := none }) (v := ?_) rfl (by kernel_rfl) (by kernel_rfl) (by kernel_rfl) (by kernel_rfl) (fun _ _ _ h => nomatch h.1) (Or.inl ⟨by rfl, ?_⟩) (by assumption) ?_
  rotate_left
  · intro wz hSz; (try dsimp only at hSz); go_simp; all_goals (with_reducible rfl)
  (try simp only [Act.put, List.setIfInBounds_toArray, List.set_cons_zero, List.set_cons_succ])
  have sA : Only (fun _ => False) W (W.alloc (.cells #[.int .u64 (xv : Int)] 26)).drew := ((Only.refl _ _).alloc _).drew
  refine wpAnyE_one (i := 2) (o := { dst := some 29, op := Op.buildSlice 22 1 #[(0, Operand.tmp 28)], type := 22, pos := "inputs.go:22", after := #[{ on := 1, ground := Ground.data }], guard := none }) (by kernel_rfl) rfl (by rfl) (fun K hK => ?_)
  go_simp
  refine hK.out _ _ ?_ (fun hHeld => ?_)
  · have g1 := hSd.list.alloc (.cells #[.int .u64 (xv : Int)] 26)
    exact g1.2.1 0
  clear hK K
  (try simp only [Act.put, List.setIfInBounds_toArray, List.set_cons_zero, List.set_cons_succ])
  refine wpAnyE_one (i := 4) (o := { dst := some 31, op := Op.call { callee := Callee.value (Operand.func 17), args := #[Operand.tmp 29, Operand.tmp 30], argTypes := #[22, 3] }, type := 22, pos := "inputs.go:22", after := #[{ on := 2, ground := Ground.data }, { on := 3, ground := Ground.data }], guard := none }) (by kernel_rfl) rfl (by rfl) (fun K hK => ?_)
  have HSd := hS'.out.only sA (fun _ _ h => h) (fun _ _ h => h)
  have hne : Has (W.alloc (.cells #[.int .u64 (xv : Int)] 26)).drew W.heap.size #[.int .u64 (xv : Int)] := (Has.new W _ 26 rfl).drew
  have hW1 : (W.alloc (.cells #[.int .u64 (xv : Int)] 26)).drew.heap.size ≥ W.heap.size + 1 := by simp [World.drew]
  have hWk : ∀ k, k < W.heap.size → (W.alloc (.cells #[.int .u64 (xv : Int)] 26)).drew.heap[k]? = W.heap[k]? := fun k hk => sA.block k hk (fun h => h)
  generalize (W.alloc (.cells #[.int .u64 (xv : Int)] 26)).drew = W1 at *
  have k17 := repeatU_any (xv : Int) N ⟨W.heap.size, 0, none⟩ W1 (by omega) (by omega) (by
    intro j u hu
    rw [Go.WideShapes.add_plain, Nat.zero_add]
    rw [hne.2.1 j]
    have e : (#[Value.int .u64 (xv : Int)])[j]? = (uc (xv : Int))[j]? := by unfold uc; simp
    rw [e]; exact hu)
  clear hHeld hSd hne
  go_simp
  go_at_call 17
  refine Calls.mono k17 ?_
  rintro r W3 ⟨rfl, hR3, hB3⟩
  go_wp2_with fail
  have hz3 := hB3.size
  have HS3 := HSd.below hB3
  have hW3k : ∀ k, k < W.heap.size → W3.heap[k]? = W.heap[k]? := fun k hk => (hB3.block k (by omega)).trans (hWk k hk)
  refine hK.out _ _ (HS3.list.2.1 0) (fun hHeld => ?_)
  clear hK K k17 HSd
  (try simp only [Act.put, List.setIfInBounds_toArray, List.set_cons_zero, List.set_cons_succ])
  refine wpAnyE_one (i := 5) (o := { dst := some 32, op := Op.call { callee := Callee.builtin Builtin.append, args := #[Operand.tmp 27, Operand.tmp 31], argTypes := #[22, 22] }, type := 22, pos := "inputs.go:22", after := #[{ on := 0, ground := Ground.data }, { on := 4, ground := Ground.data }, { on := 4, ground := Ground.chain }], guard := none }) (by kernel_rfl) rfl (by rfl) (fun K hK => ?_)
  refine wp_append_own _ _ _ 22 rfl (B + 2) 26 ti _ 1 8 Tryd.underlying22 hi hi0 hi1 hi2 rfl (by decide) v L.length (cellsF uc L) rfl HS3.row ⟨W1.heap.size, 0, none⟩ N N (cellsF uc (List.replicate N (xv : Int))) rfl (repc_cells N _) (hR3.cells (g := W1.heap.size) rfl) (cellsF_one uc_one _) (by unfold maxLen; omega) (by omega) (by omega) ?_
  intro v' W4 ho4 hg4 _
  have hvb : ∀ g, v.ownBlock = some g → B + 2 ≤ g ∧ g < W.heap.size := fun g hg => ⟨(own_lt HS3.row g hg).1, hvg g hg⟩
  have O4 : Only (fun k => B + 2 ≤ k ∧ k < W.heap.size) W3 W4 := ⟨hg4.os, hg4.tape, hg4.output, hg4.size, fun k hk hn => hg4.block k hk (fun e => hn (hvb k e.symm))⟩
  have g1 := HS3.list.only O4 (by omega)
  have g3 := HS3.r1.only O4 (by omega)
  have g4 := HS3.r2.only O4 (by omega)
  have g5 : Below w0.heap.size w0 W4 := HS3.bel.trans ⟨O4.os, O4.tape, O4.output, O4.size, fun k hk => O4.block k (by have := HS3.bel.size; omega) (by omega)⟩
  have hz4 := O4.size
  have g6 : ∀ k, (k = w0.heap.size + 1 + 1 + 1 ∨ k = w0.heap.size + 1 + 1 + 1 + 1 ∨ RgF B k) → k < W.heap.size → W4.heap[k]? = W.heap[k]? := fun k hk hlt => (O4.block k (by omega) (by unfold RgF at hk; omega)).trans (hW3k k hlt)
  refine hK.out _ _ (g1.2.1 0) (fun hHeld => ?_)
  clear hK K
  (try simp only [Act.put, List.setIfInBounds_toArray, List.set_cons_zero, List.set_cons_succ])
  refine wpAnyE_last (o := { dst := none, op := Op.store 22 (Operand.tmp 4) (Operand.tmp 32), type := 0, pos := "inputs.go:22", after := #[{ on := 5, ground := Ground.data }, { on := 5, ground := Ground.chain }, { on := 0, ground := Ground.phase }, { on := 1, ground := Ground.phase }, { on := 2, ground := Ground.phase }, { on := 3, ground := Ground.phase }, { on := 4, ground := Ground.phase }, { on := 5, ground := Ground.phase }], guard := none }) (by kernel_rfl) rfl (by kernel_rfl) (by rfl) (fun K hK => ?_)
  obtain ⟨l0, L1, l2⟩ := id g1
  obtain ⟨a', c', rfl⟩ := own_slice' ho4
  go_simp
  refine hK _ _ ⟨rfl, hQ'.out _ _ _ ⟨g1.set 0 (by simp) _, ?_, g3.far (by omega) _, g4.far (by omega) _, g5.setCell (by show w0.heap.size ≤ w0.heap.size + 1 + 1; omega) _⟩ ?_ ?_⟩
  · have hsl : Only (fun k => k = w0.heap.size + 1 + 1) W4 (W4.setCell ⟨w0.heap.size + 1 + 1, 0, none⟩ (.slice a' (L.length + N) c')) := (Only.refl (fun k => k = w0.heap.size + 1 + 1) W4).set (b := w0.heap.size + 1 + 1) (i := 0) rfl _
    rw [cellsF_append, List.length_append, List.length_replicate]
    exact own_only ho4 hsl (fun k hk => by show ¬ (k = w0.heap.size + 1 + 1); omega)
  · simp [World.setCell]; omega
  · intro k hk hlt
    exact (Below.heap_setCell _ _ _ _ (by show k ≠ w0.heap.size + 1 + 1; unfold RgF at hk; omega)).trans (g6 k hk hlt)
end Go.Proofs.YtcajejfddfiidaaDoor
