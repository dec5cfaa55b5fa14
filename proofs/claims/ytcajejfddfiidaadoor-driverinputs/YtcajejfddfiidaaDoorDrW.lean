import Derived.Test.YtcajejfddfiidaaDoorDrV
namespace Go.Proofs.YtcajejfddfiidaaDoor
open Go.RowKit Go.Shelf
set_option linter.unusedVariables false
set_option linter.unusedSimpArgs false


/-- Between two rounds of Retrace: its list, its results' cells. w0: where the call began. -/
structure RtV (w0 : World) (B : Nat) (L : List En) (v : Value) (W : World) : Prop where
  list : Has W (w0.heap.size + 1 + 1) #[v]
  row : W.ownsRow (B + 2) 34 2 v L.length (cellsF En.cs L)
  r1 : Has W w0.heap.size #[.slice none 0 0]
  r2 : Has W (w0.heap.size + 1) #[.int .i64 0]
  bel : Below w0.heap.size w0 W
theorem own_slice' {w : World} {base e size n : Nat} {v : Value} {xs : List Value} (h : w.ownsRow base e size v n xs) : ∃ a c, v = .slice a n c := by
  rcases h.2 with ⟨h, h0⟩ | ⟨g', c', _, h, _⟩
  · exact ⟨none, 0, by rw [h, h0]⟩
  · exact ⟨_, _, h⟩
theorem RtV.only {w0 : World} {B : Nat} {L : List En} {v : Value} {A C : World} {S : Nat → Prop} (h : RtV w0 B L v A) (ho : Only S A C) (h1 : ∀ k, k < w0.heap.size + 3 → ¬ S k) (h2 : ∀ k, B + 2 ≤ k → ¬ S k) : RtV w0 B L v C :=
  ⟨h.list.only ho (h1 _ (by omega)), own_only h.row ho h2, h.r1.only ho (h1 _ (by omega)), h.r2.only ho (h1 _ (by omega)), h.bel.trans ⟨ho.os, ho.tape, ho.output, ho.size, fun k hk => ho.block k (by have := h.bel.size; omega) (h1 _ (by omega))⟩⟩
theorem RtV.below {w0 : World} {B : Nat} {L : List En} {v : Value} {A C : World} (h : RtV w0 B L v A) (hb : Below A.heap.size A C) : RtV w0 B L v C := h.only (Only.of_below (S := fun _ => False) hb) (fun _ _ h => h) (fun _ _ h => h)

set_option maxRecDepth 100000 in
set_option maxHeartbeats 2000000 in
theorem region8_any (w0 W : World) (B t6 l n : Nat) (L : List En) (v : Value) (h : ByteArray) (s : Int) (b : Nat) (ds : List Deferred) (x0 x1 x5 x7 x8 x9 x10 x11 x12 x13 x14 x15 x16 x17 x18 x19 x20 x21 x22 x23 x24 x25 x26 x27 x28 x29 x30 x31 x32 x33 x34 x35 x36 x37 x38 x39 x40 x41 x42 x43 x44 x45 x46 x47 x48 x49 x50 x51 x52 x53 x54 x55 x56 x57 x58 : Value) (Q : Exit → Act → World → Prop)
    (hS : RtV w0 B L v W) (h6 : Has W t6 #[.string h, .int .i64 s, .int .i64 (L.length : Int), .int .i64 (b : Int)]) (hB : w0.heap.size + 4 ≤ B) (hB6 : B + 2 ≤ t6) (hv6 : ∀ g, v.ownBlock = some g → g < t6) (h1 : L.length ≤ b) (h2 : b < 65536)
    (hQ : ∀ a v' W', RtV w0 B (L ++ List.replicate (b + 1 - L.length) ⟨h, s⟩) v' W' → W.heap.size ≤ W'.heap.size → (∀ k, RgL B (w0.heap.size + 1 + 1 + 1) k → k < W.heap.size → W'.heap[k]? = W.heap[k]?) → Q .normal a W') :
    (Code.region 8 #[{ dst := some 46, op := Op.load 28 (Operand.tmp 4), type := 28, pos := "trace.go:47", after := #[], guard := none }, { dst := some 47, op := Op.fieldAddr 50 (Operand.tmp 6) 0, type := 0, pos := "trace.go:47", after := #[], guard := none }, { dst := some 48, op := Op.load 34 (Operand.tmp 47), type := 34, pos := "trace.go:47", after := #[{ on := 1, ground := Ground.data }], guard := none }, { dst := some 49, op := Op.buildSlice 28 1 #[(0, Operand.tmp 48)], type := 28, pos := "trace.go:47", after := #[{ on := 2, ground := Ground.data }], guard := none }, { dst := some 50, op := Op.fieldAddr 50 (Operand.tmp 6) 2, type := 0, pos := "trace.go:47", after := #[], guard := none }, { dst := some 51, op := Op.load 3 (Operand.tmp 50), type := 3, pos := "trace.go:47", after := #[{ on := 4, ground := Ground.data }], guard := none }, { dst := some 52, op := Op.fieldAddr 50 (Operand.tmp 6) 1, type := 0, pos := "trace.go:47", after := #[], guard := none }, { dst := some 53, op := Op.load 3 (Operand.tmp 52), type := 3, pos := "trace.go:47", after := #[{ on := 6, ground := Ground.data }], guard := none }, { dst := some 54, op := Op.binOp BinOp.sub 3 (Operand.tmp 51) (Operand.tmp 53) 3, type := 3, pos := "trace.go:47", after := #[{ on := 5, ground := Ground.data }, { on := 7, ground := Ground.data }], guard := none }, { dst := some 55, op := Op.binOp BinOp.add 3 (Operand.tmp 54) (Operand.const (Value.int IntKind.i64 1)) 3, type := 3, pos := "trace.go:47", after := #[{ on := 8, ground := Ground.data }], guard := none }, { dst := some 56, op := Op.call { callee := Callee.value (Operand.func 22), args := #[Operand.tmp 49, Operand.tmp 55], argTypes := #[28, 3] }, type := 28, pos := "trace.go:47", after := #[{ on := 3, ground := Ground.data }, { on := 9, ground := Ground.data }], guard := none }, { dst := some 57, op := Op.call { callee := Callee.builtin Builtin.append, args := #[Operand.tmp 46, Operand.tmp 56], argTypes := #[28, 28] }, type := 28, pos := "trace.go:47", after := #[{ on := 0, ground := Ground.data }, { on := 10, ground := Ground.data }, { on := 10, ground := Ground.chain }], guard := none }, { dst := none, op := Op.store 28 (Operand.tmp 4) (Operand.tmp 57), type := 0, pos := "trace.go:47", after := #[{ on := 11, ground := Ground.data }, { on := 11, ground := Ground.chain }, { on := 0, ground := Ground.phase }, { on := 1, ground := Ground.phase }, { on := 2, ground := Ground.phase }, { on := 3, ground := Ground.phase }, { on := 4, ground := Ground.phase }, { on := 5, ground := Ground.phase }, { on := 6, ground := Ground.phase }, { on := 7, ground := Ground.phase }, { on := 8, ground := Ground.phase }, { on := 9, ground := Ground.phase }, { on := 10, ground := Ground.phase }, { on := 11, ground := Ground.phase }], guard := none }] true).wpIn (Fence.wide.inRound l) n Tryd.prog Q { tmps := #[x0, x1, .pointer (some ⟨w0.heap.size, 0, none⟩), .pointer (some ⟨w0.heap.size + 1, 0, none⟩), .pointer (some ⟨w0.heap.size + 1 + 1, 0, none⟩), x5, .pointer (some ⟨t6, 0, none⟩), x7, x8, x9, x10, x11, x12, x13, x14, x15, x16, x17, x18, x19, x20, x21, x22, x23, x24, x25, x26, x27, x28, x29, x30, x31, x32, x33, x34, x35, x36, x37, x38, x39, x40, x41, x42, x43, x44, x45, x46, x47, x48, x49, x50, x51, x52, x53, x54, x55, x56, x57, x58], defers := ds } W := by
  obtain ⟨D, hD⟩ : ∃ D : Nat, (b : Int) - (L.length : Int) = (D : Int) := ⟨b - L.length, by omega⟩
  obtain ⟨N, hN⟩ : ∃ N : Nat, (D : Int) + 1 = (N : Int) := ⟨D + 1, by omega⟩
  have hNe : b + 1 - L.length = N := by omega
  have q1 : IntKind.i64.wrap ((b : Int) - (L.length : Int)) = (D : Int) := by rw [hD]; exact wrap64 _ (by omega)
  have q2 : IntKind.i64.wrap ((D : Int) + 1) = (N : Int) := by rw [hN]; exact wrap64 _ (by omega)
  rw [hNe] at hQ
  have hN1 : 1 ≤ N := by omega
  have hN2 : N ≤ 65536 := by omega
  have hLN : L.length + N ≤ b + 1 := by omega
  clear hD hN hNe
  obtain ⟨ti, hi, hx⟩ := Option.map_eq_some_iff.1 infoN
  have hi0 : ti.zero = some (.agg #[.string ⟨#[]⟩, .int .i64 0]) := congrArg (·.1) hx
  have hi1 : ti.size = 2 := congrArg (·.2.1) hx
  have hi2 : ti.bytes = 24 := congrArg (·.2.2) hx
  have hQ' : Hid _ := hQ
  have hSd : RtV w0 B L v W.drew := hS.only (Only.refl (fun _ => False) _).drew (fun _ _ h => h) (fun _ _ h => h)
  have h6d : Has W.drew t6 #[.string h, .int .i64 s, .int .i64 (L.length : Int), .int .i64 (b : Int)] := h6.drew
  have hS' : Hid (RtV w0 B L v W) := hS
  have h6' : Hid (Has W t6 #[.string h, .int .i64 s, .int .i64 (L.length : Int), .int .i64 (b : Int)]) := h6
  clear hQ hx hS h6
  have hz6 : t6 < W.heap.size := h6d.1
  refine wpIn_region_roundE (E := 12) (S := fun w' => w'.cell? ⟨w0.heap.size + 1 + 1, 0, none⟩ = some v ∧ w'.cell? ⟨t6, 0, none⟩ = some (.string h) ∧ w'.cell? ⟨t6, 1, none⟩ = some (.int .i64 s) ∧ w'.cell? ⟨t6, 2, none⟩ = some (.int .i64 (L.length : Int)) ∧ w'.cell? ⟨t6, 3, none⟩ = some (.int .i64 (b : Int))) (by kernel_rfl) (by kernel_rfl) ?_ (fun hHeld => ?_)
  · exact ⟨hSd.list.2.1 0, h6d.2.1 0, h6d.2.1 1, h6d.2.1 2, h6d.2.1 3⟩
  refine wpAnyE_take (i := 0) (oi := { dst := some 46, op := Op.load 28 (Operand.tmp 4), type := 28, pos := "trace.go:47", after := #[], guard := none }) (v := ?_) rfl (by kernel_rfl) (by kernel_rfl) (by kernel_rfl) (by kernel_rfl) (fun _ _ _ h => nomatch h.1) (Or.inl ⟨by rfl, ?_⟩) (by assumption) ?_
  rotate_left
  · intro wz hSz; (try dsimp only at hSz); go_simp; all_goals (with_reducible rfl)
  (try simp only [Act.put, List.setIfInBounds_toArray, List.set_cons_zero, List.set_cons_succ])
  refine wpAnyE_take (i := 1) (oi := { dst := some 47, op := Op.fieldAddr 50 (Operand.tmp 6) 0, type := 0, pos := "trace.go:47", after := #[], guard := none }) (v := ?_) rfl (by kernel_rfl) (by kernel_rfl) (by kernel_rfl) (by kernel_rfl) (fun _ _ _ h => nomatch h.1) (Or.inl ⟨by rfl, ?_⟩) (by assumption) ?_
  rotate_left
  · intro wz hSz; (try dsimp only at hSz); go_simp; all_goals (with_reducible rfl)
  (try simp only [Act.put, List.setIfInBounds_toArray, List.set_cons_zero, List.set_cons_succ])
  refine wpAnyE_take (i := 2) (oi := { dst := some 48, op := Op.load 34 (Operand.tmp 47), type := 34, pos := "trace.go:47", after := #[{ on := 1, ground := Ground.data }], guard := none }) (v := ?_) rfl (by kernel_rfl) (by kernel_rfl) (by kernel_rfl) (by kernel_rfl) (fun _ _ _ h => nomatch h.1) (Or.inl ⟨by rfl, ?_⟩) (by assumption) ?_
  rotate_left
  · intro wz hSz; (try dsimp only at hSz); go_simp; all_goals (with_reducible rfl)
  (try simp only [Act.put, List.setIfInBounds_toArray, List.set_cons_zero, List.set_cons_succ])
  refine wpAnyE_take (i := 4) (oi := { dst := some 50, op := Op.fieldAddr 50 (Operand.tmp 6) 2, type := 0, pos := "trace.go:47", after := #[], guard := none }) (v := ?_) rfl (by kernel_rfl) (by kernel_rfl) (by kernel_rfl) (by kernel_rfl) (fun _ _ _ h => nomatch h.1) (Or.inl ⟨by rfl, ?_⟩) (by assumption) ?_
  rotate_left
  · intro wz hSz; (try dsimp only at hSz); go_simp; all_goals (with_reducible rfl)
  (try simp only [Act.put, List.setIfInBounds_toArray, List.set_cons_zero, List.set_cons_succ])
  refine wpAnyE_take (i := 5) (oi := { dst := some 51, op := Op.load 3 (Operand.tmp 50), type := 3, pos := "trace.go:47", after := #[{ on := 4, ground := Ground.data }], guard := none }) (v := ?_) rfl (by kernel_rfl) (by kernel_rfl) (by kernel_rfl) (by kernel_rfl) (fun _ _ _ h => nomatch h.1) (Or.inl ⟨by rfl, ?_⟩) (by assumption) ?_
  rotate_left
  · intro wz hSz; (try dsimp only at hSz); go_simp; all_goals (with_reducible rfl)
  (try simp only [Act.put, List.setIfInBounds_toArray, List.set_cons_zero, List.set_cons_succ])
  refine wpAnyE_take (i := 6) (oi := { dst := some 52, op := Op.fieldAddr 50 (Operand.tmp 6) 1, type := 0, pos := "trace.go:47", after := #[], guard := none }) (v := ?_) rfl (by kernel_rfl) (by kernel_rfl) (by kernel_rfl) (by kernel_rfl) (fun _ _ _ h => nomatch h.1) (Or.inl ⟨by rfl, ?_⟩) (by assumption) ?_
  rotate_left
  · intro wz hSz; (try dsimp only at hSz); go_simp; all_goals (with_reducible rfl)
  (try simp only [Act.put, List.setIfInBounds_toArray, List.set_cons_zero, List.set_cons_succ])
  refine wpAnyE_take (i := 7) (oi := { dst := some 53, op := Op.load 3 (Operand.tmp 52), type := 3, pos := "trace.go:47", after := #[{ on := 6, ground := Ground.data }], guard := none }) (v := ?_) rfl (by kernel_rfl) (by kernel_rfl) (by kernel_rfl) (by kernel_rfl) (fun _ _ _ h => nomatch h.1) (Or.inl ⟨by rfl, ?_⟩) (by assumption) ?_
  rotate_left
  · intro wz hSz; (try dsimp only at hSz); go_simp; all_goals (with_reducible rfl)
  (try simp only [Act.put, List.setIfInBounds_toArray, List.set_cons_zero, List.set_cons_succ])
  refine wpAnyE_take (i := 8) (oi := { dst := some 54, op := Op.binOp BinOp.sub 3 (Operand.tmp 51) (Operand.tmp 53) 3, type := 3, pos := "trace.go:47", after := #[{ on := 5, ground := Ground.data }, { on := 7, ground := Ground.data }], guard := none }) (v := ?_) rfl (by kernel_rfl) (by kernel_rfl) (by kernel_rfl) (by kernel_rfl) (fun _ _ _ h => nomatch h.1) (Or.inl ⟨by rfl, ?_⟩) (by assumption) ?_
  rotate_left
  · intro wz hSz; (try dsimp only at hSz); go_simp; all_goals (with_reducible rfl)
  (try simp only [Act.put, List.setIfInBounds_toArray, List.set_cons_zero, List.set_cons_succ])
  refine wpAnyE_take (i := 9) (oi := { dst := some 55, op := Op.binOp BinOp.add 3 (Operand.tmp 54) (Operand.const (Value.int IntKind.i64 1)) 3, type := 3, pos := "trace.go:47", after := #[{ on := 8, ground := Ground.data }], guard := none }) (v := ?_) rfl (by kernel_rfl) (by kernel_rfl) (by kernel_rfl) (by kernel_rfl) (fun _ _ _ h => nomatch h.1) (Or.inl ⟨by rfl, ?_⟩) (by assumption) ?_
  rotate_left
  · intro wz hSz; (try dsimp only at hSz); go_simp; all_goals (with_reducible rfl)
  (try simp only [Act.put, List.setIfInBounds_toArray, List.set_cons_zero, List.set_cons_succ])
  have sA : Only (fun _ => False) W (W.alloc (.cells #[.string h, .int .i64 s] 34)).drew := ((Only.refl _ _).alloc _).drew
  refine wpAnyE_one (i := 3) (o := { dst := some 49, op := Op.buildSlice 28 1 #[(0, Operand.tmp 48)], type := 28, pos := "trace.go:47", after := #[{ on := 2, ground := Ground.data }], guard := none }) (by kernel_rfl) rfl (by rfl) (fun K hK => ?_)
  go_simp
  refine hK.out _ _ ?_ (fun hHeld => ?_)
  · have g1 := hSd.list.alloc (.cells #[.string h, .int .i64 s] 34)
    have g2 := h6d.alloc (.cells #[.string h, .int .i64 s] 34)
    exact ⟨g1.2.1 0, g2.2.1 0, g2.2.1 1, g2.2.1 2, g2.2.1 3⟩
  clear hK K
  (try simp only [Act.put, List.setIfInBounds_toArray, List.set_cons_zero, List.set_cons_succ])
  refine wpAnyE_one (i := 10) (o := { dst := some 56, op := Op.call { callee := Callee.value (Operand.func 22), args := #[Operand.tmp 49, Operand.tmp 55], argTypes := #[28, 3] }, type := 28, pos := "trace.go:47", after := #[{ on := 3, ground := Ground.data }, { on := 9, ground := Ground.data }], guard := none }) (by kernel_rfl) rfl (by rfl) (fun K hK => ?_)
  have HSd := hS'.out.only sA (fun _ _ h => h) (fun _ _ h => h)
  have H6d := h6'.out.only sA (fun h => h)
  have hne : Has (W.alloc (.cells #[.string h, .int .i64 s] 34)).drew W.heap.size #[.string h, .int .i64 s] := (Has.new W _ 34 rfl).drew
  have hW1 : (W.alloc (.cells #[.string h, .int .i64 s] 34)).drew.heap.size ≥ W.heap.size + 1 := by simp [World.drew]
  have hWk : ∀ k, k < W.heap.size → (W.alloc (.cells #[.string h, .int .i64 s] 34)).drew.heap[k]? = W.heap[k]? := fun k hk => sA.block k hk (fun h => h)
  generalize (W.alloc (.cells #[.string h, .int .i64 s] 34)).drew = W1 at *
  have k22 := repeatE_any ⟨h, s⟩ N ⟨W.heap.size, 0, none⟩ W1 (by omega) (by omega) (by
    intro j u hu
    rw [Go.WideShapes.add_plain, Nat.zero_add]
    rw [hne.2.1 j]
    have e : (#[Value.string h, .int .i64 s])[j]? = (En.cs ⟨h, s⟩)[j]? := by unfold En.cs; simp
    rw [e]; exact hu)
  clear hHeld hSd h6d hne
  go_simp
  go_at_call 22
  refine Calls.mono k22 ?_
  rintro r W3 ⟨rfl, hR3, hB3⟩
  go_wp2_with fail
  have hz3 := hB3.size
  have HS3 := HSd.below hB3
  have H63 := H6d.below hB3
  have hW3k : ∀ k, k < W.heap.size → W3.heap[k]? = W.heap[k]? := fun k hk => (hB3.block k (by omega)).trans (hWk k hk)
  refine hK.out _ _ ⟨HS3.list.2.1 0, H63.2.1 0, H63.2.1 1, H63.2.1 2, H63.2.1 3⟩ (fun hHeld => ?_)
  clear hK K k22 HSd H6d
  (try simp only [Act.put, List.setIfInBounds_toArray, List.set_cons_zero, List.set_cons_succ])
  refine wpAnyE_one (i := 11) (o := { dst := some 57, op := Op.call { callee := Callee.builtin Builtin.append, args := #[Operand.tmp 46, Operand.tmp 56], argTypes := #[28, 28] }, type := 28, pos := "trace.go:47", after := #[{ on := 0, ground := Ground.data }, { on := 10, ground := Ground.data }, { on := 10, ground := Ground.chain }], guard := none }) (by kernel_rfl) rfl (by rfl) (fun K hK => ?_)
  refine wp_append_own _ _ _ 28 rfl (B + 2) 34 ti _ 2 24 Tryd.underlying28 hi hi0 hi1 hi2 rfl (by decide) v L.length (cellsF En.cs L) rfl HS3.row ⟨W1.heap.size, 0, none⟩ N N (cellsF En.cs (List.replicate N ⟨h, s⟩)) rfl (rep_cells N _) (hR3.cells (g := W1.heap.size) rfl) (cellsF_one en_one _) (by unfold maxLen; omega) (by omega) (by omega) ?_
  intro v' W4 ho4 hg4 _
  have hvb : ∀ g, v.ownBlock = some g → B + 2 ≤ g ∧ g < t6 := fun g hg => ⟨(own_lt HS3.row g hg).1, hv6 g hg⟩
  have O4 : Only (fun k => B + 2 ≤ k ∧ k < t6) W3 W4 := ⟨hg4.os, hg4.tape, hg4.output, hg4.size, fun k hk hn => hg4.block k hk (fun e => hn (hvb k e.symm))⟩
  have g1 := HS3.list.only O4 (by omega)
  have g2 := H63.only O4 (by omega)
  have g3 := HS3.r1.only O4 (by omega)
  have g4 := HS3.r2.only O4 (by omega)
  have g5 : Below w0.heap.size w0 W4 := HS3.bel.trans ⟨O4.os, O4.tape, O4.output, O4.size, fun k hk => O4.block k (by have := HS3.bel.size; omega) (by omega)⟩
  have hz4 := O4.size
  have g6 : ∀ k, RgL B (w0.heap.size + 1 + 1 + 1) k → k < W.heap.size → W4.heap[k]? = W.heap[k]? := fun k hk hlt => (O4.block k (by omega) (by unfold RgL at hk; omega)).trans (hW3k k hlt)
  refine hK.out _ _ ⟨g1.2.1 0, g2.2.1 0, g2.2.1 1, g2.2.1 2, g2.2.1 3⟩ (fun hHeld => ?_)
  clear hK K
  (try simp only [Act.put, List.setIfInBounds_toArray, List.set_cons_zero, List.set_cons_succ])
  refine wpAnyE_last (o := { dst := none, op := Op.store 28 (Operand.tmp 4) (Operand.tmp 57), type := 0, pos := "trace.go:47", after := #[{ on := 11, ground := Ground.data }, { on := 11, ground := Ground.chain }, { on := 0, ground := Ground.phase }, { on := 1, ground := Ground.phase }, { on := 2, ground := Ground.phase }, { on := 3, ground := Ground.phase }, { on := 4, ground := Ground.phase }, { on := 5, ground := Ground.phase }, { on := 6, ground := Ground.phase }, { on := 7, ground := Ground.phase }, { on := 8, ground := Ground.phase }, { on := 9, ground := Ground.phase }, { on := 10, ground := Ground.phase }, { on := 11, ground := Ground.phase }], guard := none }) (by kernel_rfl) rfl (by kernel_rfl) (by rfl) (fun K hK => ?_)
  obtain ⟨l0, L1, l2⟩ := id g1
  obtain ⟨a', c', rfl⟩ := own_slice' ho4
  go_simp
  refine hK _ _ ⟨rfl, hQ'.out _ _ _ ⟨g1.set 0 (by simp) _, ?_, g3.far (by omega) _, g4.far (by omega) _, g5.setCell (by show w0.heap.size ≤ w0.heap.size + 1 + 1; omega) _⟩ ?_ ?_⟩
  · have hsl : Only (fun k => k = w0.heap.size + 1 + 1) W4 (W4.setCell ⟨w0.heap.size + 1 + 1, 0, none⟩ (.slice a' (L.length + N) c')) := (Only.refl (fun k => k = w0.heap.size + 1 + 1) W4).set (b := w0.heap.size + 1 + 1) (i := 0) rfl _
    rw [cellsF_append, List.length_append, List.length_replicate]
    exact own_only ho4 hsl (fun k hk => by show ¬ (k = w0.heap.size + 1 + 1); omega)
  · simp [World.setCell]; omega
  · intro k hk hlt
    exact (Below.heap_setCell _ _ _ _ (by show k ≠ w0.heap.size + 1 + 1; unfold RgL at hk; omega)).trans (g6 k hk hlt)
end Go.Proofs.YtcajejfddfiidaaDoor
