import Derived.Test.YtbonmajnkbggcabLsA
import Derived.Test.YtbonmajnkbggcabRtB
import Derived.Deep.RegionHeld3
namespace Go.Proofs.Ytbonmajnkbggcab
open Go.RowKit
set_option linter.unusedVariables false


abbrev ops29 : Array Oper := #[{ dst := some 5, op := Op.fieldAddr 29 (Operand.tmp 2) 0, type := 0, pos := "headslaw.go:211", after := #[], guard := none }, { dst := some 6, op := Op.load 26 (Operand.tmp 5), type := 26, pos := "headslaw.go:211", after := #[{ on := 0, ground := Ground.data }], guard := none }, { dst := some 7, op := Op.move (Operand.tmp 1), type := 3, pos := "headslaw.go:211", after := #[], guard := none }, { dst := some 8, op := Op.binOp BinOp.add 3 (Operand.const (Value.int IntKind.i64 70000)) (Operand.tmp 7) 3, type := 3, pos := "headslaw.go:211", after := #[{ on := 2, ground := Ground.data }], guard := none }, { dst := some 9, op := Op.buildSlice 26 1 #[(0, Operand.tmp 8)], type := 26, pos := "headslaw.go:211", after := #[{ on := 3, ground := Ground.data }], guard := none }, { dst := some 10, op := Op.call { callee := Callee.builtin Builtin.append, args := #[Operand.tmp 6, Operand.tmp 9], argTypes := #[26, 26] }, type := 26, pos := "headslaw.go:211", after := #[{ on := 1, ground := Ground.data }, { on := 4, ground := Ground.data }], guard := none }, { dst := some 11, op := Op.fieldAddr 29 (Operand.tmp 2) 1, type := 0, pos := "headslaw.go:211", after := #[], guard := none }, { dst := some 12, op := Op.load 27 (Operand.tmp 11), type := 27, pos := "headslaw.go:211", after := #[{ on := 6, ground := Ground.data }], guard := none }, { dst := some 13, op := Op.move (Operand.tmp 1), type := 3, pos := "headslaw.go:211", after := #[], guard := none }, { dst := some 14, op := Op.binOp BinOp.add 3 (Operand.const (Value.int IntKind.i64 80000)) (Operand.tmp 13) 3, type := 3, pos := "headslaw.go:211", after := #[{ on := 8, ground := Ground.data }], guard := none }, { dst := some 15, op := Op.convert 3 21 (Operand.tmp 14), type := 21, pos := "headslaw.go:211", after := #[{ on := 9, ground := Ground.data }], guard := none }, { dst := some 16, op := Op.buildSlice 27 1 #[(0, Operand.tmp 15)], type := 27, pos := "headslaw.go:211", after := #[{ on := 10, ground := Ground.data }], guard := none }, { dst := some 17, op := Op.call { callee := Callee.builtin Builtin.append, args := #[Operand.tmp 12, Operand.tmp 16], argTypes := #[27, 27] }, type := 27, pos := "headslaw.go:211", after := #[{ on := 7, ground := Ground.data }, { on := 11, ground := Ground.data }, { on := 5, ground := Ground.chain }], guard := none }, { dst := some 18, op := Op.fieldAddr 29 (Operand.tmp 2) 2, type := 0, pos := "headslaw.go:211", after := #[], guard := none }, { dst := some 19, op := Op.load 27 (Operand.tmp 18), type := 27, pos := "headslaw.go:211", after := #[{ on := 13, ground := Ground.data }], guard := none }, { dst := some 20, op := Op.move (Operand.tmp 1), type := 3, pos := "headslaw.go:211", after := #[], guard := none }, { dst := some 21, op := Op.binOp BinOp.add 3 (Operand.const (Value.int IntKind.i64 90000)) (Operand.tmp 20) 3, type := 3, pos := "headslaw.go:211", after := #[{ on := 15, ground := Ground.data }], guard := none }, { dst := some 22, op := Op.convert 3 21 (Operand.tmp 21), type := 21, pos := "headslaw.go:211", after := #[{ on := 16, ground := Ground.data }], guard := none }, { dst := some 23, op := Op.buildSlice 27 1 #[(0, Operand.tmp 22)], type := 27, pos := "headslaw.go:211", after := #[{ on := 17, ground := Ground.data }], guard := none }, { dst := some 24, op := Op.call { callee := Callee.builtin Builtin.append, args := #[Operand.tmp 19, Operand.tmp 23], argTypes := #[27, 27] }, type := 27, pos := "headslaw.go:211", after := #[{ on := 14, ground := Ground.data }, { on := 18, ground := Ground.data }, { on := 12, ground := Ground.chain }], guard := none }, { dst := some 25, op := Op.build 29 #[(0, Operand.tmp 10), (1, Operand.tmp 17), (2, Operand.tmp 24)], type := 29, pos := "headslaw.go:211", after := #[{ on := 5, ground := Ground.data }, { on := 12, ground := Ground.data }, { on := 19, ground := Ground.data }], guard := none }, { dst := none, op := Op.store 29 (Operand.tmp 4) (Operand.tmp 25), type := 0, pos := "headslaw.go:211", after := #[{ on := 20, ground := Ground.data }, { on := 19, ground := Ground.chain }, { on := 0, ground := Ground.phase }, { on := 1, ground := Ground.phase }, { on := 2, ground := Ground.phase }, { on := 3, ground := Ground.phase }, { on := 4, ground := Ground.phase }, { on := 5, ground := Ground.phase }, { on := 6, ground := Ground.phase }, { on := 7, ground := Ground.phase }, { on := 8, ground := Ground.phase }, { on := 9, ground := Ground.phase }, { on := 10, ground := Ground.phase }, { on := 11, ground := Ground.phase }, { on := 12, ground := Ground.phase }, { on := 13, ground := Ground.phase }, { on := 14, ground := Ground.phase }, { on := 15, ground := Ground.phase }, { on := 16, ground := Ground.phase }, { on := 17, ground := Ground.phase }, { on := 18, ground := Ground.phase }, { on := 19, ground := Ground.phase }, { on := 20, ground := Ground.phase }], guard := none }]
abbrev fr29 (H : Nat) (i : Int) (t0 t3 s1 s2 s3 : Value) (x9 x10 x16 x17 x23 x24 x25 : Value) : Act := { tmps := #[t0, .int .i64 i, .pointer (some ⟨H, 0, none⟩), t3, .pointer (some ⟨H + 1, 0, none⟩), .pointer (some ⟨H, 0, none⟩), s1, .int .i64 i, .int .i64 (70000 + i), x9, x10, .pointer (some ⟨H, 1, none⟩), s2, .int .i64 i, .int .i64 (80000 + i), .int .i32 (80000 + i), x16, x17, .pointer (some ⟨H, 2, none⟩), s3, .int .i64 i, .int .i64 (90000 + i), .int .i32 (90000 + i), x23, x24, x25], defers := [] }
structure RI29 (B n : Nat) (y1 y2 y3 : List Value) (w0 : World) (own0 : Nat → Nat) (H : Nat) (i : Int) (t0 t3 s1 s2 s3 : Value) (b4 b5 b11 b12 b18 b19 b20 b21 : Bool) (x9 x10 x16 x17 x23 x24 x25 : Value) (own : Nat → Nat) (w : World) : Prop where
  hO : Only (fun q => own0 q ≠ 99 ∨ q = H + 1) w0 w
  oo : ∀ q, q < w0.heap.size → own q = own0 q
  h2 : Has w H #[s1, s2, s3]
  h4 : b21 = false → Has w (H + 1) #[.slice none 0 0, .slice none 0 0, .slice none 0 0]
  h5 : b21 = true → Has w (H + 1) #[x10, x17, x24]
  k0 : Ch own w B 0 3 1 n y1 [.int .i64 (70000 + i)] s1 x9 x10 true b4 b5
  p0 : Kpt own w s1 y1 0
  d0 : b5 = true → b4 = true
  k1 : Ch own w B 1 21 1 n y2 [.int .i32 (80000 + i)] s2 x16 x17 true b11 b12
  p1 : Kpt own w s2 y2 1
  d1 : b12 = true → b11 = true
  k2 : Ch own w B 2 21 1 n y3 [.int .i32 (90000 + i)] s3 x23 x24 true b18 b19
  p2 : Kpt own w s3 y3 2
  d2 : b19 = true → b18 = true
  c20 : b20 = true → (b5 = true ∧ b12 = true ∧ b19 = true) ∧ x25 = .agg #[x10, x17, x24]
  c21 : b21 = true → b20 = true
abbrev Inv29 (B n : Nat) (y1 y2 y3 : List Value) (w0 : World) (own0 : Nat → Nat) (H : Nat) (i : Int) (t0 t3 s1 s2 s3 : Value) (l : Array Bool) (a : Act) (w : World) : Prop :=
  ∃ (b4 b5 b11 b12 b18 b19 b20 b21 : Bool) (x9 x10 x16 x17 x23 x24 x25 : Value) (own : Nat → Nat), l = #[true, true, true, true, b4, b5, true, true, true, true, true, b11, b12, true, true, true, true, true, b18, b19, b20, b21] ∧ a = fr29 H i t0 t3 s1 s2 s3 x9 x10 x16 x17 x23 x24 x25 ∧ RI29 B n y1 y2 y3 w0 own0 H i t0 t3 s1 s2 s3 b4 b5 b11 b12 b18 b19 b20 b21 x9 x10 x16 x17 x23 x24 x25 own w

set_option maxRecDepth 100000 in
set_option maxHeartbeats 4000000 in
theorem s29_4 (B n : Nat) (y1 y2 y3 : List Value) (w0 : World) (own0 : Nat → Nat) (H : Nat) (i : Int) (t0 t3 s1 s2 s3 : Value) (hH : H + 2 ≤ w0.heap.size) (hB : B ≤ w0.heap.size) (hn : n ≤ 64) (o1 : own0 H = 99) (o2 : own0 (H + 1) = 99)
    (Q' : Exit → Act → World → Prop) (l : Array Bool) (a : Act) (w : World) (hI : Inv29 B n y1 y2 y3 w0 own0 H i t0 t3 s1 s2 s3 l a w) (h0 : l.getD 4 true = false) (hdep : ∀ e ∈ ({ dst := some 9, op := Op.buildSlice 26 1 #[(0, Operand.tmp 8)], type := 26, pos := "headslaw.go:211", after := #[{ on := 3, ground := Ground.data }], guard := none } : Oper).after, Region.binds .any e = true → l.getD e.on false = true) (K : Act → World → Prop) (hK : ∀ a' w', Inv29 B n y1 y2 y3 w0 own0 H i t0 t3 s1 s2 s3 (l.setIfInBounds 4 true) a' w' → K a' w') :
    if Region.wanted ({ dst := some 9, op := Op.buildSlice 26 1 #[(0, Operand.tmp 8)], type := 26, pos := "headslaw.go:211", after := #[{ on := 3, ground := Ground.data }], guard := none } : Oper) (yielded ops29 a.tmps) = true then Oper.wp Try.prog ({ dst := some 9, op := Op.buildSlice 26 1 #[(0, Operand.tmp 8)], type := 26, pos := "headslaw.go:211", after := #[{ on := 3, ground := Ground.data }], guard := none } : Oper) a w K Q' else K (a.put ({ dst := some 9, op := Op.buildSlice 26 1 #[(0, Operand.tmp 8)], type := 26, pos := "headslaw.go:211", after := #[{ on := 3, ground := Ground.data }], guard := none } : Oper).dst undef) w := by
  obtain ⟨b4, b5, b11, b12, b18, b19, b20, b21, x9, x10, x16, x17, x23, x24, x25, own, rfl, rfl, R⟩ := hI
  have ee : b4 = false := h0
  subst ee
  clear h0 hdep
  have q5 : b5 = false := by
    cases hq : b5 with
    | false => rfl
    | true => exact absurd (R.d0 hq) (by decide)
  subst q5
  have q20 : b20 = false := by
    cases hq : b20 with
    | false => rfl
    | true => exact absurd ((R.c20 hq).1.1) (by decide)
  subst q20
  have q21 : b21 = false := by
    cases hq : b21 with
    | false => rfl
    | true => exact absurd (R.c21 hq) (by decide)
  subst q21
  have hBw : B ≤ w.heap.size := Nat.le_trans hB R.hO.size
  go_simp
  refine hK _ _ ?_
  exact ⟨_, _, _, _, _, _, _, _, _, _, _, _, _, _, _, updO own w.heap.size 0, rfl, rfl, ⟨R.hO.alloc _, fun q hq => (updO_old (Nat.lt_of_lt_of_le hq R.hO.size)).trans (R.oo q hq), R.h2.alloc _, fun h => (R.h4 h).alloc _, fun h => (by cases h), Ch.build R.k0 3 hBw, R.p0.allocX _, fun h => (by cases h), R.k1.allocX _, R.p1.allocX _, R.d1, R.k2.allocX _, R.p2.allocX _, R.d2, fun h => (by cases h), fun h => (by cases h)⟩⟩

set_option maxRecDepth 100000 in
set_option maxHeartbeats 4000000 in
theorem s29_5 (B n : Nat) (y1 y2 y3 : List Value) (w0 : World) (own0 : Nat → Nat) (H : Nat) (i : Int) (t0 t3 s1 s2 s3 : Value) (hH : H + 2 ≤ w0.heap.size) (hB : B ≤ w0.heap.size) (hn : n ≤ 64) (o1 : own0 H = 99) (o2 : own0 (H + 1) = 99)
    (Q' : Exit → Act → World → Prop) (l : Array Bool) (a : Act) (w : World) (hI : Inv29 B n y1 y2 y3 w0 own0 H i t0 t3 s1 s2 s3 l a w) (h0 : l.getD 5 true = false) (hdep : ∀ e ∈ ({ dst := some 10, op := Op.call { callee := Callee.builtin Builtin.append, args := #[Operand.tmp 6, Operand.tmp 9], argTypes := #[26, 26] }, type := 26, pos := "headslaw.go:211", after := #[{ on := 1, ground := Ground.data }, { on := 4, ground := Ground.data }], guard := none } : Oper).after, Region.binds .any e = true → l.getD e.on false = true) (K : Act → World → Prop) (hK : ∀ a' w', Inv29 B n y1 y2 y3 w0 own0 H i t0 t3 s1 s2 s3 (l.setIfInBounds 5 true) a' w' → K a' w') :
    if Region.wanted ({ dst := some 10, op := Op.call { callee := Callee.builtin Builtin.append, args := #[Operand.tmp 6, Operand.tmp 9], argTypes := #[26, 26] }, type := 26, pos := "headslaw.go:211", after := #[{ on := 1, ground := Ground.data }, { on := 4, ground := Ground.data }], guard := none } : Oper) (yielded ops29 a.tmps) = true then Oper.wp Try.prog ({ dst := some 10, op := Op.call { callee := Callee.builtin Builtin.append, args := #[Operand.tmp 6, Operand.tmp 9], argTypes := #[26, 26] }, type := 26, pos := "headslaw.go:211", after := #[{ on := 1, ground := Ground.data }, { on := 4, ground := Ground.data }], guard := none } : Oper) a w K Q' else K (a.put ({ dst := some 10, op := Op.call { callee := Callee.builtin Builtin.append, args := #[Operand.tmp 6, Operand.tmp 9], argTypes := #[26, 26] }, type := 26, pos := "headslaw.go:211", after := #[{ on := 1, ground := Ground.data }, { on := 4, ground := Ground.data }], guard := none } : Oper).dst undef) w := by
  obtain ⟨b4, b5, b11, b12, b18, b19, b20, b21, x9, x10, x16, x17, x23, x24, x25, own, rfl, rfl, R⟩ := hI
  have ee : b5 = false := h0
  subst ee
  have e4' : b4 = true := hdep ⟨4, Ground.data⟩ (by simp) rfl
  subst e4'
  clear h0 hdep
  have q20 : b20 = false := by
    cases hq : b20 with
    | false => rfl
    | true => exact absurd ((R.c20 hq).1.1) (by decide)
  subst q20
  have q21 : b21 = false := by
    cases hq : b21 with
    | false => rfl
    | true => exact absurd (R.c21 hq) (by decide)
  subst q21
  have hBw : B ≤ w.heap.size := Nat.le_trans hB R.hO.size
  obtain ⟨ti, hi, hi0, hi1, hi2⟩ := info_parts info3l
  refine Ch.appK R.k0 hBw rfl (all_one rfl) rfl _ _ 26 rfl ti _ 8 Try.underlying26 hi hi0 hi1 hi2 rfl (by decide) rfl rfl (by unfold maxLen; omega) (by omega) ?_
  intro g d w' kk pp O
  refine hK _ _ ?_
  exact ⟨_, _, _, _, _, _, _, _, _, _, _, _, _, _, _, updO own w.heap.size 0, rfl, rfl, ⟨only_tr R.hO O (fun q hq h => .inl (by have := R.oo q hq; omega)), fun q hq => (updO_old (Nat.lt_of_lt_of_le hq R.hO.size)).trans (R.oo q hq), R.h2.only O (by intro h; have := R.oo H (by omega); omega), fun h => (R.h4 h).only O (by intro h; have := R.oo (H + 1) (by omega); omega), fun h => (by cases h), kk, pp, fun _ => rfl, R.k1.other O (by decide), R.p1.other O (by decide), R.d1, R.k2.other O (by decide), R.p2.other O (by decide), R.d2, fun h => (by cases h), fun h => (by cases h)⟩⟩

set_option maxRecDepth 100000 in
set_option maxHeartbeats 4000000 in
theorem s29_11 (B n : Nat) (y1 y2 y3 : List Value) (w0 : World) (own0 : Nat → Nat) (H : Nat) (i : Int) (t0 t3 s1 s2 s3 : Value) (hH : H + 2 ≤ w0.heap.size) (hB : B ≤ w0.heap.size) (hn : n ≤ 64) (o1 : own0 H = 99) (o2 : own0 (H + 1) = 99)
    (Q' : Exit → Act → World → Prop) (l : Array Bool) (a : Act) (w : World) (hI : Inv29 B n y1 y2 y3 w0 own0 H i t0 t3 s1 s2 s3 l a w) (h0 : l.getD 11 true = false) (hdep : ∀ e ∈ ({ dst := some 16, op := Op.buildSlice 27 1 #[(0, Operand.tmp 15)], type := 27, pos := "headslaw.go:211", after := #[{ on := 10, ground := Ground.data }], guard := none } : Oper).after, Region.binds .any e = true → l.getD e.on false = true) (K : Act → World → Prop) (hK : ∀ a' w', Inv29 B n y1 y2 y3 w0 own0 H i t0 t3 s1 s2 s3 (l.setIfInBounds 11 true) a' w' → K a' w') :
    if Region.wanted ({ dst := some 16, op := Op.buildSlice 27 1 #[(0, Operand.tmp 15)], type := 27, pos := "headslaw.go:211", after := #[{ on := 10, ground := Ground.data }], guard := none } : Oper) (yielded ops29 a.tmps) = true then Oper.wp Try.prog ({ dst := some 16, op := Op.buildSlice 27 1 #[(0, Operand.tmp 15)], type := 27, pos := "headslaw.go:211", after := #[{ on := 10, ground := Ground.data }], guard := none } : Oper) a w K Q' else K (a.put ({ dst := some 16, op := Op.buildSlice 27 1 #[(0, Operand.tmp 15)], type := 27, pos := "headslaw.go:211", after := #[{ on := 10, ground := Ground.data }], guard := none } : Oper).dst undef) w := by
  obtain ⟨b4, b5, b11, b12, b18, b19, b20, b21, x9, x10, x16, x17, x23, x24, x25, own, rfl, rfl, R⟩ := hI
  have ee : b11 = false := h0
  subst ee
  clear h0 hdep
  have q12 : b12 = false := by
    cases hq : b12 with
    | false => rfl
    | true => exact absurd (R.d1 hq) (by decide)
  subst q12
  have q20 : b20 = false := by
    cases hq : b20 with
    | false => rfl
    | true => exact absurd ((R.c20 hq).1.2.1) (by decide)
  subst q20
  have q21 : b21 = false := by
    cases hq : b21 with
    | false => rfl
    | true => exact absurd (R.c21 hq) (by decide)
  subst q21
  have hBw : B ≤ w.heap.size := Nat.le_trans hB R.hO.size
  go_simp
  refine hK _ _ ?_
  exact ⟨_, _, _, _, _, _, _, _, _, _, _, _, _, _, _, updO own w.heap.size 1, rfl, rfl, ⟨R.hO.alloc _, fun q hq => (updO_old (Nat.lt_of_lt_of_le hq R.hO.size)).trans (R.oo q hq), R.h2.alloc _, fun h => (R.h4 h).alloc _, fun h => (by cases h), R.k0.allocX _, R.p0.allocX _, R.d0, Ch.build R.k1 21 hBw, R.p1.allocX _, fun h => (by cases h), R.k2.allocX _, R.p2.allocX _, R.d2, fun h => (by cases h), fun h => (by cases h)⟩⟩

set_option maxRecDepth 100000 in
set_option maxHeartbeats 4000000 in
theorem s29_12 (B n : Nat) (y1 y2 y3 : List Value) (w0 : World) (own0 : Nat → Nat) (H : Nat) (i : Int) (t0 t3 s1 s2 s3 : Value) (hH : H + 2 ≤ w0.heap.size) (hB : B ≤ w0.heap.size) (hn : n ≤ 64) (o1 : own0 H = 99) (o2 : own0 (H + 1) = 99)
    (Q' : Exit → Act → World → Prop) (l : Array Bool) (a : Act) (w : World) (hI : Inv29 B n y1 y2 y3 w0 own0 H i t0 t3 s1 s2 s3 l a w) (h0 : l.getD 12 true = false) (hdep : ∀ e ∈ ({ dst := some 17, op := Op.call { callee := Callee.builtin Builtin.append, args := #[Operand.tmp 12, Operand.tmp 16], argTypes := #[27, 27] }, type := 27, pos := "headslaw.go:211", after := #[{ on := 7, ground := Ground.data }, { on := 11, ground := Ground.data }, { on := 5, ground := Ground.chain }], guard := none } : Oper).after, Region.binds .any e = true → l.getD e.on false = true) (K : Act → World → Prop) (hK : ∀ a' w', Inv29 B n y1 y2 y3 w0 own0 H i t0 t3 s1 s2 s3 (l.setIfInBounds 12 true) a' w' → K a' w') :
    if Region.wanted ({ dst := some 17, op := Op.call { callee := Callee.builtin Builtin.append, args := #[Operand.tmp 12, Operand.tmp 16], argTypes := #[27, 27] }, type := 27, pos := "headslaw.go:211", after := #[{ on := 7, ground := Ground.data }, { on := 11, ground := Ground.data }, { on := 5, ground := Ground.chain }], guard := none } : Oper) (yielded ops29 a.tmps) = true then Oper.wp Try.prog ({ dst := some 17, op := Op.call { callee := Callee.builtin Builtin.append, args := #[Operand.tmp 12, Operand.tmp 16], argTypes := #[27, 27] }, type := 27, pos := "headslaw.go:211", after := #[{ on := 7, ground := Ground.data }, { on := 11, ground := Ground.data }, { on := 5, ground := Ground.chain }], guard := none } : Oper) a w K Q' else K (a.put ({ dst := some 17, op := Op.call { callee := Callee.builtin Builtin.append, args := #[Operand.tmp 12, Operand.tmp 16], argTypes := #[27, 27] }, type := 27, pos := "headslaw.go:211", after := #[{ on := 7, ground := Ground.data }, { on := 11, ground := Ground.data }, { on := 5, ground := Ground.chain }], guard := none } : Oper).dst undef) w := by
  obtain ⟨b4, b5, b11, b12, b18, b19, b20, b21, x9, x10, x16, x17, x23, x24, x25, own, rfl, rfl, R⟩ := hI
  have ee : b12 = false := h0
  subst ee
  have e11' : b11 = true := hdep ⟨11, Ground.data⟩ (by simp) rfl
  subst e11'
  clear h0 hdep
  have q20 : b20 = false := by
    cases hq : b20 with
    | false => rfl
    | true => exact absurd ((R.c20 hq).1.2.1) (by decide)
  subst q20
  have q21 : b21 = false := by
    cases hq : b21 with
    | false => rfl
    | true => exact absurd (R.c21 hq) (by decide)
  subst q21
  have hBw : B ≤ w.heap.size := Nat.le_trans hB R.hO.size
  obtain ⟨ti, hi, hi0, hi1, hi2⟩ := info_parts info21l
  refine Ch.appK R.k1 hBw rfl (all_one rfl) rfl _ _ 27 rfl ti _ 4 Try.underlying27 hi hi0 hi1 hi2 rfl (by decide) rfl rfl (by unfold maxLen; omega) (by omega) ?_
  intro g d w' kk pp O
  refine hK _ _ ?_
  exact ⟨_, _, _, _, _, _, _, _, _, _, _, _, _, _, _, updO own w.heap.size 1, rfl, rfl, ⟨only_tr R.hO O (fun q hq h => .inl (by have := R.oo q hq; omega)), fun q hq => (updO_old (Nat.lt_of_lt_of_le hq R.hO.size)).trans (R.oo q hq), R.h2.only O (by intro h; have := R.oo H (by omega); omega), fun h => (R.h4 h).only O (by intro h; have := R.oo (H + 1) (by omega); omega), fun h => (by cases h), R.k0.other O (by decide), R.p0.other O (by decide), R.d0, kk, pp, fun _ => rfl, R.k2.other O (by decide), R.p2.other O (by decide), R.d2, fun h => (by cases h), fun h => (by cases h)⟩⟩

set_option maxRecDepth 100000 in
set_option maxHeartbeats 4000000 in
theorem s29_18 (B n : Nat) (y1 y2 y3 : List Value) (w0 : World) (own0 : Nat → Nat) (H : Nat) (i : Int) (t0 t3 s1 s2 s3 : Value) (hH : H + 2 ≤ w0.heap.size) (hB : B ≤ w0.heap.size) (hn : n ≤ 64) (o1 : own0 H = 99) (o2 : own0 (H + 1) = 99)
    (Q' : Exit → Act → World → Prop) (l : Array Bool) (a : Act) (w : World) (hI : Inv29 B n y1 y2 y3 w0 own0 H i t0 t3 s1 s2 s3 l a w) (h0 : l.getD 18 true = false) (hdep : ∀ e ∈ ({ dst := some 23, op := Op.buildSlice 27 1 #[(0, Operand.tmp 22)], type := 27, pos := "headslaw.go:211", after := #[{ on := 17, ground := Ground.data }], guard := none } : Oper).after, Region.binds .any e = true → l.getD e.on false = true) (K : Act → World → Prop) (hK : ∀ a' w', Inv29 B n y1 y2 y3 w0 own0 H i t0 t3 s1 s2 s3 (l.setIfInBounds 18 true) a' w' → K a' w') :
    if Region.wanted ({ dst := some 23, op := Op.buildSlice 27 1 #[(0, Operand.tmp 22)], type := 27, pos := "headslaw.go:211", after := #[{ on := 17, ground := Ground.data }], guard := none } : Oper) (yielded ops29 a.tmps) = true then Oper.wp Try.prog ({ dst := some 23, op := Op.buildSlice 27 1 #[(0, Operand.tmp 22)], type := 27, pos := "headslaw.go:211", after := #[{ on := 17, ground := Ground.data }], guard := none } : Oper) a w K Q' else K (a.put ({ dst := some 23, op := Op.buildSlice 27 1 #[(0, Operand.tmp 22)], type := 27, pos := "headslaw.go:211", after := #[{ on := 17, ground := Ground.data }], guard := none } : Oper).dst undef) w := by
  obtain ⟨b4, b5, b11, b12, b18, b19, b20, b21, x9, x10, x16, x17, x23, x24, x25, own, rfl, rfl, R⟩ := hI
  have ee : b18 = false := h0
  subst ee
  clear h0 hdep
  have q19 : b19 = false := by
    cases hq : b19 with
    | false => rfl
    | true => exact absurd (R.d2 hq) (by decide)
  subst q19
  have q20 : b20 = false := by
    cases hq : b20 with
    | false => rfl
    | true => exact absurd ((R.c20 hq).1.2.2) (by decide)
  subst q20
  have q21 : b21 = false := by
    cases hq : b21 with
    | false => rfl
    | true => exact absurd (R.c21 hq) (by decide)
  subst q21
  have hBw : B ≤ w.heap.size := Nat.le_trans hB R.hO.size
  go_simp
  refine hK _ _ ?_
  exact ⟨_, _, _, _, _, _, _, _, _, _, _, _, _, _, _, updO own w.heap.size 2, rfl, rfl, ⟨R.hO.alloc _, fun q hq => (updO_old (Nat.lt_of_lt_of_le hq R.hO.size)).trans (R.oo q hq), R.h2.alloc _, fun h => (R.h4 h).alloc _, fun h => (by cases h), R.k0.allocX _, R.p0.allocX _, R.d0, R.k1.allocX _, R.p1.allocX _, R.d1, Ch.build R.k2 21 hBw, R.p2.allocX _, fun h => (by cases h), fun h => (by cases h), fun h => (by cases h)⟩⟩

set_option maxRecDepth 100000 in
set_option maxHeartbeats 4000000 in
theorem s29_19 (B n : Nat) (y1 y2 y3 : List Value) (w0 : World) (own0 : Nat → Nat) (H : Nat) (i : Int) (t0 t3 s1 s2 s3 : Value) (hH : H + 2 ≤ w0.heap.size) (hB : B ≤ w0.heap.size) (hn : n ≤ 64) (o1 : own0 H = 99) (o2 : own0 (H + 1) = 99)
    (Q' : Exit → Act → World → Prop) (l : Array Bool) (a : Act) (w : World) (hI : Inv29 B n y1 y2 y3 w0 own0 H i t0 t3 s1 s2 s3 l a w) (h0 : l.getD 19 true = false) (hdep : ∀ e ∈ ({ dst := some 24, op := Op.call { callee := Callee.builtin Builtin.append, args := #[Operand.tmp 19, Operand.tmp 23], argTypes := #[27, 27] }, type := 27, pos := "headslaw.go:211", after := #[{ on := 14, ground := Ground.data }, { on := 18, ground := Ground.data }, { on := 12, ground := Ground.chain }], guard := none } : Oper).after, Region.binds .any e = true → l.getD e.on false = true) (K : Act → World → Prop) (hK : ∀ a' w', Inv29 B n y1 y2 y3 w0 own0 H i t0 t3 s1 s2 s3 (l.setIfInBounds 19 true) a' w' → K a' w') :
    if Region.wanted ({ dst := some 24, op := Op.call { callee := Callee.builtin Builtin.append, args := #[Operand.tmp 19, Operand.tmp 23], argTypes := #[27, 27] }, type := 27, pos := "headslaw.go:211", after := #[{ on := 14, ground := Ground.data }, { on := 18, ground := Ground.data }, { on := 12, ground := Ground.chain }], guard := none } : Oper) (yielded ops29 a.tmps) = true then Oper.wp Try.prog ({ dst := some 24, op := Op.call { callee := Callee.builtin Builtin.append, args := #[Operand.tmp 19, Operand.tmp 23], argTypes := #[27, 27] }, type := 27, pos := "headslaw.go:211", after := #[{ on := 14, ground := Ground.data }, { on := 18, ground := Ground.data }, { on := 12, ground := Ground.chain }], guard := none } : Oper) a w K Q' else K (a.put ({ dst := some 24, op := Op.call { callee := Callee.builtin Builtin.append, args := #[Operand.tmp 19, Operand.tmp 23], argTypes := #[27, 27] }, type := 27, pos := "headslaw.go:211", after := #[{ on := 14, ground := Ground.data }, { on := 18, ground := Ground.data }, { on := 12, ground := Ground.chain }], guard := none } : Oper).dst undef) w := by
  obtain ⟨b4, b5, b11, b12, b18, b19, b20, b21, x9, x10, x16, x17, x23, x24, x25, own, rfl, rfl, R⟩ := hI
  have ee : b19 = false := h0
  subst ee
  have e18' : b18 = true := hdep ⟨18, Ground.data⟩ (by simp) rfl
  subst e18'
  clear h0 hdep
  have q20 : b20 = false := by
    cases hq : b20 with
    | false => rfl
    | true => exact absurd ((R.c20 hq).1.2.2) (by decide)
  subst q20
  have q21 : b21 = false := by
    cases hq : b21 with
    | false => rfl
    | true => exact absurd (R.c21 hq) (by decide)
  subst q21
  have hBw : B ≤ w.heap.size := Nat.le_trans hB R.hO.size
  obtain ⟨ti, hi, hi0, hi1, hi2⟩ := info_parts info21l
  refine Ch.appK R.k2 hBw rfl (all_one rfl) rfl _ _ 27 rfl ti _ 4 Try.underlying27 hi hi0 hi1 hi2 rfl (by decide) rfl rfl (by unfold maxLen; omega) (by omega) ?_
  intro g d w' kk pp O
  refine hK _ _ ?_
  exact ⟨_, _, _, _, _, _, _, _, _, _, _, _, _, _, _, updO own w.heap.size 2, rfl, rfl, ⟨only_tr R.hO O (fun q hq h => .inl (by have := R.oo q hq; omega)), fun q hq => (updO_old (Nat.lt_of_lt_of_le hq R.hO.size)).trans (R.oo q hq), R.h2.only O (by intro h; have := R.oo H (by omega); omega), fun h => (R.h4 h).only O (by intro h; have := R.oo (H + 1) (by omega); omega), fun h => (by cases h), R.k0.other O (by decide), R.p0.other O (by decide), R.d0, R.k1.other O (by decide), R.p1.other O (by decide), R.d1, kk, pp, fun _ => rfl, fun h => (by cases h), fun h => (by cases h)⟩⟩

set_option maxRecDepth 100000 in
set_option maxHeartbeats 4000000 in
theorem s29_20 (B n : Nat) (y1 y2 y3 : List Value) (w0 : World) (own0 : Nat → Nat) (H : Nat) (i : Int) (t0 t3 s1 s2 s3 : Value) (hH : H + 2 ≤ w0.heap.size) (hB : B ≤ w0.heap.size) (hn : n ≤ 64) (o1 : own0 H = 99) (o2 : own0 (H + 1) = 99)
    (Q' : Exit → Act → World → Prop) (l : Array Bool) (a : Act) (w : World) (hI : Inv29 B n y1 y2 y3 w0 own0 H i t0 t3 s1 s2 s3 l a w) (h0 : l.getD 20 true = false) (hdep : ∀ e ∈ ({ dst := some 25, op := Op.build 29 #[(0, Operand.tmp 10), (1, Operand.tmp 17), (2, Operand.tmp 24)], type := 29, pos := "headslaw.go:211", after := #[{ on := 5, ground := Ground.data }, { on := 12, ground := Ground.data }, { on := 19, ground := Ground.data }], guard := none } : Oper).after, Region.binds .any e = true → l.getD e.on false = true) (K : Act → World → Prop) (hK : ∀ a' w', Inv29 B n y1 y2 y3 w0 own0 H i t0 t3 s1 s2 s3 (l.setIfInBounds 20 true) a' w' → K a' w') :
    if Region.wanted ({ dst := some 25, op := Op.build 29 #[(0, Operand.tmp 10), (1, Operand.tmp 17), (2, Operand.tmp 24)], type := 29, pos := "headslaw.go:211", after := #[{ on := 5, ground := Ground.data }, { on := 12, ground := Ground.data }, { on := 19, ground := Ground.data }], guard := none } : Oper) (yielded ops29 a.tmps) = true then Oper.wp Try.prog ({ dst := some 25, op := Op.build 29 #[(0, Operand.tmp 10), (1, Operand.tmp 17), (2, Operand.tmp 24)], type := 29, pos := "headslaw.go:211", after := #[{ on := 5, ground := Ground.data }, { on := 12, ground := Ground.data }, { on := 19, ground := Ground.data }], guard := none } : Oper) a w K Q' else K (a.put ({ dst := some 25, op := Op.build 29 #[(0, Operand.tmp 10), (1, Operand.tmp 17), (2, Operand.tmp 24)], type := 29, pos := "headslaw.go:211", after := #[{ on := 5, ground := Ground.data }, { on := 12, ground := Ground.data }, { on := 19, ground := Ground.data }], guard := none } : Oper).dst undef) w := by
  obtain ⟨b4, b5, b11, b12, b18, b19, b20, b21, x9, x10, x16, x17, x23, x24, x25, own, rfl, rfl, R⟩ := hI
  have ee : b20 = false := h0
  subst ee
  have e5' : b5 = true := hdep ⟨5, Ground.data⟩ (by simp) rfl
  subst e5'
  have e12' : b12 = true := hdep ⟨12, Ground.data⟩ (by simp) rfl
  subst e12'
  have e19' : b19 = true := hdep ⟨19, Ground.data⟩ (by simp) rfl
  subst e19'
  clear h0 hdep
  have q21 : b21 = false := by
    cases hq : b21 with
    | false => rfl
    | true => exact absurd (R.c21 hq) (by decide)
  subst q21
  obtain ⟨g0, q0, m0, -, -⟩ := R.k0.post rfl
  obtain ⟨g1, q1, m1, -, -⟩ := R.k1.post rfl
  obtain ⟨g2, q2, m2, -, -⟩ := R.k2.post rfl
  subst m0 m1 m2
  go_simp
  refine hK _ _ ?_
  exact ⟨_, _, _, _, _, _, _, _, _, _, _, _, _, _, _, own, rfl, rfl, ⟨R.hO, R.oo, R.h2, R.h4, fun h => (by cases h), R.k0, R.p0, R.d0, R.k1, R.p1, R.d1, R.k2, R.p2, R.d2, fun _ => ⟨⟨rfl, rfl, rfl⟩, rfl⟩, fun h => (by cases h)⟩⟩

set_option maxRecDepth 100000 in
set_option maxHeartbeats 4000000 in
theorem s29_21 (B n : Nat) (y1 y2 y3 : List Value) (w0 : World) (own0 : Nat → Nat) (H : Nat) (i : Int) (t0 t3 s1 s2 s3 : Value) (hH : H + 2 ≤ w0.heap.size) (hB : B ≤ w0.heap.size) (hn : n ≤ 64) (o1 : own0 H = 99) (o2 : own0 (H + 1) = 99)
    (Q' : Exit → Act → World → Prop) (l : Array Bool) (a : Act) (w : World) (hI : Inv29 B n y1 y2 y3 w0 own0 H i t0 t3 s1 s2 s3 l a w) (h0 : l.getD 21 true = false) (hdep : ∀ e ∈ ({ dst := none, op := Op.store 29 (Operand.tmp 4) (Operand.tmp 25), type := 0, pos := "headslaw.go:211", after := #[{ on := 20, ground := Ground.data }, { on := 19, ground := Ground.chain }, { on := 0, ground := Ground.phase }, { on := 1, ground := Ground.phase }, { on := 2, ground := Ground.phase }, { on := 3, ground := Ground.phase }, { on := 4, ground := Ground.phase }, { on := 5, ground := Ground.phase }, { on := 6, ground := Ground.phase }, { on := 7, ground := Ground.phase }, { on := 8, ground := Ground.phase }, { on := 9, ground := Ground.phase }, { on := 10, ground := Ground.phase }, { on := 11, ground := Ground.phase }, { on := 12, ground := Ground.phase }, { on := 13, ground := Ground.phase }, { on := 14, ground := Ground.phase }, { on := 15, ground := Ground.phase }, { on := 16, ground := Ground.phase }, { on := 17, ground := Ground.phase }, { on := 18, ground := Ground.phase }, { on := 19, ground := Ground.phase }, { on := 20, ground := Ground.phase }], guard := none } : Oper).after, Region.binds .any e = true → l.getD e.on false = true) (K : Act → World → Prop) (hK : ∀ a' w', Inv29 B n y1 y2 y3 w0 own0 H i t0 t3 s1 s2 s3 (l.setIfInBounds 21 true) a' w' → K a' w') :
    if Region.wanted ({ dst := none, op := Op.store 29 (Operand.tmp 4) (Operand.tmp 25), type := 0, pos := "headslaw.go:211", after := #[{ on := 20, ground := Ground.data }, { on := 19, ground := Ground.chain }, { on := 0, ground := Ground.phase }, { on := 1, ground := Ground.phase }, { on := 2, ground := Ground.phase }, { on := 3, ground := Ground.phase }, { on := 4, ground := Ground.phase }, { on := 5, ground := Ground.phase }, { on := 6, ground := Ground.phase }, { on := 7, ground := Ground.phase }, { on := 8, ground := Ground.phase }, { on := 9, ground := Ground.phase }, { on := 10, ground := Ground.phase }, { on := 11, ground := Ground.phase }, { on := 12, ground := Ground.phase }, { on := 13, ground := Ground.phase }, { on := 14, ground := Ground.phase }, { on := 15, ground := Ground.phase }, { on := 16, ground := Ground.phase }, { on := 17, ground := Ground.phase }, { on := 18, ground := Ground.phase }, { on := 19, ground := Ground.phase }, { on := 20, ground := Ground.phase }], guard := none } : Oper) (yielded ops29 a.tmps) = true then Oper.wp Try.prog ({ dst := none, op := Op.store 29 (Operand.tmp 4) (Operand.tmp 25), type := 0, pos := "headslaw.go:211", after := #[{ on := 20, ground := Ground.data }, { on := 19, ground := Ground.chain }, { on := 0, ground := Ground.phase }, { on := 1, ground := Ground.phase }, { on := 2, ground := Ground.phase }, { on := 3, ground := Ground.phase }, { on := 4, ground := Ground.phase }, { on := 5, ground := Ground.phase }, { on := 6, ground := Ground.phase }, { on := 7, ground := Ground.phase }, { on := 8, ground := Ground.phase }, { on := 9, ground := Ground.phase }, { on := 10, ground := Ground.phase }, { on := 11, ground := Ground.phase }, { on := 12, ground := Ground.phase }, { on := 13, ground := Ground.phase }, { on := 14, ground := Ground.phase }, { on := 15, ground := Ground.phase }, { on := 16, ground := Ground.phase }, { on := 17, ground := Ground.phase }, { on := 18, ground := Ground.phase }, { on := 19, ground := Ground.phase }, { on := 20, ground := Ground.phase }], guard := none } : Oper) a w K Q' else K (a.put ({ dst := none, op := Op.store 29 (Operand.tmp 4) (Operand.tmp 25), type := 0, pos := "headslaw.go:211", after := #[{ on := 20, ground := Ground.data }, { on := 19, ground := Ground.chain }, { on := 0, ground := Ground.phase }, { on := 1, ground := Ground.phase }, { on := 2, ground := Ground.phase }, { on := 3, ground := Ground.phase }, { on := 4, ground := Ground.phase }, { on := 5, ground := Ground.phase }, { on := 6, ground := Ground.phase }, { on := 7, ground := Ground.phase }, { on := 8, ground := Ground.phase }, { on := 9, ground := Ground.phase }, { on := 10, ground := Ground.phase }, { on := 11, ground := Ground.phase }, { on := 12, ground := Ground.phase }, { on := 13, ground := Ground.phase }, { on := 14, ground := Ground.phase }, { on := 15, ground := Ground.phase }, { on := 16, ground := Ground.phase }, { on := 17, ground := Ground.phase }, { on := 18, ground := Ground.phase }, { on := 19, ground := Ground.phase }, { on := 20, ground := Ground.phase }], guard := none } : Oper).dst undef) w := by
  obtain ⟨b4, b5, b11, b12, b18, b19, b20, b21, x9, x10, x16, x17, x23, x24, x25, own, rfl, rfl, R⟩ := hI
  have ee : b21 = false := h0
  subst ee
  have e20' : b20 = true := hdep ⟨20, Ground.data⟩ (by simp) rfl
  subst e20'
  clear h0 hdep
  obtain ⟨⟨r5, r12, r19⟩, r25⟩ := R.c20 rfl
  subst r5 r12 r19
  obtain ⟨g0, q0, m0, -, -⟩ := R.k0.post rfl
  obtain ⟨g1, q1, m1, -, -⟩ := R.k1.post rfl
  obtain ⟨g2, q2, m2, -, -⟩ := R.k2.post rfl
  subst m0 m1 m2 r25
  have HZ := R.h4 rfl
  obtain ⟨_, z1, z2⟩ := id HZ
  go_simp
  refine hK _ _ ?_
  have O : Only (fun q => q = H + 1) w (((w.setCell ⟨H + 1, 0, none⟩ (.slice (some ⟨g0, 0, none⟩) (n + 1) q0)).setCell ⟨H + 1, 1, none⟩ (.slice (some ⟨g1, 0, none⟩) (n + 1) q1)).setCell ⟨H + 1, 2, none⟩ (.slice (some ⟨g2, 0, none⟩) (n + 1) q2)) := ((only_of_set _ _ _ _).trans (only_of_set _ _ _ _)).trans (only_of_set _ _ _ _)
  have HH : Has (((w.setCell ⟨H + 1, 0, none⟩ (.slice (some ⟨g0, 0, none⟩) (n + 1) q0)).setCell ⟨H + 1, 1, none⟩ (.slice (some ⟨g1, 0, none⟩) (n + 1) q1)).setCell ⟨H + 1, 2, none⟩ (.slice (some ⟨g2, 0, none⟩) (n + 1) q2)) (H + 1) #[(.slice (some ⟨g0, 0, none⟩) (n + 1) q0), (.slice (some ⟨g1, 0, none⟩) (n + 1) q1), (.slice (some ⟨g2, 0, none⟩) (n + 1) q2)] := by simpa using ((HZ.set 0 (by simp) (.slice (some ⟨g0, 0, none⟩) (n + 1) q0)).set 1 (by simp) (.slice (some ⟨g1, 0, none⟩) (n + 1) q1)).set 2 (by simp) (.slice (some ⟨g2, 0, none⟩) (n + 1) q2)
  exact ⟨_, _, _, _, _, _, _, _, _, _, _, _, _, _, _, own, rfl, rfl, ⟨only_tr R.hO O (fun q hq h => .inr h), R.oo, R.h2.only O (by omega), fun h => (by cases h), fun _ => HH, R.k0.move O (fun q hq h => by subst h; have := R.oo (H + 1) (by omega); omega) (fun _ _ => rfl), R.p0.move O (fun q hq h => by subst h; have := R.oo (H + 1) (by omega); omega) (fun _ _ => rfl), R.d0, R.k1.move O (fun q hq h => by subst h; have := R.oo (H + 1) (by omega); omega) (fun _ _ => rfl), R.p1.move O (fun q hq h => by subst h; have := R.oo (H + 1) (by omega); omega) (fun _ _ => rfl), R.d1, R.k2.move O (fun q hq h => by subst h; have := R.oo (H + 1) (by omega); omega) (fun _ _ => rfl), R.p2.move O (fun q hq h => by subst h; have := R.oo (H + 1) (by omega); omega) (fun _ _ => rfl), R.d2, R.c20, fun _ => rfl⟩⟩

set_option maxRecDepth 100000 in
set_option maxHeartbeats 4000000 in
theorem reg29 (B n : Nat) (y1 y2 y3 : List Value) (w0 : World) (own0 : Nat → Nat) (H : Nat) (i : Int) (t0 t3 s1 s2 s3 : Value) (hH : H + 2 ≤ w0.heap.size) (hB : B ≤ w0.heap.size) (hn : n ≤ 64) (o1 : own0 H = 99) (o2 : own0 (H + 1) = 99) (hh2 : Has w0 H #[s1, s2, s3]) (hh4 : Has w0 (H + 1) #[.slice none 0 0, .slice none 0 0, .slice none 0 0])
    (T : T3 B w0 s1 s2 s3 n n n y1 y2 y3) (w1 : ∀ q, s1.ownBlock = some q → own0 q = 0) (w2 : ∀ q, s2.ownBlock = some q → own0 q = 1) (w3 : ∀ q, s3.ownBlock = some q → own0 q = 2)
    (Z : World → Prop) (Q' : Exit → Act → World → Prop) (hZ : ∀ X, Has X H #[s1, s2, s3] → Z X)
    (hfin : ∀ (g0 g1 g2 q0 q1 q2 : Nat) (X : World), Only (fun q => own0 q ≠ 99 ∨ q = H + 1) w0 X → T3 B X (.slice (some ⟨g0, 0, none⟩) (n + 1) q0) (.slice (some ⟨g1, 0, none⟩) (n + 1) q1) (.slice (some ⟨g2, 0, none⟩) (n + 1) q2) (n + 1) (n + 1) (n + 1) (y1 ++ [.int .i64 (70000 + i)]) (y2 ++ [.int .i32 (80000 + i)]) (y3 ++ [.int .i32 (90000 + i)]) → (∀ q, s1.ownBlock = some q → ∀ j u, y1[j]? = some u → X.cell? ⟨q, j, none⟩ = some u) → (∀ q, s2.ownBlock = some q → ∀ j u, y2[j]? = some u → X.cell? ⟨q, j, none⟩ = some u) → (∀ q, s3.ownBlock = some q → ∀ j u, y3[j]? = some u → X.cell? ⟨q, j, none⟩ = some u) → Has X (H + 1) #[.slice (some ⟨g0, 0, none⟩) (n + 1) q0, .slice (some ⟨g1, 0, none⟩) (n + 1) q1, .slice (some ⟨g2, 0, none⟩) (n + 1) q2] → (g0 < w0.heap.size → own0 g0 = 0) → (g1 < w0.heap.size → own0 g1 = 1) → (g2 < w0.heap.size → own0 g2 = 2) → ∀ x9 x16 x23 x25, Q' .normal (fr29 H i t0 t3 s1 s2 s3 x9 (.slice (some ⟨g0, 0, none⟩) (n + 1) q0) x16 (.slice (some ⟨g1, 0, none⟩) (n + 1) q1) x23 (.slice (some ⟨g2, 0, none⟩) (n + 1) q2) x25) X) (fuel : Nat) (hf : 8 ≤ fuel) :
    wpAnyH Try.prog .any ops29 Q' Z fuel #[true, true, true, true, false, false, true, true, true, true, true, false, false, true, true, true, true, true, false, false, false, false] (fr29 H i t0 t3 s1 s2 s3 undef undef undef undef undef undef undef) w0 := by
  have lt : ∀ (e k : Nat) (v : Value) (y : List Value), w0.ownsRow B e 1 v n y → (∀ q, v.ownBlock = some q → own0 q = k) → Kpt own0 w0 v y k := fun e k v y hr hk q hq => ⟨(own_lt hr q hq).2, hk q hq, own_reads hr hq⟩
  refine wpAnyH_inv (Inv29 B n y1 y2 y3 w0 own0 H i t0 t3 s1 s2 s3) (by kernel_rfl) ?_ ?_ ?_ _ _ _ _ (by rfl) (Nat.le_trans (of_decide_eq_true (by kernel_rfl) : cntF _ ≤ 8) hf) ⟨false, false, false, false, false, false, false, false, undef, undef, undef, undef, undef, undef, undef, own0, rfl, rfl, ⟨Only.refl _ _, fun _ _ => rfl, hh2, fun _ => hh4, fun h => (by cases h), ⟨fun _ _ => ⟨T.o1, w1⟩, fun h => (by cases h), fun h => (by cases h)⟩, lt _ _ _ _ T.o1 w1, fun h => (by cases h), ⟨fun _ _ => ⟨T.o2, w2⟩, fun h => (by cases h), fun h => (by cases h)⟩, lt _ _ _ _ T.o2 w2, fun h => (by cases h), ⟨fun _ _ => ⟨T.o3, w3⟩, fun h => (by cases h), fun h => (by cases h)⟩, lt _ _ _ _ T.o3 w3, fun h => (by cases h), fun h => (by cases h), fun h => (by cases h)⟩⟩
  · rintro l a X ⟨_, _, _, _, _, _, _, _, _, _, _, _, _, _, _, own, -, -, R⟩
    exact hZ X R.h2
  · intro l a X i' o hI ho h0 hdep K' hK'
    have hi : i' < 22 := (Array.getElem?_eq_some_iff.1 ho).1
    have c : i' = 0 ∨ i' = 1 ∨ i' = 2 ∨ i' = 3 ∨ i' = 4 ∨ i' = 5 ∨ i' = 6 ∨ i' = 7 ∨ i' = 8 ∨ i' = 9 ∨ i' = 10 ∨ i' = 11 ∨ i' = 12 ∨ i' = 13 ∨ i' = 14 ∨ i' = 15 ∨ i' = 16 ∨ i' = 17 ∨ i' = 18 ∨ i' = 19 ∨ i' = 20 ∨ i' = 21 := by omega
    rcases c with rfl | rfl | rfl | rfl | rfl | rfl | rfl | rfl | rfl | rfl | rfl | rfl | rfl | rfl | rfl | rfl | rfl | rfl | rfl | rfl | rfl | rfl
    · obtain ⟨_, _, _, _, _, _, _, _, _, _, _, _, _, _, _, own, rfl, -, -⟩ := hI
      exact Bool.noConfusion (show true = false from h0)
    · obtain ⟨_, _, _, _, _, _, _, _, _, _, _, _, _, _, _, own, rfl, -, -⟩ := hI
      exact Bool.noConfusion (show true = false from h0)
    · obtain ⟨_, _, _, _, _, _, _, _, _, _, _, _, _, _, _, own, rfl, -, -⟩ := hI
      exact Bool.noConfusion (show true = false from h0)
    · obtain ⟨_, _, _, _, _, _, _, _, _, _, _, _, _, _, _, own, rfl, -, -⟩ := hI
      exact Bool.noConfusion (show true = false from h0)
    · cases (show some ({ dst := some 9, op := Op.buildSlice 26 1 #[(0, Operand.tmp 8)], type := 26, pos := "headslaw.go:211", after := #[{ on := 3, ground := Ground.data }], guard := none } : Oper) = some o from ho)
      exact s29_4 B n y1 y2 y3 w0 own0 H i t0 t3 s1 s2 s3 hH hB hn o1 o2 _ l a X hI h0 hdep K' hK'
    · cases (show some ({ dst := some 10, op := Op.call { callee := Callee.builtin Builtin.append, args := #[Operand.tmp 6, Operand.tmp 9], argTypes := #[26, 26] }, type := 26, pos := "headslaw.go:211", after := #[{ on := 1, ground := Ground.data }, { on := 4, ground := Ground.data }], guard := none } : Oper) = some o from ho)
      exact s29_5 B n y1 y2 y3 w0 own0 H i t0 t3 s1 s2 s3 hH hB hn o1 o2 _ l a X hI h0 hdep K' hK'
    · obtain ⟨_, _, _, _, _, _, _, _, _, _, _, _, _, _, _, own, rfl, -, -⟩ := hI
      exact Bool.noConfusion (show true = false from h0)
    · obtain ⟨_, _, _, _, _, _, _, _, _, _, _, _, _, _, _, own, rfl, -, -⟩ := hI
      exact Bool.noConfusion (show true = false from h0)
    · obtain ⟨_, _, _, _, _, _, _, _, _, _, _, _, _, _, _, own, rfl, -, -⟩ := hI
      exact Bool.noConfusion (show true = false from h0)
    · obtain ⟨_, _, _, _, _, _, _, _, _, _, _, _, _, _, _, own, rfl, -, -⟩ := hI
      exact Bool.noConfusion (show true = false from h0)
    · obtain ⟨_, _, _, _, _, _, _, _, _, _, _, _, _, _, _, own, rfl, -, -⟩ := hI
      exact Bool.noConfusion (show true = false from h0)
    · cases (show some ({ dst := some 16, op := Op.buildSlice 27 1 #[(0, Operand.tmp 15)], type := 27, pos := "headslaw.go:211", after := #[{ on := 10, ground := Ground.data }], guard := none } : Oper) = some o from ho)
      exact s29_11 B n y1 y2 y3 w0 own0 H i t0 t3 s1 s2 s3 hH hB hn o1 o2 _ l a X hI h0 hdep K' hK'
    · cases (show some ({ dst := some 17, op := Op.call { callee := Callee.builtin Builtin.append, args := #[Operand.tmp 12, Operand.tmp 16], argTypes := #[27, 27] }, type := 27, pos := "headslaw.go:211", after := #[{ on := 7, ground := Ground.data }, { on := 11, ground := Ground.data }, { on := 5, ground := Ground.chain }], guard := none } : Oper) = some o from ho)
      exact s29_12 B n y1 y2 y3 w0 own0 H i t0 t3 s1 s2 s3 hH hB hn o1 o2 _ l a X hI h0 hdep K' hK'
    · obtain ⟨_, _, _, _, _, _, _, _, _, _, _, _, _, _, _, own, rfl, -, -⟩ := hI
      exact Bool.noConfusion (show true = false from h0)
    · obtain ⟨_, _, _, _, _, _, _, _, _, _, _, _, _, _, _, own, rfl, -, -⟩ := hI
      exact Bool.noConfusion (show true = false from h0)
    · obtain ⟨_, _, _, _, _, _, _, _, _, _, _, _, _, _, _, own, rfl, -, -⟩ := hI
      exact Bool.noConfusion (show true = false from h0)
    · obtain ⟨_, _, _, _, _, _, _, _, _, _, _, _, _, _, _, own, rfl, -, -⟩ := hI
      exact Bool.noConfusion (show true = false from h0)
    · obtain ⟨_, _, _, _, _, _, _, _, _, _, _, _, _, _, _, own, rfl, -, -⟩ := hI
      exact Bool.noConfusion (show true = false from h0)
    · cases (show some ({ dst := some 23, op := Op.buildSlice 27 1 #[(0, Operand.tmp 22)], type := 27, pos := "headslaw.go:211", after := #[{ on := 17, ground := Ground.data }], guard := none } : Oper) = some o from ho)
      exact s29_18 B n y1 y2 y3 w0 own0 H i t0 t3 s1 s2 s3 hH hB hn o1 o2 _ l a X hI h0 hdep K' hK'
    · cases (show some ({ dst := some 24, op := Op.call { callee := Callee.builtin Builtin.append, args := #[Operand.tmp 19, Operand.tmp 23], argTypes := #[27, 27] }, type := 27, pos := "headslaw.go:211", after := #[{ on := 14, ground := Ground.data }, { on := 18, ground := Ground.data }, { on := 12, ground := Ground.chain }], guard := none } : Oper) = some o from ho)
      exact s29_19 B n y1 y2 y3 w0 own0 H i t0 t3 s1 s2 s3 hH hB hn o1 o2 _ l a X hI h0 hdep K' hK'
    · cases (show some ({ dst := some 25, op := Op.build 29 #[(0, Operand.tmp 10), (1, Operand.tmp 17), (2, Operand.tmp 24)], type := 29, pos := "headslaw.go:211", after := #[{ on := 5, ground := Ground.data }, { on := 12, ground := Ground.data }, { on := 19, ground := Ground.data }], guard := none } : Oper) = some o from ho)
      exact s29_20 B n y1 y2 y3 w0 own0 H i t0 t3 s1 s2 s3 hH hB hn o1 o2 _ l a X hI h0 hdep K' hK'
    · cases (show some ({ dst := none, op := Op.store 29 (Operand.tmp 4) (Operand.tmp 25), type := 0, pos := "headslaw.go:211", after := #[{ on := 20, ground := Ground.data }, { on := 19, ground := Ground.chain }, { on := 0, ground := Ground.phase }, { on := 1, ground := Ground.phase }, { on := 2, ground := Ground.phase }, { on := 3, ground := Ground.phase }, { on := 4, ground := Ground.phase }, { on := 5, ground := Ground.phase }, { on := 6, ground := Ground.phase }, { on := 7, ground := Ground.phase }, { on := 8, ground := Ground.phase }, { on := 9, ground := Ground.phase }, { on := 10, ground := Ground.phase }, { on := 11, ground := Ground.phase }, { on := 12, ground := Ground.phase }, { on := 13, ground := Ground.phase }, { on := 14, ground := Ground.phase }, { on := 15, ground := Ground.phase }, { on := 16, ground := Ground.phase }, { on := 17, ground := Ground.phase }, { on := 18, ground := Ground.phase }, { on := 19, ground := Ground.phase }, { on := 20, ground := Ground.phase }], guard := none } : Oper) = some o from ho)
      exact s29_21 B n y1 y2 y3 w0 own0 H i t0 t3 s1 s2 s3 hH hB hn o1 o2 _ l a X hI h0 hdep K' hK'
  · rintro l a X ⟨b4, b5, b11, b12, b18, b19, b20, b21, x9, x10, x16, x17, x23, x24, x25, own, rfl, rfl, R⟩ hall
    have e7 : b21 = true := hall 21
    subst e7
    have r20 := R.c21 rfl
    subst r20
    obtain ⟨⟨r5, r12, r19⟩, r25⟩ := R.c20 rfl
    subst r5 r12 r19
    obtain ⟨g0, q0, m0, n0, v0⟩ := R.k0.post rfl
    obtain ⟨g1, q1, m1, n1, v1⟩ := R.k1.post rfl
    obtain ⟨g2, q2, m2, n2, v2⟩ := R.k2.post rfl
    subst m0 m1 m2
    exact hfin g0 g1 g2 q0 q1 q2 X R.hO ⟨n0, n1, n2, fun q a b => (by injection a with a; injection b with b; have : g0 = q := a; have : g1 = q := b; subst_vars; omega), fun q a b => (by injection a with a; injection b with b; have : g0 = q := a; have : g2 = q := b; subst_vars; omega), fun q a b => (by injection a with a; injection b with b; have : g1 = q := a; have : g2 = q := b; subst_vars; omega)⟩ (fun q hq => (R.p0 q hq).2.2) (fun q hq => (R.p1 q hq).2.2) (fun q hq => (R.p2 q hq).2.2) (R.h5 rfl) (fun h => (R.oo g0 h).symm.trans v0) (fun h => (R.oo g1 h).symm.trans v1) (fun h => (R.oo g2 h).symm.trans v2) _ _ _ _
end Go.Proofs.Ytbonmajnkbggcab
