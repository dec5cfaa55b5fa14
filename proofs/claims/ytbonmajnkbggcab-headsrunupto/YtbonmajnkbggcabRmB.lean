import Derived.Test.YtbonmajnkbggcabRmA
import Derived.Deep.RegionHeld3
namespace Go.Proofs.Ytbonmajnkbggcab
open Go.RowKit
set_option linter.unusedVariables false


abbrev roomS : ByteArray := ⟨#[114, 111, 111, 109]⟩
abbrev mkG : List Value := [.string roomS, .int .i64 0, .int .i64 (-7), .int .i64 0, .int .i64 0]
abbrev mkC : List Value := [.int .i64 (-7), .int .i64 0, .int .i64 0, .int .i64 0]
abbrev mkA : List Value := [.int .i64 (-7)]
abbrev mkI : List Value := [.int .i32 (-7)]
abbrev mkM : List Value := [.int .u64 777]

structure RoomR (B : Nat) (w : World) (G : List Gp) (C : List Cf) (A I W : List Int) (M : List Nat) (g1 e1 g2 e2 g3 e3 g4 e4 g5 e5 g6 e6 : Nat) : Prop where
  fg : w.ownsRow B 58 5 (.slice (some ⟨g1, 0, none⟩) (G.length + 1) e1) (G.length + 1) (cellsF Gp.cs G ++ mkG)
  fc : w.ownsRow B 61 4 (.slice (some ⟨g2, 0, none⟩) (C.length + 1) e2) (C.length + 1) (cellsF Cf.cs C ++ mkC)
  fa : w.ownsRow B 3 1 (.slice (some ⟨g3, 0, none⟩) (A.length + 1) e3) (A.length + 1) (cellsF n64 A ++ mkA)
  fi : w.ownsRow B 21 1 (.slice (some ⟨g4, 0, none⟩) (I.length + 1) e4) (I.length + 1) (cellsF n32 I ++ mkI)
  fw : w.ownsRow B 21 1 (.slice (some ⟨g5, 0, none⟩) (W.length + 1) e5) (W.length + 1) (cellsF n32 W ++ mkI)
  fm : w.ownsRow B 30 1 (.slice (some ⟨g6, 0, none⟩) (M.length + 1) e6) (M.length + 1) (cellsF u64 M ++ mkM)

abbrev ops93 : Array Oper := #[{ dst := some 11, op := Op.fieldAddr 25 (Operand.tmp 3) 0, type := 0, pos := "headslaw.go:82", after := #[], guard := none },
  { dst := some 12, op := Op.load 22 (Operand.tmp 11), type := 22, pos := "headslaw.go:82", after := #[{ on := 0, ground := Ground.data }], guard := none },
  { dst := some 13, op := Op.build 58 #[(0, Operand.const (Value.string { data := #[114, 111, 111, 109] })), (2, Operand.const (Value.int IntKind.i64 (-7)))], type := 58, pos := "headslaw.go:82", after := #[], guard := none },
  { dst := some 14, op := Op.buildSlice 22 1 #[(0, Operand.tmp 13)], type := 22, pos := "headslaw.go:82", after := #[{ on := 2, ground := Ground.data }], guard := none },
  { dst := some 15, op := Op.call { callee := Callee.builtin Builtin.append, args := #[Operand.tmp 12, Operand.tmp 14], argTypes := #[22, 22] }, type := 22, pos := "headslaw.go:82", after := #[{ on := 1, ground := Ground.data }, { on := 3, ground := Ground.data }], guard := none },
  { dst := some 16, op := Op.fieldAddr 25 (Operand.tmp 3) 1, type := 0, pos := "headslaw.go:82", after := #[], guard := none },
  { dst := some 17, op := Op.load 23 (Operand.tmp 16), type := 23, pos := "headslaw.go:82", after := #[{ on := 5, ground := Ground.data }], guard := none },
  { dst := some 18, op := Op.build 61 #[(0, Operand.const (Value.int IntKind.i64 (-7)))], type := 61, pos := "headslaw.go:82", after := #[], guard := none },
  { dst := some 19, op := Op.buildSlice 23 1 #[(0, Operand.tmp 18)], type := 23, pos := "headslaw.go:82", after := #[{ on := 7, ground := Ground.data }], guard := none },
  { dst := some 20, op := Op.call { callee := Callee.builtin Builtin.append, args := #[Operand.tmp 17, Operand.tmp 19], argTypes := #[23, 23] }, type := 23, pos := "headslaw.go:82", after := #[{ on := 6, ground := Ground.data }, { on := 8, ground := Ground.data }, { on := 4, ground := Ground.chain }], guard := none },
  { dst := some 21, op := Op.build 25 #[(0, Operand.tmp 15), (1, Operand.tmp 20)], type := 25, pos := "headslaw.go:82", after := #[{ on := 4, ground := Ground.data }, { on := 9, ground := Ground.data }], guard := none },
  { dst := some 22, op := Op.fieldAddr 29 (Operand.tmp 4) 0, type := 0, pos := "headslaw.go:82", after := #[], guard := none },
  { dst := some 23, op := Op.load 26 (Operand.tmp 22), type := 26, pos := "headslaw.go:82", after := #[{ on := 11, ground := Ground.data }], guard := none },
  { dst := some 24, op := Op.buildSlice 26 1 #[(0, Operand.const (Value.int IntKind.i64 (-7)))], type := 26, pos := "headslaw.go:82", after := #[], guard := none },
  { dst := some 25, op := Op.call { callee := Callee.builtin Builtin.append, args := #[Operand.tmp 23, Operand.tmp 24], argTypes := #[26, 26] }, type := 26, pos := "headslaw.go:82", after := #[{ on := 12, ground := Ground.data }, { on := 13, ground := Ground.data }, { on := 9, ground := Ground.chain }], guard := none },
  { dst := some 26, op := Op.fieldAddr 29 (Operand.tmp 4) 1, type := 0, pos := "headslaw.go:82", after := #[], guard := none },
  { dst := some 27, op := Op.load 27 (Operand.tmp 26), type := 27, pos := "headslaw.go:82", after := #[{ on := 15, ground := Ground.data }], guard := none },
  { dst := some 28, op := Op.buildSlice 27 1 #[(0, Operand.const (Value.int IntKind.i32 (-7)))], type := 27, pos := "headslaw.go:82", after := #[], guard := none },
  { dst := some 29, op := Op.call { callee := Callee.builtin Builtin.append, args := #[Operand.tmp 27, Operand.tmp 28], argTypes := #[27, 27] }, type := 27, pos := "headslaw.go:82", after := #[{ on := 16, ground := Ground.data }, { on := 17, ground := Ground.data }, { on := 14, ground := Ground.chain }], guard := none },
  { dst := some 30, op := Op.fieldAddr 29 (Operand.tmp 4) 2, type := 0, pos := "headslaw.go:82", after := #[], guard := none },
  { dst := some 31, op := Op.load 27 (Operand.tmp 30), type := 27, pos := "headslaw.go:82", after := #[{ on := 19, ground := Ground.data }], guard := none },
  { dst := some 32, op := Op.buildSlice 27 1 #[(0, Operand.const (Value.int IntKind.i32 (-7)))], type := 27, pos := "headslaw.go:82", after := #[], guard := none },
  { dst := some 33, op := Op.call { callee := Callee.builtin Builtin.append, args := #[Operand.tmp 31, Operand.tmp 32], argTypes := #[27, 27] }, type := 27, pos := "headslaw.go:82", after := #[{ on := 20, ground := Ground.data }, { on := 21, ground := Ground.data }, { on := 18, ground := Ground.chain }], guard := none },
  { dst := some 34, op := Op.build 29 #[(0, Operand.tmp 25), (1, Operand.tmp 29), (2, Operand.tmp 33)], type := 29, pos := "headslaw.go:82", after := #[{ on := 14, ground := Ground.data }, { on := 18, ground := Ground.data }, { on := 22, ground := Ground.data }], guard := none },
  { dst := some 35, op := Op.move (Operand.tmp 2), type := 31, pos := "headslaw.go:82", after := #[], guard := none },
  { dst := some 36, op := Op.call { callee := Callee.builtin Builtin.append, args := #[Operand.const (Value.slice none 0 0), Operand.tmp 35], argTypes := #[31, 31] }, type := 31, pos := "headslaw.go:82", after := #[{ on := 24, ground := Ground.data }, { on := 22, ground := Ground.chain }], guard := none },
  { dst := some 37, op := Op.buildSlice 31 1 #[(0, Operand.const (Value.int IntKind.u64 777))], type := 31, pos := "headslaw.go:82", after := #[], guard := none },
  { dst := some 38, op := Op.call { callee := Callee.builtin Builtin.append, args := #[Operand.tmp 36, Operand.tmp 37], argTypes := #[31, 31] }, type := 31, pos := "headslaw.go:82", after := #[{ on := 25, ground := Ground.data }, { on := 26, ground := Ground.data }, { on := 25, ground := Ground.chain }], guard := none },
  { dst := some 39, op := Op.build 33 #[(0, Operand.tmp 21), (1, Operand.tmp 34), (2, Operand.tmp 38)], type := 33, pos := "headslaw.go:82", after := #[{ on := 10, ground := Ground.data }, { on := 23, ground := Ground.data }, { on := 27, ground := Ground.data }], guard := none },
  { dst := none, op := Op.store 33 (Operand.tmp 6) (Operand.tmp 39), type := 0, pos := "headslaw.go:82", after := #[{ on := 28, ground := Ground.data }, { on := 27, ground := Ground.chain }, { on := 0, ground := Ground.phase }, { on := 1, ground := Ground.phase }, { on := 2, ground := Ground.phase }, { on := 3, ground := Ground.phase }, { on := 4, ground := Ground.phase }, { on := 5, ground := Ground.phase }, { on := 6, ground := Ground.phase }, { on := 7, ground := Ground.phase }, { on := 8, ground := Ground.phase }, { on := 9, ground := Ground.phase }, { on := 10, ground := Ground.phase }, { on := 11, ground := Ground.phase }, { on := 12, ground := Ground.phase }, { on := 13, ground := Ground.phase }, { on := 14, ground := Ground.phase }, { on := 15, ground := Ground.phase }, { on := 16, ground := Ground.phase }, { on := 17, ground := Ground.phase }, { on := 18, ground := Ground.phase }, { on := 19, ground := Ground.phase }, { on := 20, ground := Ground.phase }, { on := 21, ground := Ground.phase }, { on := 22, ground := Ground.phase }, { on := 23, ground := Ground.phase }, { on := 24, ground := Ground.phase }, { on := 25, ground := Ground.phase }, { on := 26, ground := Ground.phase }, { on := 27, ground := Ground.phase }, { on := 28, ground := Ground.phase }], guard := none }]
abbrev lst (b3 b4 b8 b9 b10 b13 b14 b17 b18 b21 b22 b23 b25 b26 b27 b28 b29 : Bool) : Array Bool := #[true, true, true, b3, b4, true, true, true, b8, b9, b10, true, true, b13, b14, true, true, b17, b18, true, true, b21, b22, b23, true, b25, b26, b27, b28, b29]
abbrev frm (t0 t1 t2 t7 t8 t9 t10 s1 s2 s3 s4 s5 : Value) (N : Nat) (x14 x15 x19 x20 x21 x24 x25 x28 x29 x32 x33 x34 x36 x37 x38 x39 : Value) : Act := { tmps := #[t0, t1, t2, .pointer (some ⟨N, 0, none⟩), .pointer (some ⟨N + 1, 0, none⟩), undef, .pointer (some ⟨N + 1 + 1, 0, none⟩), t7, t8, t9, t10, .pointer (some ⟨N, 0, none⟩), s1, .agg #[.string roomS, .int .i64 0, .int .i64 (-7), .int .i64 0, .int .i64 0], x14, x15, .pointer (some ⟨N, 1, none⟩), s2, .agg #[.int .i64 (-7), .int .i64 0, .int .i64 0, .int .i64 0], x19, x20, x21, .pointer (some ⟨N + 1, 0, none⟩), s3, x24, x25, .pointer (some ⟨N + 1, 1, none⟩), s4, x28, x29, .pointer (some ⟨N + 1, 2, none⟩), s5, x32, x33, x34, t2, x36, x37, x38, x39], defers := [] }
structure RI (G : List Gp) (C : List Cf) (A I W : List Int) (M : List Nat) (w0 : World) (s1 s2 s3 s4 s5 : Value) (b3 b4 b8 b9 b10 b13 b14 b17 b18 b21 b22 b23 b25 b26 b27 b28 b29 : Bool) (x14 x15 x19 x20 x21 x24 x25 x28 x29 x32 x33 x34 x36 x37 x38 x39 : Value) (own : Nat → Nat) (w : World) : Prop where
  hb : Below w0.heap.size w0 w
  hB : w0.heap.size + 3 ≤ w.heap.size
  ob : ∀ q, q < w0.heap.size + 3 → own q = 99
  h3 : Has w w0.heap.size #[s1, s2]
  h4 : Has w (w0.heap.size + 1) #[s3, s4, s5]
  h6 : b29 = false → Has w (w0.heap.size + 1 + 1) #[.slice none 0 0, .slice none 0 0, .slice none 0 0, .slice none 0 0, .slice none 0 0, .slice none 0 0]
  h7 : b29 = true → Has w (w0.heap.size + 1 + 1) #[x15, x20, x25, x29, x33, x38]
  k0 : Ch own w (w0.heap.size + 3) 0 58 5 G.length (cellsF Gp.cs G) mkG s1 x14 x15 true b3 b4
  k1 : Ch own w (w0.heap.size + 3) 1 61 4 C.length (cellsF Cf.cs C) mkC s2 x19 x20 true b8 b9
  k2 : Ch own w (w0.heap.size + 3) 2 3 1 A.length (cellsF n64 A) mkA s3 x24 x25 true b13 b14
  k3 : Ch own w (w0.heap.size + 3) 3 21 1 I.length (cellsF n32 I) mkI s4 x28 x29 true b17 b18
  k4 : Ch own w (w0.heap.size + 3) 4 21 1 W.length (cellsF n32 W) mkI s5 x32 x33 true b21 b22
  k5 : Ch own w (w0.heap.size + 3) 5 30 1 M.length (cellsF u64 M) mkM x36 x37 x38 b25 b26 b27
  c10 : b10 = true → b4 = true ∧ b9 = true ∧ x21 = .agg #[x15, x20]
  c23 : b23 = true → b14 = true ∧ b18 = true ∧ b22 = true ∧ x34 = .agg #[x25, x29, x33]
  c28 : b28 = true → (b4 = true ∧ b9 = true ∧ b14 = true ∧ b18 = true ∧ b22 = true ∧ b27 = true) ∧ b10 = true ∧ b23 = true ∧ x39 = .agg #[x15, x20, x25, x29, x33, x38]
  c29 : b29 = true → (b4 = true ∧ b9 = true ∧ b14 = true ∧ b18 = true ∧ b22 = true ∧ b27 = true) ∧ b28 = true
  c27 : b27 = true → b25 = true
  d0 : b3 = false → b4 = false
  d1 : b8 = false → b9 = false
  d2 : b13 = false → b14 = false
  d3 : b17 = false → b18 = false
  d4 : b21 = false → b22 = false
  d5 : b26 = false → b27 = false
abbrev InvR (G : List Gp) (C : List Cf) (A I W : List Int) (M : List Nat) (w0 : World) (t0 t1 t2 t7 t8 t9 t10 s1 s2 s3 s4 s5 : Value) (l : Array Bool) (a : Act) (w : World) : Prop :=
  ∃ (b3 b4 b8 b9 b10 b13 b14 b17 b18 b21 b22 b23 b25 b26 b27 b28 b29 : Bool) (x14 x15 x19 x20 x21 x24 x25 x28 x29 x32 x33 x34 x36 x37 x38 x39 : Value) (own : Nat → Nat), l = lst b3 b4 b8 b9 b10 b13 b14 b17 b18 b21 b22 b23 b25 b26 b27 b28 b29 ∧ a = frm t0 t1 t2 t7 t8 t9 t10 s1 s2 s3 s4 s5 w0.heap.size x14 x15 x19 x20 x21 x24 x25 x28 x29 x32 x33 x34 x36 x37 x38 x39 ∧ RI G C A I W M w0 s1 s2 s3 s4 s5 b3 b4 b8 b9 b10 b13 b14 b17 b18 b21 b22 b23 b25 b26 b27 b28 b29 x14 x15 x19 x20 x21 x24 x25 x28 x29 x32 x33 x34 x36 x37 x38 x39 own w
theorem Ch.alloc {own : Nat → Nat} {w : World} {B k j e sz n : Nat} {xs ms : List Value} {v xb xa : Value} {bv bb ba : Bool} (h : Ch own w B k e sz n xs ms v xb xa bv bb ba) (o : Obj) : Ch (updO own w.heap.size j) (w.alloc o) B k e sz n xs ms v xb xa bv bb ba :=
  h.move (S := fun _ => False) ((Only.refl _ _).alloc o) (fun _ _ h => h) (fun q hq => updO_old hq)
end Go.Proofs.Ytbonmajnkbggcab
