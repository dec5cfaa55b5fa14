import Derived.Test.YthflpnahifpdnaaSpH
import Derived.Deep.RegionHeld3
namespace Go.Proofs.Ythflpnahifpdnaa
open Go.RowKit
set_option linter.unusedVariables false


abbrev opsC62 : Array Oper := #[{ dst := some 6, op := Op.move (Operand.tmp 0), type := 85, pos := "step.go:119", after := #[], guard := none }, { dst := some 7, op := Op.nilCheck (Operand.tmp 6), type := 0, pos := "step.go:119", after := #[{ on := 0, ground := Ground.data }], guard := none }, { dst := some 8, op := Op.fieldAddr 87 (Operand.tmp 7) 3, type := 0, pos := "step.go:119", after := #[{ on := 1, ground := Ground.data }], guard := none }, { dst := some 9, op := Op.load 34 (Operand.tmp 8), type := 34, pos := "step.go:119", after := #[{ on := 2, ground := Ground.data }], guard := none }, { dst := some 10, op := Op.move (Operand.tmp 0), type := 85, pos := "step.go:119", after := #[], guard := none }, { dst := some 11, op := Op.nilCheck (Operand.tmp 10), type := 0, pos := "step.go:119", after := #[{ on := 4, ground := Ground.data }], guard := none }, { dst := some 12, op := Op.fieldAddr 87 (Operand.tmp 11) 3, type := 0, pos := "step.go:119", after := #[{ on := 5, ground := Ground.data }], guard := none }, { dst := some 13, op := Op.load 34 (Operand.tmp 12), type := 34, pos := "step.go:119", after := #[{ on := 6, ground := Ground.data }], guard := none }, { dst := some 14, op := Op.call { callee := Callee.builtin Builtin.len, args := #[Operand.tmp 13], argTypes := #[34] }, type := 3, pos := "step.go:119", after := #[{ on := 7, ground := Ground.data }], guard := none }, { dst := some 15, op := Op.makeSlice 35 (Operand.tmp 14) (Operand.tmp 14), type := 35, pos := "step.go:119", after := #[{ on := 8, ground := Ground.data }, { on := 8, ground := Ground.data }], guard := none }, { dst := some 16, op := Op.move (Operand.tmp 0), type := 85, pos := "step.go:119", after := #[], guard := none }, { dst := some 17, op := Op.nilCheck (Operand.tmp 16), type := 0, pos := "step.go:119", after := #[{ on := 10, ground := Ground.data }], guard := none }, { dst := some 18, op := Op.fieldAddr 87 (Operand.tmp 17) 3, type := 0, pos := "step.go:119", after := #[{ on := 11, ground := Ground.data }], guard := none }, { dst := some 19, op := Op.load 34 (Operand.tmp 18), type := 34, pos := "step.go:119", after := #[{ on := 12, ground := Ground.data }], guard := none }, { dst := some 20, op := Op.call { callee := Callee.builtin Builtin.len, args := #[Operand.tmp 19], argTypes := #[34] }, type := 3, pos := "step.go:119", after := #[{ on := 13, ground := Ground.data }], guard := none }, { dst := some 21, op := Op.makeSlice 35 (Operand.tmp 20) (Operand.tmp 20), type := 35, pos := "step.go:119", after := #[{ on := 14, ground := Ground.data }, { on := 14, ground := Ground.data }], guard := none }, { dst := some 22, op := Op.build 37 #[(0, Operand.tmp 9), (1, Operand.tmp 15), (2, Operand.tmp 21)], type := 37, pos := "step.go:119", after := #[{ on := 3, ground := Ground.data }, { on := 9, ground := Ground.data }, { on := 15, ground := Ground.data }], guard := none }, { dst := some 3, op := Op.alloc 37, type := 0, pos := "step.go:119", after := #[], guard := none }, { dst := none, op := Op.store 37 (Operand.tmp 3) (Operand.tmp 22), type := 0, pos := "step.go:119", after := #[{ on := 17, ground := Ground.data }, { on := 16, ground := Ground.data }, { on := 0, ground := Ground.phase }, { on := 1, ground := Ground.phase }, { on := 2, ground := Ground.phase }, { on := 3, ground := Ground.phase }, { on := 4, ground := Ground.phase }, { on := 5, ground := Ground.phase }, { on := 6, ground := Ground.phase }, { on := 7, ground := Ground.phase }, { on := 8, ground := Ground.phase }, { on := 9, ground := Ground.phase }, { on := 10, ground := Ground.phase }, { on := 11, ground := Ground.phase }, { on := 12, ground := Ground.phase }, { on := 13, ground := Ground.phase }, { on := 14, ground := Ground.phase }, { on := 15, ground := Ground.phase }, { on := 16, ground := Ground.phase }, { on := 17, ground := Ground.phase }], guard := none }]
abbrev frC62 (n : Nat) (r : Nat) (t0 t2 t8 : Value) (x15 x21 xal xbu : Value) : Act := { tmps := #[t0, undef, t2, xal, undef, undef, t0, t0, t8, .slice (some ⟨r, 0, none⟩) n n, t0, t0, t8, .slice (some ⟨r, 0, none⟩) n n, .int .i64 (n : Int), x15, t0, t0, t8, .slice (some ⟨r, 0, none⟩) n n, .int .i64 (n : Int), x21, xbu, undef, undef, undef, undef, undef, undef, undef, undef, undef, undef, undef, undef, undef, undef, undef, undef, undef, undef, undef, undef, undef, undef, undef, undef, undef, undef, undef, undef, undef, undef, undef, undef, undef, undef, undef, undef, undef, undef, undef, undef, undef, undef, undef, undef, undef, undef, undef, undef, undef, undef, undef, undef, undef, undef], defers := [] }
structure RIC62 (n : Nat) (w0 : World) (r : Nat) (t0 t2 t8 : Value) (b9 b15 bal bbu bst : Bool) (x15 x21 xal xbu : Value) (own : Nat → Nat) (w : World) : Prop where
  hb : Below w0.heap.size w0 w
  c0 : b9 = true → ∃ p, x15 = .slice (some ⟨p, 0, none⟩) n n ∧ w.ownsRow w0.heap.size 21 1 (.slice (some ⟨p, 0, none⟩) n n) n (List.replicate n (.int .i32 0)) ∧ own p = 0
  c1 : b15 = true → ∃ p, x21 = .slice (some ⟨p, 0, none⟩) n n ∧ w.ownsRow w0.heap.size 21 1 (.slice (some ⟨p, 0, none⟩) n n) n (List.replicate n (.int .i32 0)) ∧ own p = 1
  ca : bal = true → ∃ p, xal = .pointer (some ⟨p, 0, none⟩) ∧ w0.heap.size ≤ p ∧ own p = 99 ∧ (bst = false → Has w p #[.slice none 0 0, .slice none 0 0, .slice none 0 0]) ∧ (bst = true → Has w p #[.slice (some ⟨r, 0, none⟩) n n, x15, x21])
  cb : bbu = true → (b9 = true ∧ b15 = true) ∧ xbu = .agg #[.slice (some ⟨r, 0, none⟩) n n, x15, x21]
  cs : bst = true → bbu = true ∧ bal = true
abbrev InvC62 (n : Nat) (r : Nat) (t0 t2 t8 : Value) (w0 : World) (l : Array Bool) (a : Act) (w : World) : Prop :=
  ∃ (b9 b15 bal bbu bst : Bool) (x15 x21 xal xbu : Value) (own : Nat → Nat), l = #[true, true, true, true, true, true, true, true, true, b9, true, true, true, true, true, b15, bbu, bal, bst] ∧ a = frC62 n r t0 t2 t8 x15 x21 xal xbu ∧ RIC62 n w0 r t0 t2 t8 b9 b15 bal bbu bst x15 x21 xal xbu own w

set_option maxRecDepth 100000 in
set_option maxHeartbeats 4000000 in
theorem sC62_9 (n : Nat) (r : Nat) (t0 t2 t8 : Value) (w0 : World) (hn : n ≤ 64) (Q' : Exit → Act → World → Prop) (l : Array Bool) (a : Act) (w : World) (hI : InvC62 n r t0 t2 t8 w0 l a w) (h0 : l.getD 9 true = false) (hdep : ∀ e ∈ ({ dst := some 15, op := Op.makeSlice 35 (Operand.tmp 14) (Operand.tmp 14), type := 35, pos := "step.go:119", after := #[{ on := 8, ground := Ground.data }, { on := 8, ground := Ground.data }], guard := none } : Oper).after, Region.binds .any e = true → l.getD e.on false = true) (K : Act → World → Prop) (hK : ∀ a' w', InvC62 n r t0 t2 t8 w0 (l.setIfInBounds 9 true) a' w' → K a' w') :
    if Region.wanted ({ dst := some 15, op := Op.makeSlice 35 (Operand.tmp 14) (Operand.tmp 14), type := 35, pos := "step.go:119", after := #[{ on := 8, ground := Ground.data }, { on := 8, ground := Ground.data }], guard := none } : Oper) (yielded opsC62 a.tmps) = true then Oper.wp Try.prog ({ dst := some 15, op := Op.makeSlice 35 (Operand.tmp 14) (Operand.tmp 14), type := 35, pos := "step.go:119", after := #[{ on := 8, ground := Ground.data }, { on := 8, ground := Ground.data }], guard := none } : Oper) a w K Q' else K (a.put ({ dst := some 15, op := Op.makeSlice 35 (Operand.tmp 14) (Operand.tmp 14), type := 35, pos := "step.go:119", after := #[{ on := 8, ground := Ground.data }, { on := 8, ground := Ground.data }], guard := none } : Oper).dst undef) w := by
  obtain ⟨b9, b15, bal, bbu, bst, x15, x21, xal, xbu, own, rfl, rfl, R⟩ := hI
  have ee : b9 = false := h0
  subst ee
  clear h0 hdep
  have q1 : bbu = false := by
    cases hq : bbu with
    | false => rfl
    | true => exact absurd (R.cb hq).1.1 (by decide)
  subst q1
  have q2 : bst = false := by
    cases hq : bst with
    | false => rfl
    | true => exact absurd (R.cs hq).1 (by decide)
  subst q2
  obtain ⟨ti, hi, hi0, hi1, hi2⟩ := info_parts info21m
  refine step_make rfl _ 35 rfl 21 ti _ Try.underlying35 hi hi0 hi1 rfl n rfl (by rw [hi2]; omega) (by unfold maxLen; omega) w0.heap.size R.hb.size ?_
  intro w2 o2 hb2
  refine hK _ _ ?_
  exact ⟨_, _, _, _, _, _, _, _, _, updO own w.heap.size 0, rfl, rfl, ⟨bel_after R.hb R.hb.size hb2, fun _ => ⟨_, rfl, o2, updO_new (Nat.le_refl _)⟩, fun h => (R.c1 h).imp fun p hp => ⟨hp.1, own_bel hp.2.1 hb2, (updO_old (own_lt hp.2.1 p rfl).2).trans hp.2.2⟩, fun h => (R.ca h).imp fun p hp => ⟨hp.1, hp.2.1, (updO_old (hp.2.2.2.1 rfl).1).trans hp.2.2.1, fun h => (hp.2.2.2.1 h).below hb2, fun h => (by cases h)⟩, fun h => (by cases h), fun h => (by cases h)⟩⟩

set_option maxRecDepth 100000 in
set_option maxHeartbeats 4000000 in
theorem sC62_15 (n : Nat) (r : Nat) (t0 t2 t8 : Value) (w0 : World) (hn : n ≤ 64) (Q' : Exit → Act → World → Prop) (l : Array Bool) (a : Act) (w : World) (hI : InvC62 n r t0 t2 t8 w0 l a w) (h0 : l.getD 15 true = false) (hdep : ∀ e ∈ ({ dst := some 21, op := Op.makeSlice 35 (Operand.tmp 20) (Operand.tmp 20), type := 35, pos := "step.go:119", after := #[{ on := 14, ground := Ground.data }, { on := 14, ground := Ground.data }], guard := none } : Oper).after, Region.binds .any e = true → l.getD e.on false = true) (K : Act → World → Prop) (hK : ∀ a' w', InvC62 n r t0 t2 t8 w0 (l.setIfInBounds 15 true) a' w' → K a' w') :
    if Region.wanted ({ dst := some 21, op := Op.makeSlice 35 (Operand.tmp 20) (Operand.tmp 20), type := 35, pos := "step.go:119", after := #[{ on := 14, ground := Ground.data }, { on := 14, ground := Ground.data }], guard := none } : Oper) (yielded opsC62 a.tmps) = true then Oper.wp Try.prog ({ dst := some 21, op := Op.makeSlice 35 (Operand.tmp 20) (Operand.tmp 20), type := 35, pos := "step.go:119", after := #[{ on := 14, ground := Ground.data }, { on := 14, ground := Ground.data }], guard := none } : Oper) a w K Q' else K (a.put ({ dst := some 21, op := Op.makeSlice 35 (Operand.tmp 20) (Operand.tmp 20), type := 35, pos := "step.go:119", after := #[{ on := 14, ground := Ground.data }, { on := 14, ground := Ground.data }], guard := none } : Oper).dst undef) w := by
  obtain ⟨b9, b15, bal, bbu, bst, x15, x21, xal, xbu, own, rfl, rfl, R⟩ := hI
  have ee : b15 = false := h0
  subst ee
  clear h0 hdep
  have q1 : bbu = false := by
    cases hq : bbu with
    | false => rfl
    | true => exact absurd (R.cb hq).1.2 (by decide)
  subst q1
  have q2 : bst = false := by
    cases hq : bst with
    | false => rfl
    | true => exact absurd (R.cs hq).1 (by decide)
  subst q2
  obtain ⟨ti, hi, hi0, hi1, hi2⟩ := info_parts info21m
  refine step_make rfl _ 35 rfl 21 ti _ Try.underlying35 hi hi0 hi1 rfl n rfl (by rw [hi2]; omega) (by unfold maxLen; omega) w0.heap.size R.hb.size ?_
  intro w2 o2 hb2
  refine hK _ _ ?_
  exact ⟨_, _, _, _, _, _, _, _, _, updO own w.heap.size 1, rfl, rfl, ⟨bel_after R.hb R.hb.size hb2, fun h => (R.c0 h).imp fun p hp => ⟨hp.1, own_bel hp.2.1 hb2, (updO_old (own_lt hp.2.1 p rfl).2).trans hp.2.2⟩, fun _ => ⟨_, rfl, o2, updO_new (Nat.le_refl _)⟩, fun h => (R.ca h).imp fun p hp => ⟨hp.1, hp.2.1, (updO_old (hp.2.2.2.1 rfl).1).trans hp.2.2.1, fun h => (hp.2.2.2.1 h).below hb2, fun h => (by cases h)⟩, fun h => (by cases h), fun h => (by cases h)⟩⟩

set_option maxRecDepth 100000 in
set_option maxHeartbeats 4000000 in
theorem sC62_17 (n : Nat) (r : Nat) (t0 t2 t8 : Value) (w0 : World) (hn : n ≤ 64) (Q' : Exit → Act → World → Prop) (l : Array Bool) (a : Act) (w : World) (hI : InvC62 n r t0 t2 t8 w0 l a w) (h0 : l.getD 17 true = false) (hdep : ∀ e ∈ ({ dst := some 3, op := Op.alloc 37, type := 0, pos := "step.go:119", after := #[], guard := none } : Oper).after, Region.binds .any e = true → l.getD e.on false = true) (K : Act → World → Prop) (hK : ∀ a' w', InvC62 n r t0 t2 t8 w0 (l.setIfInBounds 17 true) a' w' → K a' w') :
    if Region.wanted ({ dst := some 3, op := Op.alloc 37, type := 0, pos := "step.go:119", after := #[], guard := none } : Oper) (yielded opsC62 a.tmps) = true then Oper.wp Try.prog ({ dst := some 3, op := Op.alloc 37, type := 0, pos := "step.go:119", after := #[], guard := none } : Oper) a w K Q' else K (a.put ({ dst := some 3, op := Op.alloc 37, type := 0, pos := "step.go:119", after := #[], guard := none } : Oper).dst undef) w := by
  obtain ⟨b9, b15, bal, bbu, bst, x15, x21, xal, xbu, own, rfl, rfl, R⟩ := hI
  have ee : bal = false := h0
  subst ee
  clear h0 hdep
  have q2 : bst = false := by
    cases hq : bst with
    | false => rfl
    | true => exact absurd (R.cs hq).2 (by decide)
  subst q2
  go_simp
  refine hK _ _ ?_
  have hbn : Below w.heap.size w (w.alloc (.cells #[.slice none 0 0, .slice none 0 0, .slice none 0 0] 37)) := belN1
  exact ⟨_, _, _, _, _, _, _, _, _, updO own w.heap.size 99, rfl, rfl, ⟨bel_after R.hb R.hb.size hbn, fun h => (R.c0 h).imp fun p hp => ⟨hp.1, own_bel hp.2.1 hbn, (updO_old (own_lt hp.2.1 p rfl).2).trans hp.2.2⟩, fun h => (R.c1 h).imp fun p hp => ⟨hp.1, own_bel hp.2.1 hbn, (updO_old (own_lt hp.2.1 p rfl).2).trans hp.2.2⟩, fun _ => ⟨_, rfl, R.hb.size, updO_new (Nat.le_refl _), fun _ => Has.new _ _ _ rfl, fun h => (by cases h)⟩, R.cb, fun h => (by cases h)⟩⟩

set_option maxRecDepth 100000 in
set_option maxHeartbeats 4000000 in
theorem sC62_16 (n : Nat) (r : Nat) (t0 t2 t8 : Value) (w0 : World) (hn : n ≤ 64) (Q' : Exit → Act → World → Prop) (l : Array Bool) (a : Act) (w : World) (hI : InvC62 n r t0 t2 t8 w0 l a w) (h0 : l.getD 16 true = false) (hdep : ∀ e ∈ ({ dst := some 22, op := Op.build 37 #[(0, Operand.tmp 9), (1, Operand.tmp 15), (2, Operand.tmp 21)], type := 37, pos := "step.go:119", after := #[{ on := 3, ground := Ground.data }, { on := 9, ground := Ground.data }, { on := 15, ground := Ground.data }], guard := none } : Oper).after, Region.binds .any e = true → l.getD e.on false = true) (K : Act → World → Prop) (hK : ∀ a' w', InvC62 n r t0 t2 t8 w0 (l.setIfInBounds 16 true) a' w' → K a' w') :
    if Region.wanted ({ dst := some 22, op := Op.build 37 #[(0, Operand.tmp 9), (1, Operand.tmp 15), (2, Operand.tmp 21)], type := 37, pos := "step.go:119", after := #[{ on := 3, ground := Ground.data }, { on := 9, ground := Ground.data }, { on := 15, ground := Ground.data }], guard := none } : Oper) (yielded opsC62 a.tmps) = true then Oper.wp Try.prog ({ dst := some 22, op := Op.build 37 #[(0, Operand.tmp 9), (1, Operand.tmp 15), (2, Operand.tmp 21)], type := 37, pos := "step.go:119", after := #[{ on := 3, ground := Ground.data }, { on := 9, ground := Ground.data }, { on := 15, ground := Ground.data }], guard := none } : Oper) a w K Q' else K (a.put ({ dst := some 22, op := Op.build 37 #[(0, Operand.tmp 9), (1, Operand.tmp 15), (2, Operand.tmp 21)], type := 37, pos := "step.go:119", after := #[{ on := 3, ground := Ground.data }, { on := 9, ground := Ground.data }, { on := 15, ground := Ground.data }], guard := none } : Oper).dst undef) w := by
  obtain ⟨b9, b15, bal, bbu, bst, x15, x21, xal, xbu, own, rfl, rfl, R⟩ := hI
  have ee : bbu = false := h0
  subst ee
  have e9 : b9 = true := hdep ⟨9, Ground.data⟩ (by simp) rfl
  subst e9
  have e15 : b15 = true := hdep ⟨15, Ground.data⟩ (by simp) rfl
  subst e15
  clear h0 hdep
  obtain ⟨p0, e0, -, -⟩ := R.c0 rfl
  obtain ⟨p1, e1, -, -⟩ := R.c1 rfl
  subst e0 e1
  go_simp
  refine hK _ _ ?_
  exact ⟨_, _, _, _, _, _, _, _, _, own, rfl, rfl, ⟨R.hb, R.c0, R.c1, R.ca, fun _ => ⟨⟨rfl, rfl⟩, rfl⟩, fun h => absurd (R.cs h).1 (by decide)⟩⟩

set_option maxRecDepth 100000 in
set_option maxHeartbeats 4000000 in
theorem sC62_18 (n : Nat) (r : Nat) (t0 t2 t8 : Value) (w0 : World) (hn : n ≤ 64) (Q' : Exit → Act → World → Prop) (l : Array Bool) (a : Act) (w : World) (hI : InvC62 n r t0 t2 t8 w0 l a w) (h0 : l.getD 18 true = false) (hdep : ∀ e ∈ ({ dst := none, op := Op.store 37 (Operand.tmp 3) (Operand.tmp 22), type := 0, pos := "step.go:119", after := #[{ on := 17, ground := Ground.data }, { on := 16, ground := Ground.data }, { on := 0, ground := Ground.phase }, { on := 1, ground := Ground.phase }, { on := 2, ground := Ground.phase }, { on := 3, ground := Ground.phase }, { on := 4, ground := Ground.phase }, { on := 5, ground := Ground.phase }, { on := 6, ground := Ground.phase }, { on := 7, ground := Ground.phase }, { on := 8, ground := Ground.phase }, { on := 9, ground := Ground.phase }, { on := 10, ground := Ground.phase }, { on := 11, ground := Ground.phase }, { on := 12, ground := Ground.phase }, { on := 13, ground := Ground.phase }, { on := 14, ground := Ground.phase }, { on := 15, ground := Ground.phase }, { on := 16, ground := Ground.phase }, { on := 17, ground := Ground.phase }], guard := none } : Oper).after, Region.binds .any e = true → l.getD e.on false = true) (K : Act → World → Prop) (hK : ∀ a' w', InvC62 n r t0 t2 t8 w0 (l.setIfInBounds 18 true) a' w' → K a' w') :
    if Region.wanted ({ dst := none, op := Op.store 37 (Operand.tmp 3) (Operand.tmp 22), type := 0, pos := "step.go:119", after := #[{ on := 17, ground := Ground.data }, { on := 16, ground := Ground.data }, { on := 0, ground := Ground.phase }, { on := 1, ground := Ground.phase }, { on := 2, ground := Ground.phase }, { on := 3, ground := Ground.phase }, { on := 4, ground := Ground.phase }, { on := 5, ground := Ground.phase }, { on := 6, ground := Ground.phase }, { on := 7, ground := Ground.phase }, { on := 8, ground := Ground.phase }, { on := 9, ground := Ground.phase }, { on := 10, ground := Ground.phase }, { on := 11, ground := Ground.phase }, { on := 12, ground := Ground.phase }, { on := 13, ground := Ground.phase }, { on := 14, ground := Ground.phase }, { on := 15, ground := Ground.phase }, { on := 16, ground := Ground.phase }, { on := 17, ground := Ground.phase }], guard := none } : Oper) (yielded opsC62 a.tmps) = true then Oper.wp Try.prog ({ dst := none, op := Op.store 37 (Operand.tmp 3) (Operand.tmp 22), type := 0, pos := "step.go:119", after := #[{ on := 17, ground := Ground.data }, { on := 16, ground := Ground.data }, { on := 0, ground := Ground.phase }, { on := 1, ground := Ground.phase }, { on := 2, ground := Ground.phase }, { on := 3, ground := Ground.phase }, { on := 4, ground := Ground.phase }, { on := 5, ground := Ground.phase }, { on := 6, ground := Ground.phase }, { on := 7, ground := Ground.phase }, { on := 8, ground := Ground.phase }, { on := 9, ground := Ground.phase }, { on := 10, ground := Ground.phase }, { on := 11, ground := Ground.phase }, { on := 12, ground := Ground.phase }, { on := 13, ground := Ground.phase }, { on := 14, ground := Ground.phase }, { on := 15, ground := Ground.phase }, { on := 16, ground := Ground.phase }, { on := 17, ground := Ground.phase }], guard := none } : Oper) a w K Q' else K (a.put ({ dst := none, op := Op.store 37 (Operand.tmp 3) (Operand.tmp 22), type := 0, pos := "step.go:119", after := #[{ on := 17, ground := Ground.data }, { on := 16, ground := Ground.data }, { on := 0, ground := Ground.phase }, { on := 1, ground := Ground.phase }, { on := 2, ground := Ground.phase }, { on := 3, ground := Ground.phase }, { on := 4, ground := Ground.phase }, { on := 5, ground := Ground.phase }, { on := 6, ground := Ground.phase }, { on := 7, ground := Ground.phase }, { on := 8, ground := Ground.phase }, { on := 9, ground := Ground.phase }, { on := 10, ground := Ground.phase }, { on := 11, ground := Ground.phase }, { on := 12, ground := Ground.phase }, { on := 13, ground := Ground.phase }, { on := 14, ground := Ground.phase }, { on := 15, ground := Ground.phase }, { on := 16, ground := Ground.phase }, { on := 17, ground := Ground.phase }], guard := none } : Oper).dst undef) w := by
  obtain ⟨b9, b15, bal, bbu, bst, x15, x21, xal, xbu, own, rfl, rfl, R⟩ := hI
  have ee : bst = false := h0
  subst ee
  have e16 : bbu = true := hdep ⟨16, Ground.data⟩ (by simp) rfl
  subst e16
  have e17 : bal = true := hdep ⟨17, Ground.data⟩ (by simp) rfl
  subst e17
  clear h0 hdep
  obtain ⟨⟨r0, r1⟩, rb⟩ := R.cb rfl
  subst r0 r1
  obtain ⟨p0, e0, o0, w0⟩ := R.c0 rfl
  obtain ⟨p1, e1, o1, w1⟩ := R.c1 rfl
  obtain ⟨p, ea, hp, hw, hz, -⟩ := R.ca rfl
  subst e0 e1 ea rb
  have H := hz rfl
  obtain ⟨_, y1, y2⟩ := id H
  go_simp
  refine hK _ _ ?_
  have O : Only (fun q => q = p) w (((w.setCell ⟨p, 0, none⟩ (.slice (some ⟨r, 0, none⟩) n n)).setCell ⟨p, 1, none⟩ (.slice (some ⟨p0, 0, none⟩) n n)).setCell ⟨p, 2, none⟩ (.slice (some ⟨p1, 0, none⟩) n n)) := ((only_of_set _ _ _ _).trans (only_of_set _ _ _ _)).trans (only_of_set _ _ _ _)
  have HH : Has (((w.setCell ⟨p, 0, none⟩ (.slice (some ⟨r, 0, none⟩) n n)).setCell ⟨p, 1, none⟩ (.slice (some ⟨p0, 0, none⟩) n n)).setCell ⟨p, 2, none⟩ (.slice (some ⟨p1, 0, none⟩) n n)) p #[(.slice (some ⟨r, 0, none⟩) n n), (.slice (some ⟨p0, 0, none⟩) n n), (.slice (some ⟨p1, 0, none⟩) n n)] := by simpa using (((H.set 0 (by simp) (.slice (some ⟨r, 0, none⟩) n n)).set 1 (by simp) (.slice (some ⟨p0, 0, none⟩) n n)).set 2 (by simp) (.slice (some ⟨p1, 0, none⟩) n n))
  exact ⟨_, _, _, _, _, _, _, _, _, own, rfl, rfl, ⟨bel_only R.hb O (Nat.le_refl _) (fun q hq h => by omega), fun _ => ⟨p0, rfl, own_only2 o0 O (fun q hq h => by have e : p0 = q := (by injection hq); subst e; subst h; omega), w0⟩, fun _ => ⟨p1, rfl, own_only2 o1 O (fun q hq h => by have e : p1 = q := (by injection hq); subst e; subst h; omega), w1⟩, fun _ => ⟨p, rfl, hp, hw, fun h => (by cases h), fun _ => HH⟩, R.cb, fun _ => ⟨rfl, rfl⟩⟩⟩

set_option maxRecDepth 100000 in
set_option maxHeartbeats 4000000 in
theorem regC62 (n : Nat) (r : Nat) (t0 t2 t8 : Value) (w0 : World) (hn : n ≤ 64) (S : World → Prop) (Q' : Exit → Act → World → Prop) (hS : ∀ X, Below w0.heap.size w0 X → S X)
    (hfin : ∀ (p0 : Nat) (p1 : Nat) (p : Nat) (X : World), Below w0.heap.size w0 X → X.ownsRow w0.heap.size 21 1 (.slice (some ⟨p0, 0, none⟩) n n) n (List.replicate n (.int .i32 0)) → X.ownsRow w0.heap.size 21 1 (.slice (some ⟨p1, 0, none⟩) n n) n (List.replicate n (.int .i32 0)) → Has X p #[(.slice (some ⟨r, 0, none⟩) n n), (.slice (some ⟨p0, 0, none⟩) n n), (.slice (some ⟨p1, 0, none⟩) n n)] → w0.heap.size ≤ p → p0 ≠ p → p1 ≠ p → p0 ≠ p1 → Q' .normal (frC62 n r t0 t2 t8 (.slice (some ⟨p0, 0, none⟩) n n) (.slice (some ⟨p1, 0, none⟩) n n) (.pointer (some ⟨p, 0, none⟩)) (.agg #[(.slice (some ⟨r, 0, none⟩) n n), (.slice (some ⟨p0, 0, none⟩) n n), (.slice (some ⟨p1, 0, none⟩) n n)])) X) (fuel : Nat) (hf : 5 ≤ fuel) :
    wpAnyH Try.prog .any opsC62 Q' S fuel #[true, true, true, true, true, true, true, true, true, false, true, true, true, true, true, false, false, false, false] (frC62 n r t0 t2 t8 undef undef undef undef) w0 := by
  refine wpAnyH_inv (InvC62 n r t0 t2 t8 w0) (by kernel_rfl) ?_ ?_ ?_ _ _ _ _ (by rfl) (Nat.le_trans (of_decide_eq_true (by kernel_rfl) : cntF _ ≤ 5) hf) ⟨false, false, false, false, false, undef, undef, undef, undef, (fun _ => 0), rfl, rfl, ⟨Below.refl _ _, fun h => (by cases h), fun h => (by cases h), fun h => (by cases h), fun h => (by cases h), fun h => (by cases h)⟩⟩
  · rintro l a X ⟨_, _, _, _, _, _, _, _, _, own, -, -, R⟩
    exact hS X R.hb
  · intro l a X i o hI ho h0 hdep K' hK'
    have hi : i < 19 := (Array.getElem?_eq_some_iff.1 ho).1
    have c : i = 0 ∨ i = 1 ∨ i = 2 ∨ i = 3 ∨ i = 4 ∨ i = 5 ∨ i = 6 ∨ i = 7 ∨ i = 8 ∨ i = 9 ∨ i = 10 ∨ i = 11 ∨ i = 12 ∨ i = 13 ∨ i = 14 ∨ i = 15 ∨ i = 16 ∨ i = 17 ∨ i = 18 := by omega
    rcases c with rfl | rfl | rfl | rfl | rfl | rfl | rfl | rfl | rfl | rfl | rfl | rfl | rfl | rfl | rfl | rfl | rfl | rfl | rfl
    · obtain ⟨_, _, _, _, _, _, _, _, _, own, rfl, -, -⟩ := hI
      exact Bool.noConfusion (show true = false from h0)
    · obtain ⟨_, _, _, _, _, _, _, _, _, own, rfl, -, -⟩ := hI
      exact Bool.noConfusion (show true = false from h0)
    · obtain ⟨_, _, _, _, _, _, _, _, _, own, rfl, -, -⟩ := hI
      exact Bool.noConfusion (show true = false from h0)
    · obtain ⟨_, _, _, _, _, _, _, _, _, own, rfl, -, -⟩ := hI
      exact Bool.noConfusion (show true = false from h0)
    · obtain ⟨_, _, _, _, _, _, _, _, _, own, rfl, -, -⟩ := hI
      exact Bool.noConfusion (show true = false from h0)
    · obtain ⟨_, _, _, _, _, _, _, _, _, own, rfl, -, -⟩ := hI
      exact Bool.noConfusion (show true = false from h0)
    · obtain ⟨_, _, _, _, _, _, _, _, _, own, rfl, -, -⟩ := hI
      exact Bool.noConfusion (show true = false from h0)
    · obtain ⟨_, _, _, _, _, _, _, _, _, own, rfl, -, -⟩ := hI
      exact Bool.noConfusion (show true = false from h0)
    · obtain ⟨_, _, _, _, _, _, _, _, _, own, rfl, -, -⟩ := hI
      exact Bool.noConfusion (show true = false from h0)
    · cases (show some ({ dst := some 15, op := Op.makeSlice 35 (Operand.tmp 14) (Operand.tmp 14), type := 35, pos := "step.go:119", after := #[{ on := 8, ground := Ground.data }, { on := 8, ground := Ground.data }], guard := none } : Oper) = some o from ho)
      exact sC62_9 n r t0 t2 t8 w0 hn _ l a X hI h0 hdep K' hK'
    · obtain ⟨_, _, _, _, _, _, _, _, _, own, rfl, -, -⟩ := hI
      exact Bool.noConfusion (show true = false from h0)
    · obtain ⟨_, _, _, _, _, _, _, _, _, own, rfl, -, -⟩ := hI
      exact Bool.noConfusion (show true = false from h0)
    · obtain ⟨_, _, _, _, _, _, _, _, _, own, rfl, -, -⟩ := hI
      exact Bool.noConfusion (show true = false from h0)
    · obtain ⟨_, _, _, _, _, _, _, _, _, own, rfl, -, -⟩ := hI
      exact Bool.noConfusion (show true = false from h0)
    · obtain ⟨_, _, _, _, _, _, _, _, _, own, rfl, -, -⟩ := hI
      exact Bool.noConfusion (show true = false from h0)
    · cases (show some ({ dst := some 21, op := Op.makeSlice 35 (Operand.tmp 20) (Operand.tmp 20), type := 35, pos := "step.go:119", after := #[{ on := 14, ground := Ground.data }, { on := 14, ground := Ground.data }], guard := none } : Oper) = some o from ho)
      exact sC62_15 n r t0 t2 t8 w0 hn _ l a X hI h0 hdep K' hK'
    · cases (show some ({ dst := some 22, op := Op.build 37 #[(0, Operand.tmp 9), (1, Operand.tmp 15), (2, Operand.tmp 21)], type := 37, pos := "step.go:119", after := #[{ on := 3, ground := Ground.data }, { on := 9, ground := Ground.data }, { on := 15, ground := Ground.data }], guard := none } : Oper) = some o from ho)
      exact sC62_16 n r t0 t2 t8 w0 hn _ l a X hI h0 hdep K' hK'
    · cases (show some ({ dst := some 3, op := Op.alloc 37, type := 0, pos := "step.go:119", after := #[], guard := none } : Oper) = some o from ho)
      exact sC62_17 n r t0 t2 t8 w0 hn _ l a X hI h0 hdep K' hK'
    · cases (show some ({ dst := none, op := Op.store 37 (Operand.tmp 3) (Operand.tmp 22), type := 0, pos := "step.go:119", after := #[{ on := 17, ground := Ground.data }, { on := 16, ground := Ground.data }, { on := 0, ground := Ground.phase }, { on := 1, ground := Ground.phase }, { on := 2, ground := Ground.phase }, { on := 3, ground := Ground.phase }, { on := 4, ground := Ground.phase }, { on := 5, ground := Ground.phase }, { on := 6, ground := Ground.phase }, { on := 7, ground := Ground.phase }, { on := 8, ground := Ground.phase }, { on := 9, ground := Ground.phase }, { on := 10, ground := Ground.phase }, { on := 11, ground := Ground.phase }, { on := 12, ground := Ground.phase }, { on := 13, ground := Ground.phase }, { on := 14, ground := Ground.phase }, { on := 15, ground := Ground.phase }, { on := 16, ground := Ground.phase }, { on := 17, ground := Ground.phase }], guard := none } : Oper) = some o from ho)
      exact sC62_18 n r t0 t2 t8 w0 hn _ l a X hI h0 hdep K' hK'
  · rintro l a X ⟨b9, b15, bal, bbu, bst, x15, x21, xal, xbu, own, rfl, rfl, R⟩ hall
    have e7 : bst = true := hall 18
    subst e7
    obtain ⟨r5, r6⟩ := R.cs rfl
    subst r5 r6
    obtain ⟨⟨r0, r1⟩, rb⟩ := R.cb rfl
    subst r0 r1
    obtain ⟨p0, e0, o0, w0⟩ := R.c0 rfl
    obtain ⟨p1, e1, o1, w1⟩ := R.c1 rfl
    obtain ⟨p, ea, hp, hw, -, hz⟩ := R.ca rfl
    subst e0 e1 ea rb
    exact hfin p0 p1 p X R.hb o0 o1 (hz rfl) hp (fun e => by subst e; omega) (fun e => by subst e; omega) (fun e => by subst e; omega)
end Go.Proofs.Ythflpnahifpdnaa
