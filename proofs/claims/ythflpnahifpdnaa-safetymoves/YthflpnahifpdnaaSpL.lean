import Derived.Test.YthflpnahifpdnaaSpH
import Derived.Deep.RegionHeld3
namespace Go.Proofs.Ythflpnahifpdnaa
open Go.RowKit
set_option linter.unusedVariables false


abbrev opsR48 : Array Oper := #[{ dst := some 5, op := Op.move (Operand.tmp 0), type := 3, pos := "picture.go:17", after := #[], guard := none }, { dst := some 6, op := Op.makeSlice 34 (Operand.tmp 5) (Operand.tmp 5), type := 34, pos := "picture.go:17", after := #[{ on := 0, ground := Ground.data }, { on := 0, ground := Ground.data }], guard := none }, { dst := some 7, op := Op.move (Operand.tmp 0), type := 3, pos := "picture.go:17", after := #[], guard := none }, { dst := some 8, op := Op.makeSlice 35 (Operand.tmp 7) (Operand.tmp 7), type := 35, pos := "picture.go:17", after := #[{ on := 2, ground := Ground.data }, { on := 2, ground := Ground.data }], guard := none }, { dst := some 9, op := Op.move (Operand.tmp 0), type := 3, pos := "picture.go:17", after := #[], guard := none }, { dst := some 10, op := Op.makeSlice 35 (Operand.tmp 9) (Operand.tmp 9), type := 35, pos := "picture.go:17", after := #[{ on := 4, ground := Ground.data }, { on := 4, ground := Ground.data }], guard := none }, { dst := some 11, op := Op.build 37 #[(0, Operand.tmp 6), (1, Operand.tmp 8), (2, Operand.tmp 10)], type := 37, pos := "picture.go:17", after := #[{ on := 1, ground := Ground.data }, { on := 3, ground := Ground.data }, { on := 5, ground := Ground.data }], guard := none }, { dst := some 3, op := Op.alloc 37, type := 0, pos := "picture.go:17", after := #[], guard := none }, { dst := none, op := Op.store 37 (Operand.tmp 3) (Operand.tmp 11), type := 0, pos := "picture.go:17", after := #[{ on := 7, ground := Ground.data }, { on := 6, ground := Ground.data }, { on := 0, ground := Ground.phase }, { on := 1, ground := Ground.phase }, { on := 2, ground := Ground.phase }, { on := 3, ground := Ground.phase }, { on := 4, ground := Ground.phase }, { on := 5, ground := Ground.phase }, { on := 6, ground := Ground.phase }, { on := 7, ground := Ground.phase }], guard := none }]
abbrev frR48 (n : Nat) (t2 : Value) (x6 x8 x10 xal xbu : Value) : Act := { tmps := #[.int .i64 (n : Int), undef, t2, xal, undef, .int .i64 (n : Int), x6, .int .i64 (n : Int), x8, .int .i64 (n : Int), x10, xbu, undef, undef, undef, undef, undef, undef, undef, undef, undef, undef, undef, undef, undef, undef, undef, undef, undef, undef], defers := [] }
structure RIR48 (n : Nat) (w0 : World) (t2 : Value) (b1 b3 b5 bal bbu bst : Bool) (x6 x8 x10 xal xbu : Value) (own : Nat → Nat) (w : World) : Prop where
  hb : Below w0.heap.size w0 w
  c0 : b1 = true → ∃ p, x6 = .slice (some ⟨p, 0, none⟩) n n ∧ w.ownsRow w0.heap.size 3 1 (.slice (some ⟨p, 0, none⟩) n n) n (List.replicate n (.int .i64 0)) ∧ own p = 0
  c1 : b3 = true → ∃ p, x8 = .slice (some ⟨p, 0, none⟩) n n ∧ w.ownsRow w0.heap.size 21 1 (.slice (some ⟨p, 0, none⟩) n n) n (List.replicate n (.int .i32 0)) ∧ own p = 1
  c2 : b5 = true → ∃ p, x10 = .slice (some ⟨p, 0, none⟩) n n ∧ w.ownsRow w0.heap.size 21 1 (.slice (some ⟨p, 0, none⟩) n n) n (List.replicate n (.int .i32 0)) ∧ own p = 2
  ca : bal = true → ∃ p, xal = .pointer (some ⟨p, 0, none⟩) ∧ w0.heap.size ≤ p ∧ own p = 99 ∧ (bst = false → Has w p #[.slice none 0 0, .slice none 0 0, .slice none 0 0]) ∧ (bst = true → Has w p #[x6, x8, x10])
  cb : bbu = true → (b1 = true ∧ b3 = true ∧ b5 = true) ∧ xbu = .agg #[x6, x8, x10]
  cs : bst = true → bbu = true ∧ bal = true
abbrev InvR48 (n : Nat) (t2 : Value) (w0 : World) (l : Array Bool) (a : Act) (w : World) : Prop :=
  ∃ (b1 b3 b5 bal bbu bst : Bool) (x6 x8 x10 xal xbu : Value) (own : Nat → Nat), l = #[true, b1, true, b3, true, b5, bbu, bal, bst] ∧ a = frR48 n t2 x6 x8 x10 xal xbu ∧ RIR48 n w0 t2 b1 b3 b5 bal bbu bst x6 x8 x10 xal xbu own w

set_option maxRecDepth 100000 in
set_option maxHeartbeats 4000000 in
theorem sR48_1 (n : Nat) (t2 : Value) (w0 : World) (hn : n ≤ 64) (Q' : Exit → Act → World → Prop) (l : Array Bool) (a : Act) (w : World) (hI : InvR48 n t2 w0 l a w) (h0 : l.getD 1 true = false) (hdep : ∀ e ∈ ({ dst := some 6, op := Op.makeSlice 34 (Operand.tmp 5) (Operand.tmp 5), type := 34, pos := "picture.go:17", after := #[{ on := 0, ground := Ground.data }, { on := 0, ground := Ground.data }], guard := none } : Oper).after, Region.binds .any e = true → l.getD e.on false = true) (K : Act → World → Prop) (hK : ∀ a' w', InvR48 n t2 w0 (l.setIfInBounds 1 true) a' w' → K a' w') :
    if Region.wanted ({ dst := some 6, op := Op.makeSlice 34 (Operand.tmp 5) (Operand.tmp 5), type := 34, pos := "picture.go:17", after := #[{ on := 0, ground := Ground.data }, { on := 0, ground := Ground.data }], guard := none } : Oper) (yielded opsR48 a.tmps) = true then Oper.wp Try.prog ({ dst := some 6, op := Op.makeSlice 34 (Operand.tmp 5) (Operand.tmp 5), type := 34, pos := "picture.go:17", after := #[{ on := 0, ground := Ground.data }, { on := 0, ground := Ground.data }], guard := none } : Oper) a w K Q' else K (a.put ({ dst := some 6, op := Op.makeSlice 34 (Operand.tmp 5) (Operand.tmp 5), type := 34, pos := "picture.go:17", after := #[{ on := 0, ground := Ground.data }, { on := 0, ground := Ground.data }], guard := none } : Oper).dst undef) w := by
  obtain ⟨b1, b3, b5, bal, bbu, bst, x6, x8, x10, xal, xbu, own, rfl, rfl, R⟩ := hI
  have ee : b1 = false := h0
  subst ee
  clear h0 hdep
  have q1 : bbu = false := by
    cases hq : bbu with
    | false => rfl
    | true => exact absurd (R.cb hq).1.1 (by decide)
  subst q1
  have q2 : bst = false := by
    cases hq : bst with
    | false => rfl
    | true => exact absurd (R.cs hq).1 (by decide)
  subst q2
  obtain ⟨ti, hi, hi0, hi1, hi2⟩ := info_parts info3m
  refine step_make rfl _ 34 rfl 3 ti _ Try.underlying34 hi hi0 hi1 rfl n rfl (by rw [hi2]; omega) (by unfold maxLen; omega) w0.heap.size R.hb.size ?_
  intro w2 o2 hb2
  refine hK _ _ ?_
  exact ⟨_, _, _, _, _, _, _, _, _, _, _, updO own w.heap.size 0, rfl, rfl, ⟨bel_after R.hb R.hb.size hb2, fun _ => ⟨_, rfl, o2, updO_new (Nat.le_refl _)⟩, fun h => (R.c1 h).imp fun p hp => ⟨hp.1, own_bel hp.2.1 hb2, (updO_old (own_lt hp.2.1 p rfl).2).trans hp.2.2⟩, fun h => (R.c2 h).imp fun p hp => ⟨hp.1, own_bel hp.2.1 hb2, (updO_old (own_lt hp.2.1 p rfl).2).trans hp.2.2⟩, fun h => (R.ca h).imp fun p hp => ⟨hp.1, hp.2.1, (updO_old (hp.2.2.2.1 rfl).1).trans hp.2.2.1, fun h => (hp.2.2.2.1 h).below hb2, fun h => (by cases h)⟩, fun h => (by cases h), fun h => (by cases h)⟩⟩

set_option maxRecDepth 100000 in
set_option maxHeartbeats 4000000 in
theorem sR48_3 (n : Nat) (t2 : Value) (w0 : World) (hn : n ≤ 64) (Q' : Exit → Act → World → Prop) (l : Array Bool) (a : Act) (w : World) (hI : InvR48 n t2 w0 l a w) (h0 : l.getD 3 true = false) (hdep : ∀ e ∈ ({ dst := some 8, op := Op.makeSlice 35 (Operand.tmp 7) (Operand.tmp 7), type := 35, pos := "picture.go:17", after := #[{ on := 2, ground := Ground.data }, { on := 2, ground := Ground.data }], guard := none } : Oper).after, Region.binds .any e = true → l.getD e.on false = true) (K : Act → World → Prop) (hK : ∀ a' w', InvR48 n t2 w0 (l.setIfInBounds 3 true) a' w' → K a' w') :
    if Region.wanted ({ dst := some 8, op := Op.makeSlice 35 (Operand.tmp 7) (Operand.tmp 7), type := 35, pos := "picture.go:17", after := #[{ on := 2, ground := Ground.data }, { on := 2, ground := Ground.data }], guard := none } : Oper) (yielded opsR48 a.tmps) = true then Oper.wp Try.prog ({ dst := some 8, op := Op.makeSlice 35 (Operand.tmp 7) (Operand.tmp 7), type := 35, pos := "picture.go:17", after := #[{ on := 2, ground := Ground.data }, { on := 2, ground := Ground.data }], guard := none } : Oper) a w K Q' else K (a.put ({ dst := some 8, op := Op.makeSlice 35 (Operand.tmp 7) (Operand.tmp 7), type := 35, pos := "picture.go:17", after := #[{ on := 2, ground := Ground.data }, { on := 2, ground := Ground.data }], guard := none } : Oper).dst undef) w := by
  obtain ⟨b1, b3, b5, bal, bbu, bst, x6, x8, x10, xal, xbu, own, rfl, rfl, R⟩ := hI
  have ee : b3 = false := h0
  subst ee
  clear h0 hdep
  have q1 : bbu = false := by
    cases hq : bbu with
    | false => rfl
    | true => exact absurd (R.cb hq).1.2.1 (by decide)
  subst q1
  have q2 : bst = false := by
    cases hq : bst with
    | false => rfl
    | true => exact absurd (R.cs hq).1 (by decide)
  subst q2
  obtain ⟨ti, hi, hi0, hi1, hi2⟩ := info_parts info21m
  refine step_make rfl _ 35 rfl 21 ti _ Try.underlying35 hi hi0 hi1 rfl n rfl (by rw [hi2]; omega) (by unfold maxLen; omega) w0.heap.size R.hb.size ?_
  intro w2 o2 hb2
  refine hK _ _ ?_
  exact ⟨_, _, _, _, _, _, _, _, _, _, _, updO own w.heap.size 1, rfl, rfl, ⟨bel_after R.hb R.hb.size hb2, fun h => (R.c0 h).imp fun p hp => ⟨hp.1, own_bel hp.2.1 hb2, (updO_old (own_lt hp.2.1 p rfl).2).trans hp.2.2⟩, fun _ => ⟨_, rfl, o2, updO_new (Nat.le_refl _)⟩, fun h => (R.c2 h).imp fun p hp => ⟨hp.1, own_bel hp.2.1 hb2, (updO_old (own_lt hp.2.1 p rfl).2).trans hp.2.2⟩, fun h => (R.ca h).imp fun p hp => ⟨hp.1, hp.2.1, (updO_old (hp.2.2.2.1 rfl).1).trans hp.2.2.1, fun h => (hp.2.2.2.1 h).below hb2, fun h => (by cases h)⟩, fun h => (by cases h), fun h => (by cases h)⟩⟩

set_option maxRecDepth 100000 in
set_option maxHeartbeats 4000000 in
theorem sR48_5 (n : Nat) (t2 : Value) (w0 : World) (hn : n ≤ 64) (Q' : Exit → Act → World → Prop) (l : Array Bool) (a : Act) (w : World) (hI : InvR48 n t2 w0 l a w) (h0 : l.getD 5 true = false) (hdep : ∀ e ∈ ({ dst := some 10, op := Op.makeSlice 35 (Operand.tmp 9) (Operand.tmp 9), type := 35, pos := "picture.go:17", after := #[{ on := 4, ground := Ground.data }, { on := 4, ground := Ground.data }], guard := none } : Oper).after, Region.binds .any e = true → l.getD e.on false = true) (K : Act → World → Prop) (hK : ∀ a' w', InvR48 n t2 w0 (l.setIfInBounds 5 true) a' w' → K a' w') :
    if Region.wanted ({ dst := some 10, op := Op.makeSlice 35 (Operand.tmp 9) (Operand.tmp 9), type := 35, pos := "picture.go:17", after := #[{ on := 4, ground := Ground.data }, { on := 4, ground := Ground.data }], guard := none } : Oper) (yielded opsR48 a.tmps) = true then Oper.wp Try.prog ({ dst := some 10, op := Op.makeSlice 35 (Operand.tmp 9) (Operand.tmp 9), type := 35, pos := "picture.go:17", after := #[{ on := 4, ground := Ground.data }, { on := 4, ground := Ground.data }], guard := none } : Oper) a w K Q' else K (a.put ({ dst := some 10, op := Op.makeSlice 35 (Operand.tmp 9) (Operand.tmp 9), type := 35, pos := "picture.go:17", after := #[{ on := 4, ground := Ground.data }, { on := 4, ground := Ground.data }], guard := none } : Oper).dst undef) w := by
  obtain ⟨b1, b3, b5, bal, bbu, bst, x6, x8, x10, xal, xbu, own, rfl, rfl, R⟩ := hI
  have ee : b5 = false := h0
  subst ee
  clear h0 hdep
  have q1 : bbu = false := by
    cases hq : bbu with
    | false => rfl
    | true => exact absurd (R.cb hq).1.2.2 (by decide)
  subst q1
  have q2 : bst = false := by
    cases hq : bst with
    | false => rfl
    | true => exact absurd (R.cs hq).1 (by decide)
  subst q2
  obtain ⟨ti, hi, hi0, hi1, hi2⟩ := info_parts info21m
  refine step_make rfl _ 35 rfl 21 ti _ Try.underlying35 hi hi0 hi1 rfl n rfl (by rw [hi2]; omega) (by unfold maxLen; omega) w0.heap.size R.hb.size ?_
  intro w2 o2 hb2
  refine hK _ _ ?_
  exact ⟨_, _, _, _, _, _, _, _, _, _, _, updO own w.heap.size 2, rfl, rfl, ⟨bel_after R.hb R.hb.size hb2, fun h => (R.c0 h).imp fun p hp => ⟨hp.1, own_bel hp.2.1 hb2, (updO_old (own_lt hp.2.1 p rfl).2).trans hp.2.2⟩, fun h => (R.c1 h).imp fun p hp => ⟨hp.1, own_bel hp.2.1 hb2, (updO_old (own_lt hp.2.1 p rfl).2).trans hp.2.2⟩, fun _ => ⟨_, rfl, o2, updO_new (Nat.le_refl _)⟩, fun h => (R.ca h).imp fun p hp => ⟨hp.1, hp.2.1, (updO_old (hp.2.2.2.1 rfl).1).trans hp.2.2.1, fun h => (hp.2.2.2.1 h).below hb2, fun h => (by cases h)⟩, fun h => (by cases h), fun h => (by cases h)⟩⟩

set_option maxRecDepth 100000 in
set_option maxHeartbeats 4000000 in
theorem sR48_7 (n : Nat) (t2 : Value) (w0 : World) (hn : n ≤ 64) (Q' : Exit → Act → World → Prop) (l : Array Bool) (a : Act) (w : World) (hI : InvR48 n t2 w0 l a w) (h0 : l.getD 7 true = false) (hdep : ∀ e ∈ ({ dst := some 3, op := Op.alloc 37, type := 0, pos := "picture.go:17", after := #[], guard := none } : Oper).after, Region.binds .any e = true → l.getD e.on false = true) (K : Act → World → Prop) (hK : ∀ a' w', InvR48 n t2 w0 (l.setIfInBounds 7 true) a' w' → K a' w') :
    if Region.wanted ({ dst := some 3, op := Op.alloc 37, type := 0, pos := "picture.go:17", after := #[], guard := none } : Oper) (yielded opsR48 a.tmps) = true then Oper.wp Try.prog ({ dst := some 3, op := Op.alloc 37, type := 0, pos := "picture.go:17", after := #[], guard := none } : Oper) a w K Q' else K (a.put ({ dst := some 3, op := Op.alloc 37, type := 0, pos := "picture.go:17", after := #[], guard := none } : Oper).dst undef) w := by
  obtain ⟨b1, b3, b5, bal, bbu, bst, x6, x8, x10, xal, xbu, own, rfl, rfl, R⟩ := hI
  have ee : bal = false := h0
  subst ee
  clear h0 hdep
  have q2 : bst = false := by
    cases hq : bst with
    | false => rfl
    | true => exact absurd (R.cs hq).2 (by decide)
  subst q2
  go_simp
  refine hK _ _ ?_
  have hbn : Below w.heap.size w (w.alloc (.cells #[.slice none 0 0, .slice none 0 0, .slice none 0 0] 37)) := belN1
  exact ⟨_, _, _, _, _, _, _, _, _, _, _, updO own w.heap.size 99, rfl, rfl, ⟨bel_after R.hb R.hb.size hbn, fun h => (R.c0 h).imp fun p hp => ⟨hp.1, own_bel hp.2.1 hbn, (updO_old (own_lt hp.2.1 p rfl).2).trans hp.2.2⟩, fun h => (R.c1 h).imp fun p hp => ⟨hp.1, own_bel hp.2.1 hbn, (updO_old (own_lt hp.2.1 p rfl).2).trans hp.2.2⟩, fun h => (R.c2 h).imp fun p hp => ⟨hp.1, own_bel hp.2.1 hbn, (updO_old (own_lt hp.2.1 p rfl).2).trans hp.2.2⟩, fun _ => ⟨_, rfl, R.hb.size, updO_new (Nat.le_refl _), fun _ => Has.new _ _ _ rfl, fun h => (by cases h)⟩, R.cb, fun h => (by cases h)⟩⟩

set_option maxRecDepth 100000 in
set_option maxHeartbeats 4000000 in
theorem sR48_6 (n : Nat) (t2 : Value) (w0 : World) (hn : n ≤ 64) (Q' : Exit → Act → World → Prop) (l : Array Bool) (a : Act) (w : World) (hI : InvR48 n t2 w0 l a w) (h0 : l.getD 6 true = false) (hdep : ∀ e ∈ ({ dst := some 11, op := Op.build 37 #[(0, Operand.tmp 6), (1, Operand.tmp 8), (2, Operand.tmp 10)], type := 37, pos := "picture.go:17", after := #[{ on := 1, ground := Ground.data }, { on := 3, ground := Ground.data }, { on := 5, ground := Ground.data }], guard := none } : Oper).after, Region.binds .any e = true → l.getD e.on false = true) (K : Act → World → Prop) (hK : ∀ a' w', InvR48 n t2 w0 (l.setIfInBounds 6 true) a' w' → K a' w') :
    if Region.wanted ({ dst := some 11, op := Op.build 37 #[(0, Operand.tmp 6), (1, Operand.tmp 8), (2, Operand.tmp 10)], type := 37, pos := "picture.go:17", after := #[{ on := 1, ground := Ground.data }, { on := 3, ground := Ground.data }, { on := 5, ground := Ground.data }], guard := none } : Oper) (yielded opsR48 a.tmps) = true then Oper.wp Try.prog ({ dst := some 11, op := Op.build 37 #[(0, Operand.tmp 6), (1, Operand.tmp 8), (2, Operand.tmp 10)], type := 37, pos := "picture.go:17", after := #[{ on := 1, ground := Ground.data }, { on := 3, ground := Ground.data }, { on := 5, ground := Ground.data }], guard := none } : Oper) a w K Q' else K (a.put ({ dst := some 11, op := Op.build 37 #[(0, Operand.tmp 6), (1, Operand.tmp 8), (2, Operand.tmp 10)], type := 37, pos := "picture.go:17", after := #[{ on := 1, ground := Ground.data }, { on := 3, ground := Ground.data }, { on := 5, ground := Ground.data }], guard := none } : Oper).dst undef) w := by
  obtain ⟨b1, b3, b5, bal, bbu, bst, x6, x8, x10, xal, xbu, own, rfl, rfl, R⟩ := hI
  have ee : bbu = false := h0
  subst ee
  have e1 : b1 = true := hdep ⟨1, Ground.data⟩ (by simp) rfl
  subst e1
  have e3 : b3 = true := hdep ⟨3, Ground.data⟩ (by simp) rfl
  subst e3
  have e5 : b5 = true := hdep ⟨5, Ground.data⟩ (by simp) rfl
  subst e5
  clear h0 hdep
  obtain ⟨p0, e0, -, -⟩ := R.c0 rfl
  obtain ⟨p1, e1, -, -⟩ := R.c1 rfl
  obtain ⟨p2, e2, -, -⟩ := R.c2 rfl
  subst e0 e1 e2
  go_simp
  refine hK _ _ ?_
  exact ⟨_, _, _, _, _, _, _, _, _, _, _, own, rfl, rfl, ⟨R.hb, R.c0, R.c1, R.c2, R.ca, fun _ => ⟨⟨rfl, rfl, rfl⟩, rfl⟩, fun h => absurd (R.cs h).1 (by decide)⟩⟩

set_option maxRecDepth 100000 in
set_option maxHeartbeats 4000000 in
theorem sR48_8 (n : Nat) (t2 : Value) (w0 : World) (hn : n ≤ 64) (Q' : Exit → Act → World → Prop) (l : Array Bool) (a : Act) (w : World) (hI : InvR48 n t2 w0 l a w) (h0 : l.getD 8 true = false) (hdep : ∀ e ∈ ({ dst := none, op := Op.store 37 (Operand.tmp 3) (Operand.tmp 11), type := 0, pos := "picture.go:17", after := #[{ on := 7, ground := Ground.data }, { on := 6, ground := Ground.data }, { on := 0, ground := Ground.phase }, { on := 1, ground := Ground.phase }, { on := 2, ground := Ground.phase }, { on := 3, ground := Ground.phase }, { on := 4, ground := Ground.phase }, { on := 5, ground := Ground.phase }, { on := 6, ground := Ground.phase }, { on := 7, ground := Ground.phase }], guard := none } : Oper).after, Region.binds .any e = true → l.getD e.on false = true) (K : Act → World → Prop) (hK : ∀ a' w', InvR48 n t2 w0 (l.setIfInBounds 8 true) a' w' → K a' w') :
    if Region.wanted ({ dst := none, op := Op.store 37 (Operand.tmp 3) (Operand.tmp 11), type := 0, pos := "picture.go:17", after := #[{ on := 7, ground := Ground.data }, { on := 6, ground := Ground.data }, { on := 0, ground := Ground.phase }, { on := 1, ground := Ground.phase }, { on := 2, ground := Ground.phase }, { on := 3, ground := Ground.phase }, { on := 4, ground := Ground.phase }, { on := 5, ground := Ground.phase }, { on := 6, ground := Ground.phase }, { on := 7, ground := Ground.phase }], guard := none } : Oper) (yielded opsR48 a.tmps) = true then Oper.wp Try.prog ({ dst := none, op := Op.store 37 (Operand.tmp 3) (Operand.tmp 11), type := 0, pos := "picture.go:17", after := #[{ on := 7, ground := Ground.data }, { on := 6, ground := Ground.data }, { on := 0, ground := Ground.phase }, { on := 1, ground := Ground.phase }, { on := 2, ground := Ground.phase }, { on := 3, ground := Ground.phase }, { on := 4, ground := Ground.phase }, { on := 5, ground := Ground.phase }, { on := 6, ground := Ground.phase }, { on := 7, ground := Ground.phase }], guard := none } : Oper) a w K Q' else K (a.put ({ dst := none, op := Op.store 37 (Operand.tmp 3) (Operand.tmp 11), type := 0, pos := "picture.go:17", after := #[{ on := 7, ground := Ground.data }, { on := 6, ground := Ground.data }, { on := 0, ground := Ground.phase }, { on := 1, ground := Ground.phase }, { on := 2, ground := Ground.phase }, { on := 3, ground := Ground.phase }, { on := 4, ground := Ground.phase }, { on := 5, ground := Ground.phase }, { on := 6, ground := Ground.phase }, { on := 7, ground := Ground.phase }], guard := none } : Oper).dst undef) w := by
  obtain ⟨b1, b3, b5, bal, bbu, bst, x6, x8, x10, xal, xbu, own, rfl, rfl, R⟩ := hI
  have ee : bst = false := h0
  subst ee
  have e6 : bbu = true := hdep ⟨6, Ground.data⟩ (by simp) rfl
  subst e6
  have e7 : bal = true := hdep ⟨7, Ground.data⟩ (by simp) rfl
  subst e7
  clear h0 hdep
  obtain ⟨⟨r0, r1, r2⟩, rb⟩ := R.cb rfl
  subst r0 r1 r2
  obtain ⟨p0, e0, o0, w0⟩ := R.c0 rfl
  obtain ⟨p1, e1, o1, w1⟩ := R.c1 rfl
  obtain ⟨p2, e2, o2, w2⟩ := R.c2 rfl
  obtain ⟨p, ea, hp, hw, hz, -⟩ := R.ca rfl
  subst e0 e1 e2 ea rb
  have H := hz rfl
  obtain ⟨_, y1, y2⟩ := id H
  go_simp
  refine hK _ _ ?_
  have O : Only (fun q => q = p) w (((w.setCell ⟨p, 0, none⟩ (.slice (some ⟨p0, 0, none⟩) n n)).setCell ⟨p, 1, none⟩ (.slice (some ⟨p1, 0, none⟩) n n)).setCell ⟨p, 2, none⟩ (.slice (some ⟨p2, 0, none⟩) n n)) := ((only_of_set _ _ _ _).trans (only_of_set _ _ _ _)).trans (only_of_set _ _ _ _)
  have HH : Has (((w.setCell ⟨p, 0, none⟩ (.slice (some ⟨p0, 0, none⟩) n n)).setCell ⟨p, 1, none⟩ (.slice (some ⟨p1, 0, none⟩) n n)).setCell ⟨p, 2, none⟩ (.slice (some ⟨p2, 0, none⟩) n n)) p #[(.slice (some ⟨p0, 0, none⟩) n n), (.slice (some ⟨p1, 0, none⟩) n n), (.slice (some ⟨p2, 0, none⟩) n n)] := by simpa using (((H.set 0 (by simp) (.slice (some ⟨p0, 0, none⟩) n n)).set 1 (by simp) (.slice (some ⟨p1, 0, none⟩) n n)).set 2 (by simp) (.slice (some ⟨p2, 0, none⟩) n n))
  exact ⟨_, _, _, _, _, _, _, _, _, _, _, own, rfl, rfl, ⟨bel_only R.hb O (Nat.le_refl _) (fun q hq h => by omega), fun _ => ⟨p0, rfl, own_only2 o0 O (fun q hq h => by have e : p0 = q := (by injection hq); subst e; subst h; omega), w0⟩, fun _ => ⟨p1, rfl, own_only2 o1 O (fun q hq h => by have e : p1 = q := (by injection hq); subst e; subst h; omega), w1⟩, fun _ => ⟨p2, rfl, own_only2 o2 O (fun q hq h => by have e : p2 = q := (by injection hq); subst e; subst h; omega), w2⟩, fun _ => ⟨p, rfl, hp, hw, fun h => (by cases h), fun _ => HH⟩, R.cb, fun _ => ⟨rfl, rfl⟩⟩⟩

set_option maxRecDepth 100000 in
set_option maxHeartbeats 4000000 in
theorem regR48 (n : Nat) (t2 : Value) (w0 : World) (hn : n ≤ 64) (S : World → Prop) (Q' : Exit → Act → World → Prop) (hS : ∀ X, Below w0.heap.size w0 X → S X)
    (hfin : ∀ (p0 : Nat) (p1 : Nat) (p2 : Nat) (p : Nat) (X : World), Below w0.heap.size w0 X → X.ownsRow w0.heap.size 3 1 (.slice (some ⟨p0, 0, none⟩) n n) n (List.replicate n (.int .i64 0)) → X.ownsRow w0.heap.size 21 1 (.slice (some ⟨p1, 0, none⟩) n n) n (List.replicate n (.int .i32 0)) → X.ownsRow w0.heap.size 21 1 (.slice (some ⟨p2, 0, none⟩) n n) n (List.replicate n (.int .i32 0)) → Has X p #[(.slice (some ⟨p0, 0, none⟩) n n), (.slice (some ⟨p1, 0, none⟩) n n), (.slice (some ⟨p2, 0, none⟩) n n)] → w0.heap.size ≤ p → p0 ≠ p → p1 ≠ p → p2 ≠ p → p0 ≠ p1 → p0 ≠ p2 → p1 ≠ p2 → Q' .normal (frR48 n t2 (.slice (some ⟨p0, 0, none⟩) n n) (.slice (some ⟨p1, 0, none⟩) n n) (.slice (some ⟨p2, 0, none⟩) n n) (.pointer (some ⟨p, 0, none⟩)) (.agg #[(.slice (some ⟨p0, 0, none⟩) n n), (.slice (some ⟨p1, 0, none⟩) n n), (.slice (some ⟨p2, 0, none⟩) n n)])) X) (fuel : Nat) (hf : 6 ≤ fuel) :
    wpAnyH Try.prog .any opsR48 Q' S fuel #[true, false, true, false, true, false, false, false, false] (frR48 n t2 undef undef undef undef undef) w0 := by
  refine wpAnyH_inv (InvR48 n t2 w0) (by kernel_rfl) ?_ ?_ ?_ _ _ _ _ (by rfl) (Nat.le_trans (of_decide_eq_true (by kernel_rfl) : cntF _ ≤ 6) hf) ⟨false, false, false, false, false, false, undef, undef, undef, undef, undef, (fun _ => 0), rfl, rfl, ⟨Below.refl _ _, fun h => (by cases h), fun h => (by cases h), fun h => (by cases h), fun h => (by cases h), fun h => (by cases h), fun h => (by cases h)⟩⟩
  · rintro l a X ⟨_, _, _, _, _, _, _, _, _, _, _, own, -, -, R⟩
    exact hS X R.hb
  · intro l a X i o hI ho h0 hdep K' hK'
    have hi : i < 9 := (Array.getElem?_eq_some_iff.1 ho).1
    have c : i = 0 ∨ i = 1 ∨ i = 2 ∨ i = 3 ∨ i = 4 ∨ i = 5 ∨ i = 6 ∨ i = 7 ∨ i = 8 := by omega
    rcases c with rfl | rfl | rfl | rfl | rfl | rfl | rfl | rfl | rfl
    · obtain ⟨_, _, _, _, _, _, _, _, _, _, _, own, rfl, -, -⟩ := hI
      exact Bool.noConfusion (show true = false from h0)
    · cases (show some ({ dst := some 6, op := Op.makeSlice 34 (Operand.tmp 5) (Operand.tmp 5), type := 34, pos := "picture.go:17", after := #[{ on := 0, ground := Ground.data }, { on := 0, ground := Ground.data }], guard := none } : Oper) = some o from ho)
      exact sR48_1 n t2 w0 hn _ l a X hI h0 hdep K' hK'
    · obtain ⟨_, _, _, _, _, _, _, _, _, _, _, own, rfl, -, -⟩ := hI
      exact Bool.noConfusion (show true = false from h0)
    · cases (show some ({ dst := some 8, op := Op.makeSlice 35 (Operand.tmp 7) (Operand.tmp 7), type := 35, pos := "picture.go:17", after := #[{ on := 2, ground := Ground.data }, { on := 2, ground := Ground.data }], guard := none } : Oper) = some o from ho)
      exact sR48_3 n t2 w0 hn _ l a X hI h0 hdep K' hK'
    · obtain ⟨_, _, _, _, _, _, _, _, _, _, _, own, rfl, -, -⟩ := hI
      exact Bool.noConfusion (show true = false from h0)
    · cases (show some ({ dst := some 10, op := Op.makeSlice 35 (Operand.tmp 9) (Operand.tmp 9), type := 35, pos := "picture.go:17", after := #[{ on := 4, ground := Ground.data }, { on := 4, ground := Ground.data }], guard := none } : Oper) = some o from ho)
      exact sR48_5 n t2 w0 hn _ l a X hI h0 hdep K' hK'
    · cases (show some ({ dst := some 11, op := Op.build 37 #[(0, Operand.tmp 6), (1, Operand.tmp 8), (2, Operand.tmp 10)], type := 37, pos := "picture.go:17", after := #[{ on := 1, ground := Ground.data }, { on := 3, ground := Ground.data }, { on := 5, ground := Ground.data }], guard := none } : Oper) = some o from ho)
      exact sR48_6 n t2 w0 hn _ l a X hI h0 hdep K' hK'
    · cases (show some ({ dst := some 3, op := Op.alloc 37, type := 0, pos := "picture.go:17", after := #[], guard := none } : Oper) = some o from ho)
      exact sR48_7 n t2 w0 hn _ l a X hI h0 hdep K' hK'
    · cases (show some ({ dst := none, op := Op.store 37 (Operand.tmp 3) (Operand.tmp 11), type := 0, pos := "picture.go:17", after := #[{ on := 7, ground := Ground.data }, { on := 6, ground := Ground.data }, { on := 0, ground := Ground.phase }, { on := 1, ground := Ground.phase }, { on := 2, ground := Ground.phase }, { on := 3, ground := Ground.phase }, { on := 4, ground := Ground.phase }, { on := 5, ground := Ground.phase }, { on := 6, ground := Ground.phase }, { on := 7, ground := Ground.phase }], guard := none } : Oper) = some o from ho)
      exact sR48_8 n t2 w0 hn _ l a X hI h0 hdep K' hK'
  · rintro l a X ⟨b1, b3, b5, bal, bbu, bst, x6, x8, x10, xal, xbu, own, rfl, rfl, R⟩ hall
    have e7 : bst = true := hall 8
    subst e7
    obtain ⟨r5, r6⟩ := R.cs rfl
    subst r5 r6
    obtain ⟨⟨r0, r1, r2⟩, rb⟩ := R.cb rfl
    subst r0 r1 r2
    obtain ⟨p0, e0, o0, w0⟩ := R.c0 rfl
    obtain ⟨p1, e1, o1, w1⟩ := R.c1 rfl
    obtain ⟨p2, e2, o2, w2⟩ := R.c2 rfl
    obtain ⟨p, ea, hp, hw, -, hz⟩ := R.ca rfl
    subst e0 e1 e2 ea rb
    exact hfin p0 p1 p2 p X R.hb o0 o1 o2 (hz rfl) hp (fun e => by subst e; omega) (fun e => by subst e; omega) (fun e => by subst e; omega) (fun e => by subst e; omega) (fun e => by subst e; omega) (fun e => by subst e; omega)
end Go.Proofs.Ythflpnahifpdnaa
