import Derived.Test.YtbonmajnkbggcabRmA
import Derived.Deep.RegionHeld3
namespace Go.Proofs.Ytbonmajnkbggcab
open Go.RowKit
set_option linter.unusedVariables false


abbrev opsA3 : Array Oper := #[{ dst := some 13, op := Op.load 33 (Operand.tmp 7), type := 33, pos := "headslaw.go:118", after := #[], guard := none }, { dst := some 14, op := Op.call { callee := Callee.value (Operand.func 10), args := #[Operand.tmp 13], argTypes := #[33] }, type := 25, pos := "headslaw.go:118", after := #[{ on := 0, ground := Ground.data }], guard := none }, { dst := some 15, op := Op.load 33 (Operand.tmp 7), type := 33, pos := "headslaw.go:118", after := #[], guard := none }, { dst := some 16, op := Op.call { callee := Callee.value (Operand.func 11), args := #[Operand.tmp 15], argTypes := #[33] }, type := 29, pos := "headslaw.go:118", after := #[{ on := 2, ground := Ground.data }, { on := 1, ground := Ground.chain }], guard := none }, { dst := some 8, op := Op.alloc 25, type := 0, pos := "headslaw.go:118", after := #[], guard := none }, { dst := some 9, op := Op.alloc 29, type := 0, pos := "headslaw.go:118", after := #[], guard := none }, { dst := none, op := Op.store 25 (Operand.tmp 8) (Operand.tmp 14), type := 0, pos := "headslaw.go:118", after := #[{ on := 4, ground := Ground.data }, { on := 1, ground := Ground.data }, { on := 3, ground := Ground.chain }, { on := 0, ground := Ground.phase }, { on := 1, ground := Ground.phase }, { on := 2, ground := Ground.textOnly Departure.lateStores }, { on := 3, ground := Ground.textOnly Departure.lateStoresUnsure }, { on := 4, ground := Ground.phase }, { on := 5, ground := Ground.phase }], guard := none }, { dst := none, op := Op.store 29 (Operand.tmp 9) (Operand.tmp 16), type := 0, pos := "headslaw.go:118", after := #[{ on := 5, ground := Ground.data }, { on := 3, ground := Ground.data }, { on := 6, ground := Ground.chain }, { on := 0, ground := Ground.phase }, { on := 1, ground := Ground.phase }, { on := 2, ground := Ground.phase }, { on := 3, ground := Ground.phase }, { on := 4, ground := Ground.phase }, { on := 5, ground := Ground.phase }, { on := 6, ground := Ground.phase }], guard := none }]
abbrev frA3 (g6 e6 : Nat) (rr t0 t1 t2 t3 t4 t7 t10 t11 : Value) (x8 x9 x14 x16 : Value) : Act := { tmps := #[t0, t1, t2, t3, t4, undef, .bool false, t7, x8, x9, t10, t11, rr, rr, x14, rr, x16, undef, undef, undef, undef, undef, undef, undef, undef, undef, undef, undef, undef, undef, undef, undef, undef, undef, undef, undef, undef, undef, undef, undef, undef, undef, undef, undef, undef, undef, undef, undef, undef, undef, undef, undef, undef, undef, undef], defers := [] }
structure RIA3 (G : List Gp) (C : List Cf) (A I W : List Int) (g1 g2 g3 g4 g5 e1 e2 e3 e4 e5 : Nat) (w0 : World) (b1 b3 b4 b5 b6 b7 : Bool) (x8 x9 x14 x16 : Value) (w : World) : Prop where
  hb : Below w0.heap.size w0 w
  c1 : b1 = true → x14 = .agg #[.slice (some ⟨g1, 0, none⟩) G.length e1, .slice (some ⟨g2, 0, none⟩) C.length e2]
  c3 : b3 = true → x16 = .agg #[.slice (some ⟨g3, 0, none⟩) A.length e3, .slice (some ⟨g4, 0, none⟩) I.length e4, .slice (some ⟨g5, 0, none⟩) W.length e5]
  c4 : b4 = true → ∃ p, x8 = .pointer (some ⟨p, 0, none⟩) ∧ w0.heap.size ≤ p ∧ (b6 = false → Has w p #[.slice none 0 0, .slice none 0 0]) ∧ (b6 = true → Has w p #[.slice (some ⟨g1, 0, none⟩) G.length e1, .slice (some ⟨g2, 0, none⟩) C.length e2]) ∧ p < w.heap.size ∧ (∀ q, x9 = .pointer (some ⟨q, 0, none⟩) → b5 = true → p ≠ q)
  c5 : b5 = true → ∃ q, x9 = .pointer (some ⟨q, 0, none⟩) ∧ w0.heap.size ≤ q ∧ (b7 = false → Has w q #[.slice none 0 0, .slice none 0 0, .slice none 0 0]) ∧ (b7 = true → Has w q #[.slice (some ⟨g3, 0, none⟩) A.length e3, .slice (some ⟨g4, 0, none⟩) I.length e4, .slice (some ⟨g5, 0, none⟩) W.length e5]) ∧ q < w.heap.size
  c6 : b6 = true → b4 = true ∧ b1 = true
  c7 : b7 = true → b5 = true ∧ b3 = true ∧ b6 = true
abbrev InvA3 (G : List Gp) (C : List Cf) (A I W : List Int) (g1 g2 g3 g4 g5 e1 e2 e3 e4 e5 : Nat) (g6 e6 : Nat) (rr t0 t1 t2 t3 t4 t7 t10 t11 : Value) (w0 : World) (l : Array Bool) (a : Act) (w : World) : Prop :=
  ∃ (b1 b3 b4 b5 b6 b7 : Bool) (x8 x9 x14 x16 : Value), l = #[true, b1, true, b3, b4, b5, b6, b7] ∧ a = frA3 g6 e6 rr t0 t1 t2 t3 t4 t7 t10 t11 x8 x9 x14 x16 ∧ RIA3 G C A I W g1 g2 g3 g4 g5 e1 e2 e3 e4 e5 w0 b1 b3 b4 b5 b6 b7 x8 x9 x14 x16 w

set_option maxRecDepth 100000 in
set_option maxHeartbeats 4000000 in
theorem sA3_1 (G : List Gp) (C : List Cf) (A I W : List Int) (g1 g2 g3 g4 g5 e1 e2 e3 e4 e5 : Nat) (g6 e6 : Nat) (rr t0 t1 t2 t3 t4 t7 t10 t11 : Value) (w0 : World) (hrr : rr = .agg #[.slice (some ⟨g1, 0, none⟩) (G.length + 1) e1, .slice (some ⟨g2, 0, none⟩) (C.length + 1) e2, .slice (some ⟨g3, 0, none⟩) (A.length + 1) e3, .slice (some ⟨g4, 0, none⟩) (I.length + 1) e4, .slice (some ⟨g5, 0, none⟩) (W.length + 1) e5, .slice (some ⟨g6, 0, none⟩) 1 e6]) (hTb : ∀ X : World, Calls Try.prog 10 #[(.agg #[.slice (some ⟨g1, 0, none⟩) (G.length + 1) e1, .slice (some ⟨g2, 0, none⟩) (C.length + 1) e2, .slice (some ⟨g3, 0, none⟩) (A.length + 1) e3, .slice (some ⟨g4, 0, none⟩) (I.length + 1) e4, .slice (some ⟨g5, 0, none⟩) (W.length + 1) e5, .slice (some ⟨g6, 0, none⟩) 1 e6])] X fun e w' => e = .returned (.agg #[.slice (some ⟨g1, 0, none⟩) G.length e1, .slice (some ⟨g2, 0, none⟩) C.length e2]) ∧ Below X.heap.size X w') (hHd : ∀ X : World, Calls Try.prog 11 #[(.agg #[.slice (some ⟨g1, 0, none⟩) (G.length + 1) e1, .slice (some ⟨g2, 0, none⟩) (C.length + 1) e2, .slice (some ⟨g3, 0, none⟩) (A.length + 1) e3, .slice (some ⟨g4, 0, none⟩) (I.length + 1) e4, .slice (some ⟨g5, 0, none⟩) (W.length + 1) e5, .slice (some ⟨g6, 0, none⟩) 1 e6])] X fun e w' => e = .returned (.agg #[.slice (some ⟨g3, 0, none⟩) A.length e3, .slice (some ⟨g4, 0, none⟩) I.length e4, .slice (some ⟨g5, 0, none⟩) W.length e5]) ∧ Below X.heap.size X w') (Q' : Exit → Act → World → Prop) (l : Array Bool) (a : Act) (w : World) (hI : InvA3 G C A I W g1 g2 g3 g4 g5 e1 e2 e3 e4 e5 g6 e6 rr t0 t1 t2 t3 t4 t7 t10 t11 w0 l a w) (h0 : l.getD 1 true = false) (hdep : ∀ e ∈ ({ dst := some 14, op := Op.call { callee := Callee.value (Operand.func 10), args := #[Operand.tmp 13], argTypes := #[33] }, type := 25, pos := "headslaw.go:118", after := #[{ on := 0, ground := Ground.data }], guard := none } : Oper).after, Region.binds .any e = true → l.getD e.on false = true) (K : Act → World → Prop) (hK : ∀ a' w', InvA3 G C A I W g1 g2 g3 g4 g5 e1 e2 e3 e4 e5 g6 e6 rr t0 t1 t2 t3 t4 t7 t10 t11 w0 (l.setIfInBounds 1 true) a' w' → K a' w') :
    if Region.wanted ({ dst := some 14, op := Op.call { callee := Callee.value (Operand.func 10), args := #[Operand.tmp 13], argTypes := #[33] }, type := 25, pos := "headslaw.go:118", after := #[{ on := 0, ground := Ground.data }], guard := none } : Oper) (yielded opsA3 a.tmps) = true then Oper.wp Try.prog ({ dst := some 14, op := Op.call { callee := Callee.value (Operand.func 10), args := #[Operand.tmp 13], argTypes := #[33] }, type := 25, pos := "headslaw.go:118", after := #[{ on := 0, ground := Ground.data }], guard := none } : Oper) a w K Q' else K (a.put ({ dst := some 14, op := Op.call { callee := Callee.value (Operand.func 10), args := #[Operand.tmp 13], argTypes := #[33] }, type := 25, pos := "headslaw.go:118", after := #[{ on := 0, ground := Ground.data }], guard := none } : Oper).dst undef) w := by
  obtain ⟨b1, b3, b4, b5, b6, b7, x8, x9, x14, x16, rfl, rfl, R⟩ := hI
  have e1 : b1 = false := h0
  subst e1
  clear h0 hdep
  subst hrr
  go_simp
  (go_at_call 10; (with_reducible refine Calls.mono (hTb _) ?_); rintro e w2 ⟨rfl, hb2⟩)
  go_wp2_with fail
  exact ⟨_, _, _, _, _, _, _, _, _, _, rfl, rfl, ⟨bel_after R.hb R.hb.size hb2, fun _ => rfl, R.c3, fun h => (R.c4 h).imp fun p hp => ⟨hp.1, hp.2.1, fun h => (hp.2.2.1 h).below hb2, fun h => (hp.2.2.2.1 h).below hb2, Nat.lt_of_lt_of_le hp.2.2.2.2.1 hb2.size, hp.2.2.2.2.2⟩, fun h => (R.c5 h).imp fun p hp => ⟨hp.1, hp.2.1, fun h => (hp.2.2.1 h).below hb2, fun h => (hp.2.2.2.1 h).below hb2, Nat.lt_of_lt_of_le hp.2.2.2.2 hb2.size⟩, fun h => absurd (R.c6 h).2 (by decide), R.c7⟩⟩

set_option maxRecDepth 100000 in
set_option maxHeartbeats 4000000 in
theorem sA3_3 (G : List Gp) (C : List Cf) (A I W : List Int) (g1 g2 g3 g4 g5 e1 e2 e3 e4 e5 : Nat) (g6 e6 : Nat) (rr t0 t1 t2 t3 t4 t7 t10 t11 : Value) (w0 : World) (hrr : rr = .agg #[.slice (some ⟨g1, 0, none⟩) (G.length + 1) e1, .slice (some ⟨g2, 0, none⟩) (C.length + 1) e2, .slice (some ⟨g3, 0, none⟩) (A.length + 1) e3, .slice (some ⟨g4, 0, none⟩) (I.length + 1) e4, .slice (some ⟨g5, 0, none⟩) (W.length + 1) e5, .slice (some ⟨g6, 0, none⟩) 1 e6]) (hTb : ∀ X : World, Calls Try.prog 10 #[(.agg #[.slice (some ⟨g1, 0, none⟩) (G.length + 1) e1, .slice (some ⟨g2, 0, none⟩) (C.length + 1) e2, .slice (some ⟨g3, 0, none⟩) (A.length + 1) e3, .slice (some ⟨g4, 0, none⟩) (I.length + 1) e4, .slice (some ⟨g5, 0, none⟩) (W.length + 1) e5, .slice (some ⟨g6, 0, none⟩) 1 e6])] X fun e w' => e = .returned (.agg #[.slice (some ⟨g1, 0, none⟩) G.length e1, .slice (some ⟨g2, 0, none⟩) C.length e2]) ∧ Below X.heap.size X w') (hHd : ∀ X : World, Calls Try.prog 11 #[(.agg #[.slice (some ⟨g1, 0, none⟩) (G.length + 1) e1, .slice (some ⟨g2, 0, none⟩) (C.length + 1) e2, .slice (some ⟨g3, 0, none⟩) (A.length + 1) e3, .slice (some ⟨g4, 0, none⟩) (I.length + 1) e4, .slice (some ⟨g5, 0, none⟩) (W.length + 1) e5, .slice (some ⟨g6, 0, none⟩) 1 e6])] X fun e w' => e = .returned (.agg #[.slice (some ⟨g3, 0, none⟩) A.length e3, .slice (some ⟨g4, 0, none⟩) I.length e4, .slice (some ⟨g5, 0, none⟩) W.length e5]) ∧ Below X.heap.size X w') (Q' : Exit → Act → World → Prop) (l : Array Bool) (a : Act) (w : World) (hI : InvA3 G C A I W g1 g2 g3 g4 g5 e1 e2 e3 e4 e5 g6 e6 rr t0 t1 t2 t3 t4 t7 t10 t11 w0 l a w) (h0 : l.getD 3 true = false) (hdep : ∀ e ∈ ({ dst := some 16, op := Op.call { callee := Callee.value (Operand.func 11), args := #[Operand.tmp 15], argTypes := #[33] }, type := 29, pos := "headslaw.go:118", after := #[{ on := 2, ground := Ground.data }, { on := 1, ground := Ground.chain }], guard := none } : Oper).after, Region.binds .any e = true → l.getD e.on false = true) (K : Act → World → Prop) (hK : ∀ a' w', InvA3 G C A I W g1 g2 g3 g4 g5 e1 e2 e3 e4 e5 g6 e6 rr t0 t1 t2 t3 t4 t7 t10 t11 w0 (l.setIfInBounds 3 true) a' w' → K a' w') :
    if Region.wanted ({ dst := some 16, op := Op.call { callee := Callee.value (Operand.func 11), args := #[Operand.tmp 15], argTypes := #[33] }, type := 29, pos := "headslaw.go:118", after := #[{ on := 2, ground := Ground.data }, { on := 1, ground := Ground.chain }], guard := none } : Oper) (yielded opsA3 a.tmps) = true then Oper.wp Try.prog ({ dst := some 16, op := Op.call { callee := Callee.value (Operand.func 11), args := #[Operand.tmp 15], argTypes := #[33] }, type := 29, pos := "headslaw.go:118", after := #[{ on := 2, ground := Ground.data }, { on := 1, ground := Ground.chain }], guard := none } : Oper) a w K Q' else K (a.put ({ dst := some 16, op := Op.call { callee := Callee.value (Operand.func 11), args := #[Operand.tmp 15], argTypes := #[33] }, type := 29, pos := "headslaw.go:118", after := #[{ on := 2, ground := Ground.data }, { on := 1, ground := Ground.chain }], guard := none } : Oper).dst undef) w := by
  obtain ⟨b1, b3, b4, b5, b6, b7, x8, x9, x14, x16, rfl, rfl, R⟩ := hI
  have e3 : b3 = false := h0
  subst e3
  clear h0 hdep
  subst hrr
  go_simp
  (go_at_call 11; (with_reducible refine Calls.mono (hHd _) ?_); rintro e w2 ⟨rfl, hb2⟩)
  go_wp2_with fail
  exact ⟨_, _, _, _, _, _, _, _, _, _, rfl, rfl, ⟨bel_after R.hb R.hb.size hb2, R.c1, fun _ => rfl, fun h => (R.c4 h).imp fun p hp => ⟨hp.1, hp.2.1, fun h => (hp.2.2.1 h).below hb2, fun h => (hp.2.2.2.1 h).below hb2, Nat.lt_of_lt_of_le hp.2.2.2.2.1 hb2.size, hp.2.2.2.2.2⟩, fun h => (R.c5 h).imp fun p hp => ⟨hp.1, hp.2.1, fun h => (hp.2.2.1 h).below hb2, fun h => (hp.2.2.2.1 h).below hb2, Nat.lt_of_lt_of_le hp.2.2.2.2 hb2.size⟩, R.c6, fun h => absurd (R.c7 h).2.1 (by decide)⟩⟩

set_option maxRecDepth 100000 in
set_option maxHeartbeats 4000000 in
theorem sA3_4 (G : List Gp) (C : List Cf) (A I W : List Int) (g1 g2 g3 g4 g5 e1 e2 e3 e4 e5 : Nat) (g6 e6 : Nat) (rr t0 t1 t2 t3 t4 t7 t10 t11 : Value) (w0 : World) (hrr : rr = .agg #[.slice (some ⟨g1, 0, none⟩) (G.length + 1) e1, .slice (some ⟨g2, 0, none⟩) (C.length + 1) e2, .slice (some ⟨g3, 0, none⟩) (A.length + 1) e3, .slice (some ⟨g4, 0, none⟩) (I.length + 1) e4, .slice (some ⟨g5, 0, none⟩) (W.length + 1) e5, .slice (some ⟨g6, 0, none⟩) 1 e6]) (hTb : ∀ X : World, Calls Try.prog 10 #[(.agg #[.slice (some ⟨g1, 0, none⟩) (G.length + 1) e1, .slice (some ⟨g2, 0, none⟩) (C.length + 1) e2, .slice (some ⟨g3, 0, none⟩) (A.length + 1) e3, .slice (some ⟨g4, 0, none⟩) (I.length + 1) e4, .slice (some ⟨g5, 0, none⟩) (W.length + 1) e5, .slice (some ⟨g6, 0, none⟩) 1 e6])] X fun e w' => e = .returned (.agg #[.slice (some ⟨g1, 0, none⟩) G.length e1, .slice (some ⟨g2, 0, none⟩) C.length e2]) ∧ Below X.heap.size X w') (hHd : ∀ X : World, Calls Try.prog 11 #[(.agg #[.slice (some ⟨g1, 0, none⟩) (G.length + 1) e1, .slice (some ⟨g2, 0, none⟩) (C.length + 1) e2, .slice (some ⟨g3, 0, none⟩) (A.length + 1) e3, .slice (some ⟨g4, 0, none⟩) (I.length + 1) e4, .slice (some ⟨g5, 0, none⟩) (W.length + 1) e5, .slice (some ⟨g6, 0, none⟩) 1 e6])] X fun e w' => e = .returned (.agg #[.slice (some ⟨g3, 0, none⟩) A.length e3, .slice (some ⟨g4, 0, none⟩) I.length e4, .slice (some ⟨g5, 0, none⟩) W.length e5]) ∧ Below X.heap.size X w') (Q' : Exit → Act → World → Prop) (l : Array Bool) (a : Act) (w : World) (hI : InvA3 G C A I W g1 g2 g3 g4 g5 e1 e2 e3 e4 e5 g6 e6 rr t0 t1 t2 t3 t4 t7 t10 t11 w0 l a w) (h0 : l.getD 4 true = false) (hdep : ∀ e ∈ ({ dst := some 8, op := Op.alloc 25, type := 0, pos := "headslaw.go:118", after := #[], guard := none } : Oper).after, Region.binds .any e = true → l.getD e.on false = true) (K : Act → World → Prop) (hK : ∀ a' w', InvA3 G C A I W g1 g2 g3 g4 g5 e1 e2 e3 e4 e5 g6 e6 rr t0 t1 t2 t3 t4 t7 t10 t11 w0 (l.setIfInBounds 4 true) a' w' → K a' w') :
    if Region.wanted ({ dst := some 8, op := Op.alloc 25, type := 0, pos := "headslaw.go:118", after := #[], guard := none } : Oper) (yielded opsA3 a.tmps) = true then Oper.wp Try.prog ({ dst := some 8, op := Op.alloc 25, type := 0, pos := "headslaw.go:118", after := #[], guard := none } : Oper) a w K Q' else K (a.put ({ dst := some 8, op := Op.alloc 25, type := 0, pos := "headslaw.go:118", after := #[], guard := none } : Oper).dst undef) w := by
  obtain ⟨b1, b3, b4, b5, b6, b7, x8, x9, x14, x16, rfl, rfl, R⟩ := hI
  have e4 : b4 = false := h0
  subst e4
  clear h0 hdep
  subst hrr
  have q6 : b6 = false := by
    cases hq : b6 with
    | false => rfl
    | true => exact absurd (R.c6 hq).1 (by decide)
  subst q6
  go_simp
  refine hK _ _ ?_
  have hbn : Below w.heap.size w (w.alloc (.cells #[.slice none 0 0, .slice none 0 0] 25)) := belN1
  exact ⟨_, _, _, _, _, _, _, _, _, _, rfl, rfl, ⟨bel_after R.hb R.hb.size hbn, R.c1, R.c3, fun _ => ⟨_, rfl, R.hb.size, fun _ => Has.new _ _ _ rfl, fun h => (by cases h), by simp, fun q hq h => (by obtain ⟨q', e', _, _, _, hl⟩ := R.c5 h; rw [e'] at hq; injection hq with hq; injection hq with hq; injection hq with hq; omega)⟩, fun h => (R.c5 h).imp fun p hp => ⟨hp.1, hp.2.1, fun h => (hp.2.2.1 h).below hbn, fun h => (hp.2.2.2.1 h).below hbn, Nat.lt_of_lt_of_le hp.2.2.2.2 hbn.size⟩, fun h => (by cases h), R.c7⟩⟩

set_option maxRecDepth 100000 in
set_option maxHeartbeats 4000000 in
theorem sA3_5 (G : List Gp) (C : List Cf) (A I W : List Int) (g1 g2 g3 g4 g5 e1 e2 e3 e4 e5 : Nat) (g6 e6 : Nat) (rr t0 t1 t2 t3 t4 t7 t10 t11 : Value) (w0 : World) (hrr : rr = .agg #[.slice (some ⟨g1, 0, none⟩) (G.length + 1) e1, .slice (some ⟨g2, 0, none⟩) (C.length + 1) e2, .slice (some ⟨g3, 0, none⟩) (A.length + 1) e3, .slice (some ⟨g4, 0, none⟩) (I.length + 1) e4, .slice (some ⟨g5, 0, none⟩) (W.length + 1) e5, .slice (some ⟨g6, 0, none⟩) 1 e6]) (hTb : ∀ X : World, Calls Try.prog 10 #[(.agg #[.slice (some ⟨g1, 0, none⟩) (G.length + 1) e1, .slice (some ⟨g2, 0, none⟩) (C.length + 1) e2, .slice (some ⟨g3, 0, none⟩) (A.length + 1) e3, .slice (some ⟨g4, 0, none⟩) (I.length + 1) e4, .slice (some ⟨g5, 0, none⟩) (W.length + 1) e5, .slice (some ⟨g6, 0, none⟩) 1 e6])] X fun e w' => e = .returned (.agg #[.slice (some ⟨g1, 0, none⟩) G.length e1, .slice (some ⟨g2, 0, none⟩) C.length e2]) ∧ Below X.heap.size X w') (hHd : ∀ X : World, Calls Try.prog 11 #[(.agg #[.slice (some ⟨g1, 0, none⟩) (G.length + 1) e1, .slice (some ⟨g2, 0, none⟩) (C.length + 1) e2, .slice (some ⟨g3, 0, none⟩) (A.length + 1) e3, .slice (some ⟨g4, 0, none⟩) (I.length + 1) e4, .slice (some ⟨g5, 0, none⟩) (W.length + 1) e5, .slice (some ⟨g6, 0, none⟩) 1 e6])] X fun e w' => e = .returned (.agg #[.slice (some ⟨g3, 0, none⟩) A.length e3, .slice (some ⟨g4, 0, none⟩) I.length e4, .slice (some ⟨g5, 0, none⟩) W.length e5]) ∧ Below X.heap.size X w') (Q' : Exit → Act → World → Prop) (l : Array Bool) (a : Act) (w : World) (hI : InvA3 G C A I W g1 g2 g3 g4 g5 e1 e2 e3 e4 e5 g6 e6 rr t0 t1 t2 t3 t4 t7 t10 t11 w0 l a w) (h0 : l.getD 5 true = false) (hdep : ∀ e ∈ ({ dst := some 9, op := Op.alloc 29, type := 0, pos := "headslaw.go:118", after := #[], guard := none } : Oper).after, Region.binds .any e = true → l.getD e.on false = true) (K : Act → World → Prop) (hK : ∀ a' w', InvA3 G C A I W g1 g2 g3 g4 g5 e1 e2 e3 e4 e5 g6 e6 rr t0 t1 t2 t3 t4 t7 t10 t11 w0 (l.setIfInBounds 5 true) a' w' → K a' w') :
    if Region.wanted ({ dst := some 9, op := Op.alloc 29, type := 0, pos := "headslaw.go:118", after := #[], guard := none } : Oper) (yielded opsA3 a.tmps) = true then Oper.wp Try.prog ({ dst := some 9, op := Op.alloc 29, type := 0, pos := "headslaw.go:118", after := #[], guard := none } : Oper) a w K Q' else K (a.put ({ dst := some 9, op := Op.alloc 29, type := 0, pos := "headslaw.go:118", after := #[], guard := none } : Oper).dst undef) w := by
  obtain ⟨b1, b3, b4, b5, b6, b7, x8, x9, x14, x16, rfl, rfl, R⟩ := hI
  have e5 : b5 = false := h0
  subst e5
  clear h0 hdep
  subst hrr
  have q7 : b7 = false := by
    cases hq : b7 with
    | false => rfl
    | true => exact absurd (R.c7 hq).1 (by decide)
  subst q7
  go_simp
  refine hK _ _ ?_
  have hbn : Below w.heap.size w (w.alloc (.cells #[.slice none 0 0, .slice none 0 0, .slice none 0 0] 29)) := belN1
  exact ⟨_, _, _, _, _, _, _, _, _, _, rfl, rfl, ⟨bel_after R.hb R.hb.size hbn, R.c1, R.c3, fun h => (R.c4 h).imp fun p hp => ⟨hp.1, hp.2.1, fun h => (hp.2.2.1 h).below hbn, fun h => (hp.2.2.2.1 h).below hbn, Nat.lt_of_lt_of_le hp.2.2.2.2.1 hbn.size, fun q hq _ => (by injection hq with hq; injection hq with hq; injection hq with hq; have := hp.2.2.2.2.1; omega)⟩, fun _ => ⟨_, rfl, R.hb.size, fun _ => Has.new _ _ _ rfl, fun h => (by cases h), by simp⟩, R.c6, fun h => (by cases h)⟩⟩

set_option maxRecDepth 100000 in
set_option maxHeartbeats 4000000 in
theorem sA3_6 (G : List Gp) (C : List Cf) (A I W : List Int) (g1 g2 g3 g4 g5 e1 e2 e3 e4 e5 : Nat) (g6 e6 : Nat) (rr t0 t1 t2 t3 t4 t7 t10 t11 : Value) (w0 : World) (hrr : rr = .agg #[.slice (some ⟨g1, 0, none⟩) (G.length + 1) e1, .slice (some ⟨g2, 0, none⟩) (C.length + 1) e2, .slice (some ⟨g3, 0, none⟩) (A.length + 1) e3, .slice (some ⟨g4, 0, none⟩) (I.length + 1) e4, .slice (some ⟨g5, 0, none⟩) (W.length + 1) e5, .slice (some ⟨g6, 0, none⟩) 1 e6]) (hTb : ∀ X : World, Calls Try.prog 10 #[(.agg #[.slice (some ⟨g1, 0, none⟩) (G.length + 1) e1, .slice (some ⟨g2, 0, none⟩) (C.length + 1) e2, .slice (some ⟨g3, 0, none⟩) (A.length + 1) e3, .slice (some ⟨g4, 0, none⟩) (I.length + 1) e4, .slice (some ⟨g5, 0, none⟩) (W.length + 1) e5, .slice (some ⟨g6, 0, none⟩) 1 e6])] X fun e w' => e = .returned (.agg #[.slice (some ⟨g1, 0, none⟩) G.length e1, .slice (some ⟨g2, 0, none⟩) C.length e2]) ∧ Below X.heap.size X w') (hHd : ∀ X : World, Calls Try.prog 11 #[(.agg #[.slice (some ⟨g1, 0, none⟩) (G.length + 1) e1, .slice (some ⟨g2, 0, none⟩) (C.length + 1) e2, .slice (some ⟨g3, 0, none⟩) (A.length + 1) e3, .slice (some ⟨g4, 0, none⟩) (I.length + 1) e4, .slice (some ⟨g5, 0, none⟩) (W.length + 1) e5, .slice (some ⟨g6, 0, none⟩) 1 e6])] X fun e w' => e = .returned (.agg #[.slice (some ⟨g3, 0, none⟩) A.length e3, .slice (some ⟨g4, 0, none⟩) I.length e4, .slice (some ⟨g5, 0, none⟩) W.length e5]) ∧ Below X.heap.size X w') (Q' : Exit → Act → World → Prop) (l : Array Bool) (a : Act) (w : World) (hI : InvA3 G C A I W g1 g2 g3 g4 g5 e1 e2 e3 e4 e5 g6 e6 rr t0 t1 t2 t3 t4 t7 t10 t11 w0 l a w) (h0 : l.getD 6 true = false) (hdep : ∀ e ∈ ({ dst := none, op := Op.store 25 (Operand.tmp 8) (Operand.tmp 14), type := 0, pos := "headslaw.go:118", after := #[{ on := 4, ground := Ground.data }, { on := 1, ground := Ground.data }, { on := 3, ground := Ground.chain }, { on := 0, ground := Ground.phase }, { on := 1, ground := Ground.phase }, { on := 2, ground := Ground.textOnly Departure.lateStores }, { on := 3, ground := Ground.textOnly Departure.lateStoresUnsure }, { on := 4, ground := Ground.phase }, { on := 5, ground := Ground.phase }], guard := none } : Oper).after, Region.binds .any e = true → l.getD e.on false = true) (K : Act → World → Prop) (hK : ∀ a' w', InvA3 G C A I W g1 g2 g3 g4 g5 e1 e2 e3 e4 e5 g6 e6 rr t0 t1 t2 t3 t4 t7 t10 t11 w0 (l.setIfInBounds 6 true) a' w' → K a' w') :
    if Region.wanted ({ dst := none, op := Op.store 25 (Operand.tmp 8) (Operand.tmp 14), type := 0, pos := "headslaw.go:118", after := #[{ on := 4, ground := Ground.data }, { on := 1, ground := Ground.data }, { on := 3, ground := Ground.chain }, { on := 0, ground := Ground.phase }, { on := 1, ground := Ground.phase }, { on := 2, ground := Ground.textOnly Departure.lateStores }, { on := 3, ground := Ground.textOnly Departure.lateStoresUnsure }, { on := 4, ground := Ground.phase }, { on := 5, ground := Ground.phase }], guard := none } : Oper) (yielded opsA3 a.tmps) = true then Oper.wp Try.prog ({ dst := none, op := Op.store 25 (Operand.tmp 8) (Operand.tmp 14), type := 0, pos := "headslaw.go:118", after := #[{ on := 4, ground := Ground.data }, { on := 1, ground := Ground.data }, { on := 3, ground := Ground.chain }, { on := 0, ground := Ground.phase }, { on := 1, ground := Ground.phase }, { on := 2, ground := Ground.textOnly Departure.lateStores }, { on := 3, ground := Ground.textOnly Departure.lateStoresUnsure }, { on := 4, ground := Ground.phase }, { on := 5, ground := Ground.phase }], guard := none } : Oper) a w K Q' else K (a.put ({ dst := none, op := Op.store 25 (Operand.tmp 8) (Operand.tmp 14), type := 0, pos := "headslaw.go:118", after := #[{ on := 4, ground := Ground.data }, { on := 1, ground := Ground.data }, { on := 3, ground := Ground.chain }, { on := 0, ground := Ground.phase }, { on := 1, ground := Ground.phase }, { on := 2, ground := Ground.textOnly Departure.lateStores }, { on := 3, ground := Ground.textOnly Departure.lateStoresUnsure }, { on := 4, ground := Ground.phase }, { on := 5, ground := Ground.phase }], guard := none } : Oper).dst undef) w := by
  obtain ⟨b1, b3, b4, b5, b6, b7, x8, x9, x14, x16, rfl, rfl, R⟩ := hI
  have e6 : b6 = false := h0
  subst e6
  have e4 : b4 = true := hdep ⟨4, Ground.data⟩ (by simp) rfl
  subst e4
  have e1 : b1 = true := hdep ⟨1, Ground.data⟩ (by simp) rfl
  subst e1
  clear h0 hdep
  subst hrr
  obtain ⟨p, e8, hp, hz, -, hlt, hne⟩ := R.c4 rfl
  have e14 := R.c1 rfl
  subst e8 e14
  have H := hz rfl
  obtain ⟨_, y1, y2⟩ := id H
  have q7 : b7 = false := by
    cases hq : b7 with
    | false => rfl
    | true => exact absurd (R.c7 hq).2.2 (by decide)
  subst q7
  go_simp
  refine hK _ _ ?_
  have O : Only (fun q => q = p) w ((w.setCell ⟨p, 0, none⟩ (.slice (some ⟨g1, 0, none⟩) G.length e1)).setCell ⟨p, 1, none⟩ (.slice (some ⟨g2, 0, none⟩) C.length e2)) := ((only_of_set _ _ _ _).trans (only_of_set _ _ _ _))
  have HH : Has ((w.setCell ⟨p, 0, none⟩ (.slice (some ⟨g1, 0, none⟩) G.length e1)).setCell ⟨p, 1, none⟩ (.slice (some ⟨g2, 0, none⟩) C.length e2)) p #[.slice (some ⟨g1, 0, none⟩) G.length e1, .slice (some ⟨g2, 0, none⟩) C.length e2] := by simpa using ((H.set 0 (by simp) (.slice (some ⟨g1, 0, none⟩) G.length e1)).set 1 (by simp) (.slice (some ⟨g2, 0, none⟩) C.length e2))
  exact ⟨_, _, _, _, _, _, _, _, _, _, rfl, rfl, ⟨bel_only R.hb O (Nat.le_refl _) (fun q hq h => by omega), R.c1, R.c3, fun _ => ⟨p, rfl, hp, fun h => (by cases h), fun _ => HH, Nat.lt_of_lt_of_le hlt O.size, hne⟩, fun h => (R.c5 h).imp fun q hq => ⟨hq.1, hq.2.1, fun h' => (hq.2.2.1 h').only O (fun e => hne q hq.1 h e.symm), fun h => (by cases h), Nat.lt_of_lt_of_le hq.2.2.2.2 O.size⟩, fun _ => ⟨rfl, rfl⟩, fun h => (by cases h)⟩⟩

set_option maxRecDepth 100000 in
set_option maxHeartbeats 4000000 in
theorem sA3_7 (G : List Gp) (C : List Cf) (A I W : List Int) (g1 g2 g3 g4 g5 e1 e2 e3 e4 e5 : Nat) (g6 e6 : Nat) (rr t0 t1 t2 t3 t4 t7 t10 t11 : Value) (w0 : World) (hrr : rr = .agg #[.slice (some ⟨g1, 0, none⟩) (G.length + 1) e1, .slice (some ⟨g2, 0, none⟩) (C.length + 1) e2, .slice (some ⟨g3, 0, none⟩) (A.length + 1) e3, .slice (some ⟨g4, 0, none⟩) (I.length + 1) e4, .slice (some ⟨g5, 0, none⟩) (W.length + 1) e5, .slice (some ⟨g6, 0, none⟩) 1 e6]) (hTb : ∀ X : World, Calls Try.prog 10 #[(.agg #[.slice (some ⟨g1, 0, none⟩) (G.length + 1) e1, .slice (some ⟨g2, 0, none⟩) (C.length + 1) e2, .slice (some ⟨g3, 0, none⟩) (A.length + 1) e3, .slice (some ⟨g4, 0, none⟩) (I.length + 1) e4, .slice (some ⟨g5, 0, none⟩) (W.length + 1) e5, .slice (some ⟨g6, 0, none⟩) 1 e6])] X fun e w' => e = .returned (.agg #[.slice (some ⟨g1, 0, none⟩) G.length e1, .slice (some ⟨g2, 0, none⟩) C.length e2]) ∧ Below X.heap.size X w') (hHd : ∀ X : World, Calls Try.prog 11 #[(.agg #[.slice (some ⟨g1, 0, none⟩) (G.length + 1) e1, .slice (some ⟨g2, 0, none⟩) (C.length + 1) e2, .slice (some ⟨g3, 0, none⟩) (A.length + 1) e3, .slice (some ⟨g4, 0, none⟩) (I.length + 1) e4, .slice (some ⟨g5, 0, none⟩) (W.length + 1) e5, .slice (some ⟨g6, 0, none⟩) 1 e6])] X fun e w' => e = .returned (.agg #[.slice (some ⟨g3, 0, none⟩) A.length e3, .slice (some ⟨g4, 0, none⟩) I.length e4, .slice (some ⟨g5, 0, none⟩) W.length e5]) ∧ Below X.heap.size X w') (Q' : Exit → Act → World → Prop) (l : Array Bool) (a : Act) (w : World) (hI : InvA3 G C A I W g1 g2 g3 g4 g5 e1 e2 e3 e4 e5 g6 e6 rr t0 t1 t2 t3 t4 t7 t10 t11 w0 l a w) (h0 : l.getD 7 true = false) (hdep : ∀ e ∈ ({ dst := none, op := Op.store 29 (Operand.tmp 9) (Operand.tmp 16), type := 0, pos := "headslaw.go:118", after := #[{ on := 5, ground := Ground.data }, { on := 3, ground := Ground.data }, { on := 6, ground := Ground.chain }, { on := 0, ground := Ground.phase }, { on := 1, ground := Ground.phase }, { on := 2, ground := Ground.phase }, { on := 3, ground := Ground.phase }, { on := 4, ground := Ground.phase }, { on := 5, ground := Ground.phase }, { on := 6, ground := Ground.phase }], guard := none } : Oper).after, Region.binds .any e = true → l.getD e.on false = true) (K : Act → World → Prop) (hK : ∀ a' w', InvA3 G C A I W g1 g2 g3 g4 g5 e1 e2 e3 e4 e5 g6 e6 rr t0 t1 t2 t3 t4 t7 t10 t11 w0 (l.setIfInBounds 7 true) a' w' → K a' w') :
    if Region.wanted ({ dst := none, op := Op.store 29 (Operand.tmp 9) (Operand.tmp 16), type := 0, pos := "headslaw.go:118", after := #[{ on := 5, ground := Ground.data }, { on := 3, ground := Ground.data }, { on := 6, ground := Ground.chain }, { on := 0, ground := Ground.phase }, { on := 1, ground := Ground.phase }, { on := 2, ground := Ground.phase }, { on := 3, ground := Ground.phase }, { on := 4, ground := Ground.phase }, { on := 5, ground := Ground.phase }, { on := 6, ground := Ground.phase }], guard := none } : Oper) (yielded opsA3 a.tmps) = true then Oper.wp Try.prog ({ dst := none, op := Op.store 29 (Operand.tmp 9) (Operand.tmp 16), type := 0, pos := "headslaw.go:118", after := #[{ on := 5, ground := Ground.data }, { on := 3, ground := Ground.data }, { on := 6, ground := Ground.chain }, { on := 0, ground := Ground.phase }, { on := 1, ground := Ground.phase }, { on := 2, ground := Ground.phase }, { on := 3, ground := Ground.phase }, { on := 4, ground := Ground.phase }, { on := 5, ground := Ground.phase }, { on := 6, ground := Ground.phase }], guard := none } : Oper) a w K Q' else K (a.put ({ dst := none, op := Op.store 29 (Operand.tmp 9) (Operand.tmp 16), type := 0, pos := "headslaw.go:118", after := #[{ on := 5, ground := Ground.data }, { on := 3, ground := Ground.data }, { on := 6, ground := Ground.chain }, { on := 0, ground := Ground.phase }, { on := 1, ground := Ground.phase }, { on := 2, ground := Ground.phase }, { on := 3, ground := Ground.phase }, { on := 4, ground := Ground.phase }, { on := 5, ground := Ground.phase }, { on := 6, ground := Ground.phase }], guard := none } : Oper).dst undef) w := by
  obtain ⟨b1, b3, b4, b5, b6, b7, x8, x9, x14, x16, rfl, rfl, R⟩ := hI
  have e7 : b7 = false := h0
  subst e7
  have e5 : b5 = true := hdep ⟨5, Ground.data⟩ (by simp) rfl
  subst e5
  have e3 : b3 = true := hdep ⟨3, Ground.data⟩ (by simp) rfl
  subst e3
  have e6 : b6 = true := hdep ⟨6, Ground.chain⟩ (by simp) rfl
  subst e6
  clear h0 hdep
  subst hrr
  obtain ⟨p, e9, hp, hz, -, hlt⟩ := R.c5 rfl
  obtain ⟨r4, r1⟩ := R.c6 rfl
  subst r4 r1
  obtain ⟨p', e8, hp', -, hz', hlt', hne⟩ := R.c4 rfl
  have e16 := R.c3 rfl
  subst e9 e16 e8
  have H := hz rfl
  have H' := hz' rfl
  have hn := hne p rfl rfl
  obtain ⟨_, y1, y2⟩ := id H
  go_simp
  refine hK _ _ ?_
  have O : Only (fun q => q = p) w (((w.setCell ⟨p, 0, none⟩ (.slice (some ⟨g3, 0, none⟩) A.length e3)).setCell ⟨p, 1, none⟩ (.slice (some ⟨g4, 0, none⟩) I.length e4)).setCell ⟨p, 2, none⟩ (.slice (some ⟨g5, 0, none⟩) W.length e5)) := (((only_of_set _ _ _ _).trans (only_of_set _ _ _ _)).trans (only_of_set _ _ _ _))
  have HH : Has (((w.setCell ⟨p, 0, none⟩ (.slice (some ⟨g3, 0, none⟩) A.length e3)).setCell ⟨p, 1, none⟩ (.slice (some ⟨g4, 0, none⟩) I.length e4)).setCell ⟨p, 2, none⟩ (.slice (some ⟨g5, 0, none⟩) W.length e5)) p #[.slice (some ⟨g3, 0, none⟩) A.length e3, .slice (some ⟨g4, 0, none⟩) I.length e4, .slice (some ⟨g5, 0, none⟩) W.length e5] := by simpa using (((H.set 0 (by simp) (.slice (some ⟨g3, 0, none⟩) A.length e3)).set 1 (by simp) (.slice (some ⟨g4, 0, none⟩) I.length e4)).set 2 (by simp) (.slice (some ⟨g5, 0, none⟩) W.length e5))
  exact ⟨_, _, _, _, _, _, _, _, _, _, rfl, rfl, ⟨bel_only R.hb O (Nat.le_refl _) (fun q hq h => by omega), R.c1, R.c3, fun _ => ⟨p', rfl, hp', fun h => (by cases h), fun _ => H'.only O hn, Nat.lt_of_lt_of_le hlt' O.size, hne⟩, fun _ => ⟨p, rfl, hp, fun h => (by cases h), fun _ => HH, Nat.lt_of_lt_of_le hlt O.size⟩, R.c6, fun _ => ⟨rfl, rfl, rfl⟩⟩⟩

set_option maxRecDepth 100000 in
set_option maxHeartbeats 4000000 in
theorem regA3 (G : List Gp) (C : List Cf) (A I W : List Int) (g1 g2 g3 g4 g5 e1 e2 e3 e4 e5 : Nat) (g6 e6 : Nat) (rr t0 t1 t2 t3 t4 t7 t10 t11 : Value) (w0 : World) (hrr : rr = .agg #[.slice (some ⟨g1, 0, none⟩) (G.length + 1) e1, .slice (some ⟨g2, 0, none⟩) (C.length + 1) e2, .slice (some ⟨g3, 0, none⟩) (A.length + 1) e3, .slice (some ⟨g4, 0, none⟩) (I.length + 1) e4, .slice (some ⟨g5, 0, none⟩) (W.length + 1) e5, .slice (some ⟨g6, 0, none⟩) 1 e6]) (hTb : ∀ X : World, Calls Try.prog 10 #[(.agg #[.slice (some ⟨g1, 0, none⟩) (G.length + 1) e1, .slice (some ⟨g2, 0, none⟩) (C.length + 1) e2, .slice (some ⟨g3, 0, none⟩) (A.length + 1) e3, .slice (some ⟨g4, 0, none⟩) (I.length + 1) e4, .slice (some ⟨g5, 0, none⟩) (W.length + 1) e5, .slice (some ⟨g6, 0, none⟩) 1 e6])] X fun e w' => e = .returned (.agg #[.slice (some ⟨g1, 0, none⟩) G.length e1, .slice (some ⟨g2, 0, none⟩) C.length e2]) ∧ Below X.heap.size X w') (hHd : ∀ X : World, Calls Try.prog 11 #[(.agg #[.slice (some ⟨g1, 0, none⟩) (G.length + 1) e1, .slice (some ⟨g2, 0, none⟩) (C.length + 1) e2, .slice (some ⟨g3, 0, none⟩) (A.length + 1) e3, .slice (some ⟨g4, 0, none⟩) (I.length + 1) e4, .slice (some ⟨g5, 0, none⟩) (W.length + 1) e5, .slice (some ⟨g6, 0, none⟩) 1 e6])] X fun e w' => e = .returned (.agg #[.slice (some ⟨g3, 0, none⟩) A.length e3, .slice (some ⟨g4, 0, none⟩) I.length e4, .slice (some ⟨g5, 0, none⟩) W.length e5]) ∧ Below X.heap.size X w') (S : World → Prop) (Q' : Exit → Act → World → Prop) (hS : ∀ X, Below w0.heap.size w0 X → S X)
    (hfin : ∀ (p q : Nat) (X : World), Below w0.heap.size w0 X → Has X p #[.slice (some ⟨g1, 0, none⟩) G.length e1, .slice (some ⟨g2, 0, none⟩) C.length e2] → Has X q #[.slice (some ⟨g3, 0, none⟩) A.length e3, .slice (some ⟨g4, 0, none⟩) I.length e4, .slice (some ⟨g5, 0, none⟩) W.length e5] → w0.heap.size ≤ p → w0.heap.size ≤ q → Q' .normal (frA3 g6 e6 rr t0 t1 t2 t3 t4 t7 t10 t11 (.pointer (some ⟨p, 0, none⟩)) (.pointer (some ⟨q, 0, none⟩)) (.agg #[.slice (some ⟨g1, 0, none⟩) G.length e1, .slice (some ⟨g2, 0, none⟩) C.length e2]) (.agg #[.slice (some ⟨g3, 0, none⟩) A.length e3, .slice (some ⟨g4, 0, none⟩) I.length e4, .slice (some ⟨g5, 0, none⟩) W.length e5])) X) (fuel : Nat) (hf : 6 ≤ fuel) :
    wpAnyH Try.prog .any opsA3 Q' S fuel #[true, false, true, false, false, false, false, false] (frA3 g6 e6 rr t0 t1 t2 t3 t4 t7 t10 t11 undef undef undef undef) w0 := by
  refine wpAnyH_inv (InvA3 G C A I W g1 g2 g3 g4 g5 e1 e2 e3 e4 e5 g6 e6 rr t0 t1 t2 t3 t4 t7 t10 t11 w0) (by kernel_rfl) ?_ ?_ ?_ _ _ _ _ (by rfl) (Nat.le_trans (of_decide_eq_true (by kernel_rfl) : cntF _ ≤ 6) hf) ⟨false, false, false, false, false, false, undef, undef, undef, undef, rfl, rfl, ⟨Below.refl _ _, fun h => (by cases h), fun h => (by cases h), fun h => (by cases h), fun h => (by cases h), fun h => (by cases h), fun h => (by cases h)⟩⟩
  · rintro l a X ⟨_, _, _, _, _, _, _, _, _, _, -, -, R⟩
    exact hS X R.hb
  · intro l a X i o hI ho h0 hdep K' hK'
    have hi : i < 8 := (Array.getElem?_eq_some_iff.1 ho).1
    have c : i = 0 ∨ i = 1 ∨ i = 2 ∨ i = 3 ∨ i = 4 ∨ i = 5 ∨ i = 6 ∨ i = 7 := by omega
    rcases c with rfl | rfl | rfl | rfl | rfl | rfl | rfl | rfl
    · obtain ⟨_, _, _, _, _, _, _, _, _, _, rfl, -, -⟩ := hI
      exact Bool.noConfusion (show true = false from h0)
    · cases (show some ({ dst := some 14, op := Op.call { callee := Callee.value (Operand.func 10), args := #[Operand.tmp 13], argTypes := #[33] }, type := 25, pos := "headslaw.go:118", after := #[{ on := 0, ground := Ground.data }], guard := none } : Oper) = some o from ho)
      exact sA3_1 G C A I W g1 g2 g3 g4 g5 e1 e2 e3 e4 e5 g6 e6 rr t0 t1 t2 t3 t4 t7 t10 t11 w0 hrr hTb hHd _ l a X hI h0 hdep K' hK'
    · obtain ⟨_, _, _, _, _, _, _, _, _, _, rfl, -, -⟩ := hI
      exact Bool.noConfusion (show true = false from h0)
    · cases (show some ({ dst := some 16, op := Op.call { callee := Callee.value (Operand.func 11), args := #[Operand.tmp 15], argTypes := #[33] }, type := 29, pos := "headslaw.go:118", after := #[{ on := 2, ground := Ground.data }, { on := 1, ground := Ground.chain }], guard := none } : Oper) = some o from ho)
      exact sA3_3 G C A I W g1 g2 g3 g4 g5 e1 e2 e3 e4 e5 g6 e6 rr t0 t1 t2 t3 t4 t7 t10 t11 w0 hrr hTb hHd _ l a X hI h0 hdep K' hK'
    · cases (show some ({ dst := some 8, op := Op.alloc 25, type := 0, pos := "headslaw.go:118", after := #[], guard := none } : Oper) = some o from ho)
      exact sA3_4 G C A I W g1 g2 g3 g4 g5 e1 e2 e3 e4 e5 g6 e6 rr t0 t1 t2 t3 t4 t7 t10 t11 w0 hrr hTb hHd _ l a X hI h0 hdep K' hK'
    · cases (show some ({ dst := some 9, op := Op.alloc 29, type := 0, pos := "headslaw.go:118", after := #[], guard := none } : Oper) = some o from ho)
      exact sA3_5 G C A I W g1 g2 g3 g4 g5 e1 e2 e3 e4 e5 g6 e6 rr t0 t1 t2 t3 t4 t7 t10 t11 w0 hrr hTb hHd _ l a X hI h0 hdep K' hK'
    · cases (show some ({ dst := none, op := Op.store 25 (Operand.tmp 8) (Operand.tmp 14), type := 0, pos := "headslaw.go:118", after := #[{ on := 4, ground := Ground.data }, { on := 1, ground := Ground.data }, { on := 3, ground := Ground.chain }, { on := 0, ground := Ground.phase }, { on := 1, ground := Ground.phase }, { on := 2, ground := Ground.textOnly Departure.lateStores }, { on := 3, ground := Ground.textOnly Departure.lateStoresUnsure }, { on := 4, ground := Ground.phase }, { on := 5, ground := Ground.phase }], guard := none } : Oper) = some o from ho)
      exact sA3_6 G C A I W g1 g2 g3 g4 g5 e1 e2 e3 e4 e5 g6 e6 rr t0 t1 t2 t3 t4 t7 t10 t11 w0 hrr hTb hHd _ l a X hI h0 hdep K' hK'
    · cases (show some ({ dst := none, op := Op.store 29 (Operand.tmp 9) (Operand.tmp 16), type := 0, pos := "headslaw.go:118", after := #[{ on := 5, ground := Ground.data }, { on := 3, ground := Ground.data }, { on := 6, ground := Ground.chain }, { on := 0, ground := Ground.phase }, { on := 1, ground := Ground.phase }, { on := 2, ground := Ground.phase }, { on := 3, ground := Ground.phase }, { on := 4, ground := Ground.phase }, { on := 5, ground := Ground.phase }, { on := 6, ground := Ground.phase }], guard := none } : Oper) = some o from ho)
      exact sA3_7 G C A I W g1 g2 g3 g4 g5 e1 e2 e3 e4 e5 g6 e6 rr t0 t1 t2 t3 t4 t7 t10 t11 w0 hrr hTb hHd _ l a X hI h0 hdep K' hK'
  · rintro l a X ⟨b1, b3, b4, b5, b6, b7, x8, x9, x14, x16, rfl, rfl, R⟩ hall
    have e7 : b7 = true := hall 7
    subst e7
    obtain ⟨r5, r3, r6⟩ := R.c7 rfl
    subst r5 r3 r6
    obtain ⟨r4, r1⟩ := R.c6 rfl
    subst r4 r1
    obtain ⟨p, e8, hp, -, hz, -⟩ := R.c4 rfl
    obtain ⟨q, e9, hq, -, hy, -⟩ := R.c5 rfl
    have e14 := R.c1 rfl
    have e16 := R.c3 rfl
    subst e8 e9 e14 e16
    exact hfin p q X R.hb (hz rfl) (hy rfl) hp hq
end Go.Proofs.Ytbonmajnkbggcab
