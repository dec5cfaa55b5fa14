import Derived.Test.YtbonmajnkbggcabKpA
import Derived.Test.YtbonmajnkbggcabRmE
import Derived.Test.YtbonmajnkbggcabStA
import Derived.Test.YtbonmajnkbggcabRtD
import Derived.Test.YtbonmajnkbggcabSpO
import Derived.Deep.RegionHeld3
namespace Go.Proofs.Ytbonmajnkbggcab
open Go.RowKit
set_option linter.unusedVariables false


abbrev opsA6 : Array Oper := #[{ dst := some 19, op := Op.load 33 (Operand.tmp 7), type := 33, pos := "headslaw.go:131", after := #[], guard := none }, { dst := some 20, op := Op.call { callee := Callee.value (Operand.func 10), args := #[Operand.tmp 19], argTypes := #[33] }, type := 25, pos := "headslaw.go:131", after := #[{ on := 0, ground := Ground.data }], guard := none }, { dst := some 21, op := Op.load 33 (Operand.tmp 7), type := 33, pos := "headslaw.go:131", after := #[], guard := none }, { dst := some 22, op := Op.call { callee := Callee.value (Operand.func 11), args := #[Operand.tmp 21], argTypes := #[33] }, type := 29, pos := "headslaw.go:131", after := #[{ on := 2, ground := Ground.data }, { on := 1, ground := Ground.chain }], guard := none }, { dst := some 8, op := Op.alloc 25, type := 0, pos := "headslaw.go:131", after := #[], guard := none }, { dst := some 9, op := Op.alloc 29, type := 0, pos := "headslaw.go:131", after := #[], guard := none }, { dst := none, op := Op.store 25 (Operand.tmp 8) (Operand.tmp 20), type := 0, pos := "headslaw.go:131", after := #[{ on := 4, ground := Ground.data }, { on := 1, ground := Ground.data }, { on := 3, ground := Ground.chain }, { on := 0, ground := Ground.phase }, { on := 1, ground := Ground.phase }, { on := 2, ground := Ground.textOnly Departure.lateStores }, { on := 3, ground := Ground.textOnly Departure.lateStoresUnsure }, { on := 4, ground := Ground.phase }, { on := 5, ground := Ground.phase }], guard := none }, { dst := none, op := Op.store 29 (Operand.tmp 9) (Operand.tmp 22), type := 0, pos := "headslaw.go:131", after := #[{ on := 5, ground := Ground.data }, { on := 3, ground := Ground.data }, { on := 6, ground := Ground.chain }, { on := 0, ground := Ground.phase }, { on := 1, ground := Ground.phase }, { on := 2, ground := Ground.phase }, { on := 3, ground := Ground.phase }, { on := 4, ground := Ground.phase }, { on := 5, ground := Ground.phase }, { on := 6, ground := Ground.phase }], guard := none }]
abbrev frA6 (g6 e6 : Nat) (rr t0 t1 t2 t3 t4 t7 t10 t11 : Value) (x8 x9 x14 x16 : Value) : Act := { tmps := #[t0, t1, t2, t3, t4, undef, .bool false, t7, x8, x9, undef, undef, undef, undef, undef, undef, t10, t11, rr, rr, x14, rr, x16, undef, undef, undef, undef, undef, undef, undef, undef, undef, undef, undef, undef, undef, undef, undef, undef, undef, undef, undef, undef, undef, undef, undef, undef, undef, undef, undef, undef, undef, undef, undef, undef, undef, undef, undef, undef, undef, undef, undef, undef, undef, undef, undef, undef, undef, undef, undef, undef, undef, undef, undef, undef, undef, undef, undef, undef, undef, undef, undef, undef, undef, undef, undef, undef, undef, undef, undef, undef, undef, undef, undef, undef, undef, undef, undef, undef, undef, undef, undef, undef, undef, undef, undef, undef, undef, undef, undef, undef, undef, undef, undef, undef, undef, undef, undef, undef, undef, undef, undef, undef], defers := [] }
structure RIA6 (G : List Gp) (C : List Cf) (A I W : List Int) (g1 g2 g3 g4 g5 e1 e2 e3 e4 e5 : Nat) (w0 : World) (b1 b3 b4 b5 b6 b7 : Bool) (x8 x9 x14 x16 : Value) (w : World) : Prop where
  hb : Below w0.heap.size w0 w
  c1 : b1 = true → x14 = .agg #[.slice (some ⟨g1, 0, none⟩) G.length e1, .slice (some ⟨g2, 0, none⟩) C.length e2]
  c3 : b3 = true → x16 = .agg #[.slice (some ⟨g3, 0, none⟩) A.length e3, .slice (some ⟨g4, 0, none⟩) I.length e4, .slice (some ⟨g5, 0, none⟩) W.length e5]
  c4 : b4 = true → ∃ p, x8 = .pointer (some ⟨p, 0, none⟩) ∧ w0.heap.size ≤ p ∧ (b6 = false → Has w p #[.slice none 0 0, .slice none 0 0]) ∧ (b6 = true → Has w p #[.slice (some ⟨g1, 0, none⟩) G.length e1, .slice (some ⟨g2, 0, none⟩) C.length e2]) ∧ p < w.heap.size ∧ (∀ q, x9 = .pointer (some ⟨q, 0, none⟩) → b5 = true → p ≠ q)
  c5 : b5 = true → ∃ q, x9 = .pointer (some ⟨q, 0, none⟩) ∧ w0.heap.size ≤ q ∧ (b7 = false → Has w q #[.slice none 0 0, .slice none 0 0, .slice none 0 0]) ∧ (b7 = true → Has w q #[.slice (some ⟨g3, 0, none⟩) A.length e3, .slice (some ⟨g4, 0, none⟩) I.length e4, .slice (some ⟨g5, 0, none⟩) W.length e5]) ∧ q < w.heap.size
  c6 : b6 = true → b4 = true ∧ b1 = true
  c7 : b7 = true → b5 = true ∧ b3 = true ∧ b6 = true
abbrev InvA6 (G : List Gp) (C : List Cf) (A I W : List Int) (g1 g2 g3 g4 g5 e1 e2 e3 e4 e5 : Nat) (g6 e6 : Nat) (rr t0 t1 t2 t3 t4 t7 t10 t11 : Value) (w0 : World) (l : Array Bool) (a : Act) (w : World) : Prop :=
  ∃ (b1 b3 b4 b5 b6 b7 : Bool) (x8 x9 x14 x16 : Value), l = #[true, b1, true, b3, b4, b5, b6, b7] ∧ a = frA6 g6 e6 rr t0 t1 t2 t3 t4 t7 t10 t11 x8 x9 x14 x16 ∧ RIA6 G C A I W g1 g2 g3 g4 g5 e1 e2 e3 e4 e5 w0 b1 b3 b4 b5 b6 b7 x8 x9 x14 x16 w

set_option maxRecDepth 100000 in
set_option maxHeartbeats 4000000 in
theorem sA6_1 (G : List Gp) (C : List Cf) (A I W : List Int) (g1 g2 g3 g4 g5 e1 e2 e3 e4 e5 : Nat) (g6 e6 : Nat) (rr t0 t1 t2 t3 t4 t7 t10 t11 : Value) (w0 : World) (hrr : rr = .agg #[.slice (some ⟨g1, 0, none⟩) (G.length + 1) e1, .slice (some ⟨g2, 0, none⟩) (C.length + 1) e2, .slice (some ⟨g3, 0, none⟩) (A.length + 1) e3, .slice (some ⟨g4, 0, none⟩) (I.length + 1) e4, .slice (some ⟨g5, 0, none⟩) (W.length + 1) e5, .slice (some ⟨g6, 0, none⟩) 1 e6]) (hTb : ∀ X : World, Calls Try.prog 10 #[(.agg #[.slice (some ⟨g1, 0, none⟩) (G.length + 1) e1, .slice (some ⟨g2, 0, none⟩) (C.length + 1) e2, .slice (some ⟨g3, 0, none⟩) (A.length + 1) e3, .slice (some ⟨g4, 0, none⟩) (I.length + 1) e4, .slice (some ⟨g5, 0, none⟩) (W.length + 1) e5, .slice (some ⟨g6, 0, none⟩) 1 e6])] X fun e w' => e = .returned (.agg #[.slice (some ⟨g1, 0, none⟩) G.length e1, .slice (some ⟨g2, 0, none⟩) C.length e2]) ∧ Below X.heap.size X w') (hHd : ∀ X : World, Calls Try.prog 11 #[(.agg #[.slice (some ⟨g1, 0, none⟩) (G.length + 1) e1, .slice (some ⟨g2, 0, none⟩) (C.length + 1) e2, .slice (some ⟨g3, 0, none⟩) (A.length + 1) e3, .slice (some ⟨g4, 0, none⟩) (I.length + 1) e4, .slice (some ⟨g5, 0, none⟩) (W.length + 1) e5, .slice (some ⟨g6, 0, none⟩) 1 e6])] X fun e w' => e = .returned (.agg #[.slice (some ⟨g3, 0, none⟩) A.length e3, .slice (some ⟨g4, 0, none⟩) I.length e4, .slice (some ⟨g5, 0, none⟩) W.length e5]) ∧ Below X.heap.size X w') (Q' : Exit → Act → World → Prop) (l : Array Bool) (a : Act) (w : World) (hI : InvA6 G C A I W g1 g2 g3 g4 g5 e1 e2 e3 e4 e5 g6 e6 rr t0 t1 t2 t3 t4 t7 t10 t11 w0 l a w) (h0 : l.getD 1 true = false) (hdep : ∀ e ∈ ({ dst := some 20, op := Op.call { callee := Callee.value (Operand.func 10), args := #[Operand.tmp 19], argTypes := #[33] }, type := 25, pos := "headslaw.go:131", after := #[{ on := 0, ground := Ground.data }], guard := none } : Oper).after, Region.binds .any e = true → l.getD e.on false = true) (K : Act → World → Prop) (hK : ∀ a' w', InvA6 G C A I W g1 g2 g3 g4 g5 e1 e2 e3 e4 e5 g6 e6 rr t0 t1 t2 t3 t4 t7 t10 t11 w0 (l.setIfInBounds 1 true) a' w' → K a' w') :
    if Region.wanted ({ dst := some 20, op := Op.call { callee := Callee.value (Operand.func 10), args := #[Operand.tmp 19], argTypes := #[33] }, type := 25, pos := "headslaw.go:131", after := #[{ on := 0, ground := Ground.data }], guard := none } : Oper) (yielded opsA6 a.tmps) = true then Oper.wp Try.prog ({ dst := some 20, op := Op.call { callee := Callee.value (Operand.func 10), args := #[Operand.tmp 19], argTypes := #[33] }, type := 25, pos := "headslaw.go:131", after := #[{ on := 0, ground := Ground.data }], guard := none } : Oper) a w K Q' else K (a.put ({ dst := some 20, op := Op.call { callee := Callee.value (Operand.func 10), args := #[Operand.tmp 19], argTypes := #[33] }, type := 25, pos := "headslaw.go:131", after := #[{ on := 0, ground := Ground.data }], guard := none } : Oper).dst undef) w := by
  obtain ⟨b1, b3, b4, b5, b6, b7, x8, x9, x14, x16, rfl, rfl, R⟩ := hI
  have e1 : b1 = false := h0
  subst e1
  clear h0 hdep
  subst hrr
  go_simp
  (go_at_call 10; (with_reducible refine Calls.mono (hTb _) ?_); rintro e w2 ⟨rfl, hb2⟩)
  go_wp2_with fail
  exact ⟨_, _, _, _, _, _, _, _, _, _, rfl, rfl, ⟨bel_after R.hb R.hb.size hb2, fun _ => rfl, R.c3, fun h => (R.c4 h).imp fun p hp => ⟨hp.1, hp.2.1, fun h => (hp.2.2.1 h).below hb2, fun h => (hp.2.2.2.1 h).below hb2, Nat.lt_of_lt_of_le hp.2.2.2.2.1 hb2.size, hp.2.2.2.2.2⟩, fun h => (R.c5 h).imp fun p hp => ⟨hp.1, hp.2.1, fun h => (hp.2.2.1 h).below hb2, fun h => (hp.2.2.2.1 h).below hb2, Nat.lt_of_lt_of_le hp.2.2.2.2 hb2.size⟩, fun h => absurd (R.c6 h).2 (by decide), R.c7⟩⟩

set_option maxRecDepth 100000 in
set_option maxHeartbeats 4000000 in
theorem sA6_3 (G : List Gp) (C : List Cf) (A I W : List Int) (g1 g2 g3 g4 g5 e1 e2 e3 e4 e5 : Nat) (g6 e6 : Nat) (rr t0 t1 t2 t3 t4 t7 t10 t11 : Value) (w0 : World) (hrr : rr = .agg #[.slice (some ⟨g1, 0, none⟩) (G.length + 1) e1, .slice (some ⟨g2, 0, none⟩) (C.length + 1) e2, .slice (some ⟨g3, 0, none⟩) (A.length + 1) e3, .slice (some ⟨g4, 0, none⟩) (I.length + 1) e4, .slice (some ⟨g5, 0, none⟩) (W.length + 1) e5, .slice (some ⟨g6, 0, none⟩) 1 e6]) (hTb : ∀ X : World, Calls Try.prog 10 #[(.agg #[.slice (some ⟨g1, 0, none⟩) (G.length + 1) e1, .slice (some ⟨g2, 0, none⟩) (C.length + 1) e2, .slice (some ⟨g3, 0, none⟩) (A.length + 1) e3, .slice (some ⟨g4, 0, none⟩) (I.length + 1) e4, .slice (some ⟨g5, 0, none⟩) (W.length + 1) e5, .slice (some ⟨g6, 0, none⟩) 1 e6])] X fun e w' => e = .returned (.agg #[.slice (some ⟨g1, 0, none⟩) G.length e1, .slice (some ⟨g2, 0, none⟩) C.length e2]) ∧ Below X.heap.size X w') (hHd : ∀ X : World, Calls Try.prog 11 #[(.agg #[.slice (some ⟨g1, 0, none⟩) (G.length + 1) e1, .slice (some ⟨g2, 0, none⟩) (C.length + 1) e2, .slice (some ⟨g3, 0, none⟩) (A.length + 1) e3, .slice (some ⟨g4, 0, none⟩) (I.length + 1) e4, .slice (some ⟨g5, 0, none⟩) (W.length + 1) e5, .slice (some ⟨g6, 0, none⟩) 1 e6])] X fun e w' => e = .returned (.agg #[.slice (some ⟨g3, 0, none⟩) A.length e3, .slice (some ⟨g4, 0, none⟩) I.length e4, .slice (some ⟨g5, 0, none⟩) W.length e5]) ∧ Below X.heap.size X w') (Q' : Exit → Act → World → Prop) (l : Array Bool) (a : Act) (w : World) (hI : InvA6 G C A I W g1 g2 g3 g4 g5 e1 e2 e3 e4 e5 g6 e6 rr t0 t1 t2 t3 t4 t7 t10 t11 w0 l a w) (h0 : l.getD 3 true = false) (hdep : ∀ e ∈ ({ dst := some 22, op := Op.call { callee := Callee.value (Operand.func 11), args := #[Operand.tmp 21], argTypes := #[33] }, type := 29, pos := "headslaw.go:131", after := #[{ on := 2, ground := Ground.data }, { on := 1, ground := Ground.chain }], guard := none } : Oper).after, Region.binds .any e = true → l.getD e.on false = true) (K : Act → World → Prop) (hK : ∀ a' w', InvA6 G C A I W g1 g2 g3 g4 g5 e1 e2 e3 e4 e5 g6 e6 rr t0 t1 t2 t3 t4 t7 t10 t11 w0 (l.setIfInBounds 3 true) a' w' → K a' w') :
    if Region.wanted ({ dst := some 22, op := Op.call { callee := Callee.value (Operand.func 11), args := #[Operand.tmp 21], argTypes := #[33] }, type := 29, pos := "headslaw.go:131", after := #[{ on := 2, ground := Ground.data }, { on := 1, ground := Ground.chain }], guard := none } : Oper) (yielded opsA6 a.tmps) = true then Oper.wp Try.prog ({ dst := some 22, op := Op.call { callee := Callee.value (Operand.func 11), args := #[Operand.tmp 21], argTypes := #[33] }, type := 29, pos := "headslaw.go:131", after := #[{ on := 2, ground := Ground.data }, { on := 1, ground := Ground.chain }], guard := none } : Oper) a w K Q' else K (a.put ({ dst := some 22, op := Op.call { callee := Callee.value (Operand.func 11), args := #[Operand.tmp 21], argTypes := #[33] }, type := 29, pos := "headslaw.go:131", after := #[{ on := 2, ground := Ground.data }, { on := 1, ground := Ground.chain }], guard := none } : Oper).dst undef) w := by
  obtain ⟨b1, b3, b4, b5, b6, b7, x8, x9, x14, x16, rfl, rfl, R⟩ := hI
  have e3 : b3 = false := h0
  subst e3
  clear h0 hdep
  subst hrr
  go_simp
  (go_at_call 11; (with_reducible refine Calls.mono (hHd _) ?_); rintro e w2 ⟨rfl, hb2⟩)
  go_wp2_with fail
  exact ⟨_, _, _, _, _, _, _, _, _, _, rfl, rfl, ⟨bel_after R.hb R.hb.size hb2, R.c1, fun _ => rfl, fun h => (R.c4 h).imp fun p hp => ⟨hp.1, hp.2.1, fun h => (hp.2.2.1 h).below hb2, fun h => (hp.2.2.2.1 h).below hb2, Nat.lt_of_lt_of_le hp.2.2.2.2.1 hb2.size, hp.2.2.2.2.2⟩, fun h => (R.c5 h).imp fun p hp => ⟨hp.1, hp.2.1, fun h => (hp.2.2.1 h).below hb2, fun h => (hp.2.2.2.1 h).below hb2, Nat.lt_of_lt_of_le hp.2.2.2.2 hb2.size⟩, R.c6, fun h => absurd (R.c7 h).2.1 (by decide)⟩⟩

set_option maxRecDepth 100000 in
set_option maxHeartbeats 4000000 in
theorem sA6_4 (G : List Gp) (C : List Cf) (A I W : List Int) (g1 g2 g3 g4 g5 e1 e2 e3 e4 e5 : Nat) (g6 e6 : Nat) (rr t0 t1 t2 t3 t4 t7 t10 t11 : Value) (w0 : World) (hrr : rr = .agg #[.slice (some ⟨g1, 0, none⟩) (G.length + 1) e1, .slice (some ⟨g2, 0, none⟩) (C.length + 1) e2, .slice (some ⟨g3, 0, none⟩) (A.length + 1) e3, .slice (some ⟨g4, 0, none⟩) (I.length + 1) e4, .slice (some ⟨g5, 0, none⟩) (W.length + 1) e5, .slice (some ⟨g6, 0, none⟩) 1 e6]) (hTb : ∀ X : World, Calls Try.prog 10 #[(.agg #[.slice (some ⟨g1, 0, none⟩) (G.length + 1) e1, .slice (some ⟨g2, 0, none⟩) (C.length + 1) e2, .slice (some ⟨g3, 0, none⟩) (A.length + 1) e3, .slice (some ⟨g4, 0, none⟩) (I.length + 1) e4, .slice (some ⟨g5, 0, none⟩) (W.length + 1) e5, .slice (some ⟨g6, 0, none⟩) 1 e6])] X fun e w' => e = .returned (.agg #[.slice (some ⟨g1, 0, none⟩) G.length e1, .slice (some ⟨g2, 0, none⟩) C.length e2]) ∧ Below X.heap.size X w') (hHd : ∀ X : World, Calls Try.prog 11 #[(.agg #[.slice (some ⟨g1, 0, none⟩) (G.length + 1) e1, .slice (some ⟨g2, 0, none⟩) (C.length + 1) e2, .slice (some ⟨g3, 0, none⟩) (A.length + 1) e3, .slice (some ⟨g4, 0, none⟩) (I.length + 1) e4, .slice (some ⟨g5, 0, none⟩) (W.length + 1) e5, .slice (some ⟨g6, 0, none⟩) 1 e6])] X fun e w' => e = .returned (.agg #[.slice (some ⟨g3, 0, none⟩) A.length e3, .slice (some ⟨g4, 0, none⟩) I.length e4, .slice (some ⟨g5, 0, none⟩) W.length e5]) ∧ Below X.heap.size X w') (Q' : Exit → Act → World → Prop) (l : Array Bool) (a : Act) (w : World) (hI : InvA6 G C A I W g1 g2 g3 g4 g5 e1 e2 e3 e4 e5 g6 e6 rr t0 t1 t2 t3 t4 t7 t10 t11 w0 l a w) (h0 : l.getD 4 true = false) (hdep : ∀ e ∈ ({ dst := some 8, op := Op.alloc 25, type := 0, pos := "headslaw.go:131", after := #[], guard := none } : Oper).after, Region.binds .any e = true → l.getD e.on false = true) (K : Act → World → Prop) (hK : ∀ a' w', InvA6 G C A I W g1 g2 g3 g4 g5 e1 e2 e3 e4 e5 g6 e6 rr t0 t1 t2 t3 t4 t7 t10 t11 w0 (l.setIfInBounds 4 true) a' w' → K a' w') :
    if Region.wanted ({ dst := some 8, op := Op.alloc 25, type := 0, pos := "headslaw.go:131", after := #[], guard := none } : Oper) (yielded opsA6 a.tmps) = true then Oper.wp Try.prog ({ dst := some 8, op := Op.alloc 25, type := 0, pos := "headslaw.go:131", after := #[], guard := none } : Oper) a w K Q' else K (a.put ({ dst := some 8, op := Op.alloc 25, type := 0, pos := "headslaw.go:131", after := #[], guard := none } : Oper).dst undef) w := by
  obtain ⟨b1, b3, b4, b5, b6, b7, x8, x9, x14, x16, rfl, rfl, R⟩ := hI
  have e4 : b4 = false := h0
  subst e4
  clear h0 hdep
  subst hrr
  have q6 : b6 = false := by
    cases hq : b6 with
    | false => rfl
    | true => exact absurd (R.c6 hq).1 (by decide)
  subst q6
  go_simp
  refine hK _ _ ?_
  have hbn : Below w.heap.size w (w.alloc (.cells #[.slice none 0 0, .slice none 0 0] 25)) := belN1
  exact ⟨_, _, _, _, _, _, _, _, _, _, rfl, rfl, ⟨bel_after R.hb R.hb.size hbn, R.c1, R.c3, fun _ => ⟨_, rfl, R.hb.size, fun _ => Has.new _ _ _ rfl, fun h => (by cases h), by simp, fun q hq h => (by obtain ⟨q', e', _, _, _, hl⟩ := R.c5 h; rw [e'] at hq; injection hq with hq; injection hq with hq; injection hq with hq; omega)⟩, fun h => (R.c5 h).imp fun p hp => ⟨hp.1, hp.2.1, fun h => (hp.2.2.1 h).below hbn, fun h => (hp.2.2.2.1 h).below hbn, Nat.lt_of_lt_of_le hp.2.2.2.2 hbn.size⟩, fun h => (by cases h), R.c7⟩⟩

set_option maxRecDepth 100000 in
set_option maxHeartbeats 4000000 in
theorem sA6_5 (G : List Gp) (C : List Cf) (A I W : List Int) (g1 g2 g3 g4 g5 e1 e2 e3 e4 e5 : Nat) (g6 e6 : Nat) (rr t0 t1 t2 t3 t4 t7 t10 t11 : Value) (w0 : World) (hrr : rr = .agg #[.slice (some ⟨g1, 0, none⟩) (G.length + 1) e1, .slice (some ⟨g2, 0, none⟩) (C.length + 1) e2, .slice (some ⟨g3, 0, none⟩) (A.length + 1) e3, .slice (some ⟨g4, 0, none⟩) (I.length + 1) e4, .slice (some ⟨g5, 0, none⟩) (W.length + 1) e5, .slice (some ⟨g6, 0, none⟩) 1 e6]) (hTb : ∀ X : World, Calls Try.prog 10 #[(.agg #[.slice (some ⟨g1, 0, none⟩) (G.length + 1) e1, .slice (some ⟨g2, 0, none⟩) (C.length + 1) e2, .slice (some ⟨g3, 0, none⟩) (A.length + 1) e3, .slice (some ⟨g4, 0, none⟩) (I.length + 1) e4, .slice (some ⟨g5, 0, none⟩) (W.length + 1) e5, .slice (some ⟨g6, 0, none⟩) 1 e6])] X fun e w' => e = .returned (.agg #[.slice (some ⟨g1, 0, none⟩) G.length e1, .slice (some ⟨g2, 0, none⟩) C.length e2]) ∧ Below X.heap.size X w') (hHd : ∀ X : World, Calls Try.prog 11 #[(.agg #[.slice (some ⟨g1, 0, none⟩) (G.length + 1) e1, .slice (some ⟨g2, 0, none⟩) (C.length + 1) e2, .slice (some ⟨g3, 0, none⟩) (A.length + 1) e3, .slice (some ⟨g4, 0, none⟩) (I.length + 1) e4, .slice (some ⟨g5, 0, none⟩) (W.length + 1) e5, .slice (some ⟨g6, 0, none⟩) 1 e6])] X fun e w' => e = .returned (.agg #[.slice (some ⟨g3, 0, none⟩) A.length e3, .slice (some ⟨g4, 0, none⟩) I.length e4, .slice (some ⟨g5, 0, none⟩) W.length e5]) ∧ Below X.heap.size X w') (Q' : Exit → Act → World → Prop) (l : Array Bool) (a : Act) (w : World) (hI : InvA6 G C A I W g1 g2 g3 g4 g5 e1 e2 e3 e4 e5 g6 e6 rr t0 t1 t2 t3 t4 t7 t10 t11 w0 l a w) (h0 : l.getD 5 true = false) (hdep : ∀ e ∈ ({ dst := some 9, op := Op.alloc 29, type := 0, pos := "headslaw.go:131", after := #[], guard := none } : Oper).after, Region.binds .any e = true → l.getD e.on false = true) (K : Act → World → Prop) (hK : ∀ a' w', InvA6 G C A I W g1 g2 g3 g4 g5 e1 e2 e3 e4 e5 g6 e6 rr t0 t1 t2 t3 t4 t7 t10 t11 w0 (l.setIfInBounds 5 true) a' w' → K a' w') :
    if Region.wanted ({ dst := some 9, op := Op.alloc 29, type := 0, pos := "headslaw.go:131", after := #[], guard := none } : Oper) (yielded opsA6 a.tmps) = true then Oper.wp Try.prog ({ dst := some 9, op := Op.alloc 29, type := 0, pos := "headslaw.go:131", after := #[], guard := none } : Oper) a w K Q' else K (a.put ({ dst := some 9, op := Op.alloc 29, type := 0, pos := "headslaw.go:131", after := #[], guard := none } : Oper).dst undef) w := by
  obtain ⟨b1, b3, b4, b5, b6, b7, x8, x9, x14, x16, rfl, rfl, R⟩ := hI
  have e5 : b5 = false := h0
  subst e5
  clear h0 hdep
  subst hrr
  have q7 : b7 = false := by
    cases hq : b7 with
    | false => rfl
    | true => exact absurd (R.c7 hq).1 (by decide)
  subst q7
  go_simp
  refine hK _ _ ?_
  have hbn : Below w.heap.size w (w.alloc (.cells #[.slice none 0 0, .slice none 0 0, .slice none 0 0] 29)) := belN1
  exact ⟨_, _, _, _, _, _, _, _, _, _, rfl, rfl, ⟨bel_after R.hb R.hb.size hbn, R.c1, R.c3, fun h => (R.c4 h).imp fun p hp => ⟨hp.1, hp.2.1, fun h => (hp.2.2.1 h).below hbn, fun h => (hp.2.2.2.1 h).below hbn, Nat.lt_of_lt_of_le hp.2.2.2.2.1 hbn.size, fun q hq _ => (by injection hq with hq; injection hq with hq; injection hq with hq; have := hp.2.2.2.2.1; omega)⟩, fun _ => ⟨_, rfl, R.hb.size, fun _ => Has.new _ _ _ rfl, fun h => (by cases h), by simp⟩, R.c6, fun h => (by cases h)⟩⟩

set_option maxRecDepth 100000 in
set_option maxHeartbeats 4000000 in
theorem sA6_6 (G : List Gp) (C : List Cf) (A I W : List Int) (g1 g2 g3 g4 g5 e1 e2 e3 e4 e5 : Nat) (g6 e6 : Nat) (rr t0 t1 t2 t3 t4 t7 t10 t11 : Value) (w0 : World) (hrr : rr = .agg #[.slice (some ⟨g1, 0, none⟩) (G.length + 1) e1, .slice (some ⟨g2, 0, none⟩) (C.length + 1) e2, .slice (some ⟨g3, 0, none⟩) (A.length + 1) e3, .slice (some ⟨g4, 0, none⟩) (I.length + 1) e4, .slice (some ⟨g5, 0, none⟩) (W.length + 1) e5, .slice (some ⟨g6, 0, none⟩) 1 e6]) (hTb : ∀ X : World, Calls Try.prog 10 #[(.agg #[.slice (some ⟨g1, 0, none⟩) (G.length + 1) e1, .slice (some ⟨g2, 0, none⟩) (C.length + 1) e2, .slice (some ⟨g3, 0, none⟩) (A.length + 1) e3, .slice (some ⟨g4, 0, none⟩) (I.length + 1) e4, .slice (some ⟨g5, 0, none⟩) (W.length + 1) e5, .slice (some ⟨g6, 0, none⟩) 1 e6])] X fun e w' => e = .returned (.agg #[.slice (some ⟨g1, 0, none⟩) G.length e1, .slice (some ⟨g2, 0, none⟩) C.length e2]) ∧ Below X.heap.size X w') (hHd : ∀ X : World, Calls Try.prog 11 #[(.agg #[.slice (some ⟨g1, 0, none⟩) (G.length + 1) e1, .slice (some ⟨g2, 0, none⟩) (C.length + 1) e2, .slice (some ⟨g3, 0, none⟩) (A.length + 1) e3, .slice (some ⟨g4, 0, none⟩) (I.length + 1) e4, .slice (some ⟨g5, 0, none⟩) (W.length + 1) e5, .slice (some ⟨g6, 0, none⟩) 1 e6])] X fun e w' => e = .returned (.agg #[.slice (some ⟨g3, 0, none⟩) A.length e3, .slice (some ⟨g4, 0, none⟩) I.length e4, .slice (some ⟨g5, 0, none⟩) W.length e5]) ∧ Below X.heap.size X w') (Q' : Exit → Act → World → Prop) (l : Array Bool) (a : Act) (w : World) (hI : InvA6 G C A I W g1 g2 g3 g4 g5 e1 e2 e3 e4 e5 g6 e6 rr t0 t1 t2 t3 t4 t7 t10 t11 w0 l a w) (h0 : l.getD 6 true = false) (hdep : ∀ e ∈ ({ dst := none, op := Op.store 25 (Operand.tmp 8) (Operand.tmp 20), type := 0, pos := "headslaw.go:131", after := #[{ on := 4, ground := Ground.data }, { on := 1, ground := Ground.data }, { on := 3, ground := Ground.chain }, { on := 0, ground := Ground.phase }, { on := 1, ground := Ground.phase }, { on := 2, ground := Ground.textOnly Departure.lateStores }, { on := 3, ground := Ground.textOnly Departure.lateStoresUnsure }, { on := 4, ground := Ground.phase }, { on := 5, ground := Ground.phase }], guard := none } : Oper).after, Region.binds .any e = true → l.getD e.on false = true) (K : Act → World → Prop) (hK : ∀ a' w', InvA6 G C A I W g1 g2 g3 g4 g5 e1 e2 e3 e4 e5 g6 e6 rr t0 t1 t2 t3 t4 t7 t10 t11 w0 (l.setIfInBounds 6 true) a' w' → K a' w') :
    if Region.wanted ({ dst := none, op := Op.store 25 (Operand.tmp 8) (Operand.tmp 20), type := 0, pos := "headslaw.go:131", after := #[{ on := 4, ground := Ground.data }, { on := 1, ground := Ground.data }, { on := 3, ground := Ground.chain }, { on := 0, ground := Ground.phase }, { on := 1, ground := Ground.phase }, { on := 2, ground := Ground.textOnly Departure.lateStores }, { on := 3, ground := Ground.textOnly Departure.lateStoresUnsure }, { on := 4, ground := Ground.phase }, { on := 5, ground := Ground.phase }], guard := none } : Oper) (yielded opsA6 a.tmps) = true then Oper.wp Try.prog ({ dst := none, op := Op.store 25 (Operand.tmp 8) (Operand.tmp 20), type := 0, pos := "headslaw.go:131", after := #[{ on := 4, ground := Ground.data }, { on := 1, ground := Ground.data }, { on := 3, ground := Ground.chain }, { on := 0, ground := Ground.phase }, { on := 1, ground := Ground.phase }, { on := 2, ground := Ground.textOnly Departure.lateStores }, { on := 3, ground := Ground.textOnly Departure.lateStoresUnsure }, { on := 4, ground := Ground.phase }, { on := 5, ground := Ground.phase }], guard := none } : Oper) a w K Q' else K (a.put ({ dst := none, op := Op.store 25 (Operand.tmp 8) (Operand.tmp 20), type := 0, pos := "headslaw.go:131", after := #[{ on := 4, ground := Ground.data }, { on := 1, ground := Ground.data }, { on := 3, ground := Ground.chain }, { on := 0, ground := Ground.phase }, { on := 1, ground := Ground.phase }, { on := 2, ground := Ground.textOnly Departure.lateStores }, { on := 3, ground := Ground.textOnly Departure.lateStoresUnsure }, { on := 4, ground := Ground.phase }, { on := 5, ground := Ground.phase }], guard := none } : Oper).dst undef) w := by
  obtain ⟨b1, b3, b4, b5, b6, b7, x8, x9, x14, x16, rfl, rfl, R⟩ := hI
  have e6 : b6 = false := h0
  subst e6
  have e4 : b4 = true := hdep ⟨4, Ground.data⟩ (by simp) rfl
  subst e4
  have e1 : b1 = true := hdep ⟨1, Ground.data⟩ (by simp) rfl
  subst e1
  clear h0 hdep
  subst hrr
  obtain ⟨p, e8, hp, hz, -, hlt, hne⟩ := R.c4 rfl
  have e14 := R.c1 rfl
  subst e8 e14
  have H := hz rfl
  obtain ⟨_, y1, y2⟩ := id H
  have q7 : b7 = false := by
    cases hq : b7 with
    | false => rfl
    | true => exact absurd (R.c7 hq).2.2 (by decide)
  subst q7
  go_simp
  refine hK _ _ ?_
  have O : Only (fun q => q = p) w ((w.setCell ⟨p, 0, none⟩ (.slice (some ⟨g1, 0, none⟩) G.length e1)).setCell ⟨p, 1, none⟩ (.slice (some ⟨g2, 0, none⟩) C.length e2)) := ((only_of_set _ _ _ _).trans (only_of_set _ _ _ _))
  have HH : Has ((w.setCell ⟨p, 0, none⟩ (.slice (some ⟨g1, 0, none⟩) G.length e1)).setCell ⟨p, 1, none⟩ (.slice (some ⟨g2, 0, none⟩) C.length e2)) p #[.slice (some ⟨g1, 0, none⟩) G.length e1, .slice (some ⟨g2, 0, none⟩) C.length e2] := by simpa using ((H.set 0 (by simp) (.slice (some ⟨g1, 0, none⟩) G.length e1)).set 1 (by simp) (.slice (some ⟨g2, 0, none⟩) C.length e2))
  exact ⟨_, _, _, _, _, _, _, _, _, _, rfl, rfl, ⟨bel_only R.hb O (Nat.le_refl _) (fun q hq h => by omega), R.c1, R.c3, fun _ => ⟨p, rfl, hp, fun h => (by cases h), fun _ => HH, Nat.lt_of_lt_of_le hlt O.size, hne⟩, fun h => (R.c5 h).imp fun q hq => ⟨hq.1, hq.2.1, fun h' => (hq.2.2.1 h').only O (fun e => hne q hq.1 h e.symm), fun h => (by cases h), Nat.lt_of_lt_of_le hq.2.2.2.2 O.size⟩, fun _ => ⟨rfl, rfl⟩, fun h => (by cases h)⟩⟩

set_option maxRecDepth 100000 in
set_option maxHeartbeats 4000000 in
theorem sA6_7 (G : List Gp) (C : List Cf) (A I W : List Int) (g1 g2 g3 g4 g5 e1 e2 e3 e4 e5 : Nat) (g6 e6 : Nat) (rr t0 t1 t2 t3 t4 t7 t10 t11 : Value) (w0 : World) (hrr : rr = .agg #[.slice (some ⟨g1, 0, none⟩) (G.length + 1) e1, .slice (some ⟨g2, 0, none⟩) (C.length + 1) e2, .slice (some ⟨g3, 0, none⟩) (A.length + 1) e3, .slice (some ⟨g4, 0, none⟩) (I.length + 1) e4, .slice (some ⟨g5, 0, none⟩) (W.length + 1) e5, .slice (some ⟨g6, 0, none⟩) 1 e6]) (hTb : ∀ X : World, Calls Try.prog 10 #[(.agg #[.slice (some ⟨g1, 0, none⟩) (G.length + 1) e1, .slice (some ⟨g2, 0, none⟩) (C.length + 1) e2, .slice (some ⟨g3, 0, none⟩) (A.length + 1) e3, .slice (some ⟨g4, 0, none⟩) (I.length + 1) e4, .slice (some ⟨g5, 0, none⟩) (W.length + 1) e5, .slice (some ⟨g6, 0, none⟩) 1 e6])] X fun e w' => e = .returned (.agg #[.slice (some ⟨g1, 0, none⟩) G.length e1, .slice (some ⟨g2, 0, none⟩) C.length e2]) ∧ Below X.heap.size X w') (hHd : ∀ X : World, Calls Try.prog 11 #[(.agg #[.slice (some ⟨g1, 0, none⟩) (G.length + 1) e1, .slice (some ⟨g2, 0, none⟩) (C.length + 1) e2, .slice (some ⟨g3, 0, none⟩) (A.length + 1) e3, .slice (some ⟨g4, 0, none⟩) (I.length + 1) e4, .slice (some ⟨g5, 0, none⟩) (W.length + 1) e5, .slice (some ⟨g6, 0, none⟩) 1 e6])] X fun e w' => e = .returned (.agg #[.slice (some ⟨g3, 0, none⟩) A.length e3, .slice (some ⟨g4, 0, none⟩) I.length e4, .slice (some ⟨g5, 0, none⟩) W.length e5]) ∧ Below X.heap.size X w') (Q' : Exit → Act → World → Prop) (l : Array Bool) (a : Act) (w : World) (hI : InvA6 G C A I W g1 g2 g3 g4 g5 e1 e2 e3 e4 e5 g6 e6 rr t0 t1 t2 t3 t4 t7 t10 t11 w0 l a w) (h0 : l.getD 7 true = false) (hdep : ∀ e ∈ ({ dst := none, op := Op.store 29 (Operand.tmp 9) (Operand.tmp 22), type := 0, pos := "headslaw.go:131", after := #[{ on := 5, ground := Ground.data }, { on := 3, ground := Ground.data }, { on := 6, ground := Ground.chain }, { on := 0, ground := Ground.phase }, { on := 1, ground := Ground.phase }, { on := 2, ground := Ground.phase }, { on := 3, ground := Ground.phase }, { on := 4, ground := Ground.phase }, { on := 5, ground := Ground.phase }, { on := 6, ground := Ground.phase }], guard := none } : Oper).after, Region.binds .any e = true → l.getD e.on false = true) (K : Act → World → Prop) (hK : ∀ a' w', InvA6 G C A I W g1 g2 g3 g4 g5 e1 e2 e3 e4 e5 g6 e6 rr t0 t1 t2 t3 t4 t7 t10 t11 w0 (l.setIfInBounds 7 true) a' w' → K a' w') :
    if Region.wanted ({ dst := none, op := Op.store 29 (Operand.tmp 9) (Operand.tmp 22), type := 0, pos := "headslaw.go:131", after := #[{ on := 5, ground := Ground.data }, { on := 3, ground := Ground.data }, { on := 6, ground := Ground.chain }, { on := 0, ground := Ground.phase }, { on := 1, ground := Ground.phase }, { on := 2, ground := Ground.phase }, { on := 3, ground := Ground.phase }, { on := 4, ground := Ground.phase }, { on := 5, ground := Ground.phase }, { on := 6, ground := Ground.phase }], guard := none } : Oper) (yielded opsA6 a.tmps) = true then Oper.wp Try.prog ({ dst := none, op := Op.store 29 (Operand.tmp 9) (Operand.tmp 22), type := 0, pos := "headslaw.go:131", after := #[{ on := 5, ground := Ground.data }, { on := 3, ground := Ground.data }, { on := 6, ground := Ground.chain }, { on := 0, ground := Ground.phase }, { on := 1, ground := Ground.phase }, { on := 2, ground := Ground.phase }, { on := 3, ground := Ground.phase }, { on := 4, ground := Ground.phase }, { on := 5, ground := Ground.phase }, { on := 6, ground := Ground.phase }], guard := none } : Oper) a w K Q' else K (a.put ({ dst := none, op := Op.store 29 (Operand.tmp 9) (Operand.tmp 22), type := 0, pos := "headslaw.go:131", after := #[{ on := 5, ground := Ground.data }, { on := 3, ground := Ground.data }, { on := 6, ground := Ground.chain }, { on := 0, ground := Ground.phase }, { on := 1, ground := Ground.phase }, { on := 2, ground := Ground.phase }, { on := 3, ground := Ground.phase }, { on := 4, ground := Ground.phase }, { on := 5, ground := Ground.phase }, { on := 6, ground := Ground.phase }], guard := none } : Oper).dst undef) w := by
  obtain ⟨b1, b3, b4, b5, b6, b7, x8, x9, x14, x16, rfl, rfl, R⟩ := hI
  have e7 : b7 = false := h0
  subst e7
  have e5 : b5 = true := hdep ⟨5, Ground.data⟩ (by simp) rfl
  subst e5
  have e3 : b3 = true := hdep ⟨3, Ground.data⟩ (by simp) rfl
  subst e3
  have e6 : b6 = true := hdep ⟨6, Ground.chain⟩ (by simp) rfl
  subst e6
  clear h0 hdep
  subst hrr
  obtain ⟨p, e9, hp, hz, -, hlt⟩ := R.c5 rfl
  obtain ⟨r4, r1⟩ := R.c6 rfl
  subst r4 r1
  obtain ⟨p', e8, hp', -, hz', hlt', hne⟩ := R.c4 rfl
  have e16 := R.c3 rfl
  subst e9 e16 e8
  have H := hz rfl
  have H' := hz' rfl
  have hn := hne p rfl rfl
  obtain ⟨_, y1, y2⟩ := id H
  go_simp
  refine hK _ _ ?_
  have O : Only (fun q => q = p) w (((w.setCell ⟨p, 0, none⟩ (.slice (some ⟨g3, 0, none⟩) A.length e3)).setCell ⟨p, 1, none⟩ (.slice (some ⟨g4, 0, none⟩) I.length e4)).setCell ⟨p, 2, none⟩ (.slice (some ⟨g5, 0, none⟩) W.length e5)) := (((only_of_set _ _ _ _).trans (only_of_set _ _ _ _)).trans (only_of_set _ _ _ _))
  have HH : Has (((w.setCell ⟨p, 0, none⟩ (.slice (some ⟨g3, 0, none⟩) A.length e3)).setCell ⟨p, 1, none⟩ (.slice (some ⟨g4, 0, none⟩) I.length e4)).setCell ⟨p, 2, none⟩ (.slice (some ⟨g5, 0, none⟩) W.length e5)) p #[.slice (some ⟨g3, 0, none⟩) A.length e3, .slice (some ⟨g4, 0, none⟩) I.length e4, .slice (some ⟨g5, 0, none⟩) W.length e5] := by simpa using (((H.set 0 (by simp) (.slice (some ⟨g3, 0, none⟩) A.length e3)).set 1 (by simp) (.slice (some ⟨g4, 0, none⟩) I.length e4)).set 2 (by simp) (.slice (some ⟨g5, 0, none⟩) W.length e5))
  exact ⟨_, _, _, _, _, _, _, _, _, _, rfl, rfl, ⟨bel_only R.hb O (Nat.le_refl _) (fun q hq h => by omega), R.c1, R.c3, fun _ => ⟨p', rfl, hp', fun h => (by cases h), fun _ => H'.only O hn, Nat.lt_of_lt_of_le hlt' O.size, hne⟩, fun _ => ⟨p, rfl, hp, fun h => (by cases h), fun _ => HH, Nat.lt_of_lt_of_le hlt O.size⟩, R.c6, fun _ => ⟨rfl, rfl, rfl⟩⟩⟩

set_option maxRecDepth 100000 in
set_option maxHeartbeats 4000000 in
theorem regA6 (G : List Gp) (C : List Cf) (A I W : List Int) (g1 g2 g3 g4 g5 e1 e2 e3 e4 e5 : Nat) (g6 e6 : Nat) (rr t0 t1 t2 t3 t4 t7 t10 t11 : Value) (w0 : World) (hrr : rr = .agg #[.slice (some ⟨g1, 0, none⟩) (G.length + 1) e1, .slice (some ⟨g2, 0, none⟩) (C.length + 1) e2, .slice (some ⟨g3, 0, none⟩) (A.length + 1) e3, .slice (some ⟨g4, 0, none⟩) (I.length + 1) e4, .slice (some ⟨g5, 0, none⟩) (W.length + 1) e5, .slice (some ⟨g6, 0, none⟩) 1 e6]) (hTb : ∀ X : World, Calls Try.prog 10 #[(.agg #[.slice (some ⟨g1, 0, none⟩) (G.length + 1) e1, .slice (some ⟨g2, 0, none⟩) (C.length + 1) e2, .slice (some ⟨g3, 0, none⟩) (A.length + 1) e3, .slice (some ⟨g4, 0, none⟩) (I.length + 1) e4, .slice (some ⟨g5, 0, none⟩) (W.length + 1) e5, .slice (some ⟨g6, 0, none⟩) 1 e6])] X fun e w' => e = .returned (.agg #[.slice (some ⟨g1, 0, none⟩) G.length e1, .slice (some ⟨g2, 0, none⟩) C.length e2]) ∧ Below X.heap.size X w') (hHd : ∀ X : World, Calls Try.prog 11 #[(.agg #[.slice (some ⟨g1, 0, none⟩) (G.length + 1) e1, .slice (some ⟨g2, 0, none⟩) (C.length + 1) e2, .slice (some ⟨g3, 0, none⟩) (A.length + 1) e3, .slice (some ⟨g4, 0, none⟩) (I.length + 1) e4, .slice (some ⟨g5, 0, none⟩) (W.length + 1) e5, .slice (some ⟨g6, 0, none⟩) 1 e6])] X fun e w' => e = .returned (.agg #[.slice (some ⟨g3, 0, none⟩) A.length e3, .slice (some ⟨g4, 0, none⟩) I.length e4, .slice (some ⟨g5, 0, none⟩) W.length e5]) ∧ Below X.heap.size X w') (S : World → Prop) (Q' : Exit → Act → World → Prop) (hS : ∀ X, Below w0.heap.size w0 X → S X)
    (hfin : ∀ (p q : Nat) (X : World), Below w0.heap.size w0 X → Has X p #[.slice (some ⟨g1, 0, none⟩) G.length e1, .slice (some ⟨g2, 0, none⟩) C.length e2] → Has X q #[.slice (some ⟨g3, 0, none⟩) A.length e3, .slice (some ⟨g4, 0, none⟩) I.length e4, .slice (some ⟨g5, 0, none⟩) W.length e5] → w0.heap.size ≤ p → w0.heap.size ≤ q → Q' .normal (frA6 g6 e6 rr t0 t1 t2 t3 t4 t7 t10 t11 (.pointer (some ⟨p, 0, none⟩)) (.pointer (some ⟨q, 0, none⟩)) (.agg #[.slice (some ⟨g1, 0, none⟩) G.length e1, .slice (some ⟨g2, 0, none⟩) C.length e2]) (.agg #[.slice (some ⟨g3, 0, none⟩) A.length e3, .slice (some ⟨g4, 0, none⟩) I.length e4, .slice (some ⟨g5, 0, none⟩) W.length e5])) X) (fuel : Nat) (hf : 6 ≤ fuel) :
    wpAnyH Try.prog .any opsA6 Q' S fuel #[true, false, true, false, false, false, false, false] (frA6 g6 e6 rr t0 t1 t2 t3 t4 t7 t10 t11 undef undef undef undef) w0 := by
  refine wpAnyH_inv (InvA6 G C A I W g1 g2 g3 g4 g5 e1 e2 e3 e4 e5 g6 e6 rr t0 t1 t2 t3 t4 t7 t10 t11 w0) (by kernel_rfl) ?_ ?_ ?_ _ _ _ _ (by rfl) (Nat.le_trans (of_decide_eq_true (by kernel_rfl) : cntF _ ≤ 6) hf) ⟨false, false, false, false, false, false, undef, undef, undef, undef, rfl, rfl, ⟨Below.refl _ _, fun h => (by cases h), fun h => (by cases h), fun h => (by cases h), fun h => (by cases h), fun h => (by cases h), fun h => (by cases h)⟩⟩
  · rintro l a X ⟨_, _, _, _, _, _, _, _, _, _, -, -, R⟩
    exact hS X R.hb
  · intro l a X i o hI ho h0 hdep K' hK'
    have hi : i < 8 := (Array.getElem?_eq_some_iff.1 ho).1
    have c : i = 0 ∨ i = 1 ∨ i = 2 ∨ i = 3 ∨ i = 4 ∨ i = 5 ∨ i = 6 ∨ i = 7 := by omega
    rcases c with rfl | rfl | rfl | rfl | rfl | rfl | rfl | rfl
    · obtain ⟨_, _, _, _, _, _, _, _, _, _, rfl, -, -⟩ := hI
      exact Bool.noConfusion (show true = false from h0)
    · cases (show some ({ dst := some 20, op := Op.call { callee := Callee.value (Operand.func 10), args := #[Operand.tmp 19], argTypes := #[33] }, type := 25, pos := "headslaw.go:131", after := #[{ on := 0, ground := Ground.data }], guard := none } : Oper) = some o from ho)
      exact sA6_1 G C A I W g1 g2 g3 g4 g5 e1 e2 e3 e4 e5 g6 e6 rr t0 t1 t2 t3 t4 t7 t10 t11 w0 hrr hTb hHd _ l a X hI h0 hdep K' hK'
    · obtain ⟨_, _, _, _, _, _, _, _, _, _, rfl, -, -⟩ := hI
      exact Bool.noConfusion (show true = false from h0)
    · cases (show some ({ dst := some 22, op := Op.call { callee := Callee.value (Operand.func 11), args := #[Operand.tmp 21], argTypes := #[33] }, type := 29, pos := "headslaw.go:131", after := #[{ on := 2, ground := Ground.data }, { on := 1, ground := Ground.chain }], guard := none } : Oper) = some o from ho)
      exact sA6_3 G C A I W g1 g2 g3 g4 g5 e1 e2 e3 e4 e5 g6 e6 rr t0 t1 t2 t3 t4 t7 t10 t11 w0 hrr hTb hHd _ l a X hI h0 hdep K' hK'
    · cases (show some ({ dst := some 8, op := Op.alloc 25, type := 0, pos := "headslaw.go:131", after := #[], guard := none } : Oper) = some o from ho)
      exact sA6_4 G C A I W g1 g2 g3 g4 g5 e1 e2 e3 e4 e5 g6 e6 rr t0 t1 t2 t3 t4 t7 t10 t11 w0 hrr hTb hHd _ l a X hI h0 hdep K' hK'
    · cases (show some ({ dst := some 9, op := Op.alloc 29, type := 0, pos := "headslaw.go:131", after := #[], guard := none } : Oper) = some o from ho)
      exact sA6_5 G C A I W g1 g2 g3 g4 g5 e1 e2 e3 e4 e5 g6 e6 rr t0 t1 t2 t3 t4 t7 t10 t11 w0 hrr hTb hHd _ l a X hI h0 hdep K' hK'
    · cases (show some ({ dst := none, op := Op.store 25 (Operand.tmp 8) (Operand.tmp 20), type := 0, pos := "headslaw.go:131", after := #[{ on := 4, ground := Ground.data }, { on := 1, ground := Ground.data }, { on := 3, ground := Ground.chain }, { on := 0, ground := Ground.phase }, { on := 1, ground := Ground.phase }, { on := 2, ground := Ground.textOnly Departure.lateStores }, { on := 3, ground := Ground.textOnly Departure.lateStoresUnsure }, { on := 4, ground := Ground.phase }, { on := 5, ground := Ground.phase }], guard := none } : Oper) = some o from ho)
      exact sA6_6 G C A I W g1 g2 g3 g4 g5 e1 e2 e3 e4 e5 g6 e6 rr t0 t1 t2 t3 t4 t7 t10 t11 w0 hrr hTb hHd _ l a X hI h0 hdep K' hK'
    · cases (show some ({ dst := none, op := Op.store 29 (Operand.tmp 9) (Operand.tmp 22), type := 0, pos := "headslaw.go:131", after := #[{ on := 5, ground := Ground.data }, { on := 3, ground := Ground.data }, { on := 6, ground := Ground.chain }, { on := 0, ground := Ground.phase }, { on := 1, ground := Ground.phase }, { on := 2, ground := Ground.phase }, { on := 3, ground := Ground.phase }, { on := 4, ground := Ground.phase }, { on := 5, ground := Ground.phase }, { on := 6, ground := Ground.phase }], guard := none } : Oper) = some o from ho)
      exact sA6_7 G C A I W g1 g2 g3 g4 g5 e1 e2 e3 e4 e5 g6 e6 rr t0 t1 t2 t3 t4 t7 t10 t11 w0 hrr hTb hHd _ l a X hI h0 hdep K' hK'
  · rintro l a X ⟨b1, b3, b4, b5, b6, b7, x8, x9, x14, x16, rfl, rfl, R⟩ hall
    have e7 : b7 = true := hall 7
    subst e7
    obtain ⟨r5, r3, r6⟩ := R.c7 rfl
    subst r5 r3 r6
    obtain ⟨r4, r1⟩ := R.c6 rfl
    subst r4 r1
    obtain ⟨p, e8, hp, -, hz, -⟩ := R.c4 rfl
    obtain ⟨q, e9, hq, -, hy, -⟩ := R.c5 rfl
    have e14 := R.c1 rfl
    have e16 := R.c3 rfl
    subst e8 e9 e14 e16
    exact hfin p q X R.hb (hz rfl) (hy rfl) hp hq

def lst64 (n : Nat) (f : Nat → Int) : List Int := (List.range n).map f
theorem lst_len (n : Nat) (f : Nat → Int) : (lst64 n f).length = n := by simp [lst64]
theorem cells_64 (n : Nat) (f : Nat → Int) : cellsF n64 (lst64 n f) = valR n f := by
  unfold cellsF lst64 valR n64
  rw [List.flatMap_map]
  induction (List.range n) with
  | nil => rfl
  | cons x l ih => simp [List.flatMap_cons, ih]
theorem cells_32 (n : Nat) (f : Nat → Int) : cellsF n32 (lst64 n f) = v32 n f := by
  unfold cellsF lst64 v32 n32
  rw [List.flatMap_map]
  induction (List.range n) with
  | nil => rfl
  | cons x l ih => simp [List.flatMap_cons, ih]
theorem own_fl {cs : Int → List Value} (hl : ∀ x, (cs x).length = 1) {w : World} {base e n : Nat} {v : Value} {L : List Int} (hL : L.length = n) (h : w.ownsRow base e 1 v n (cellsF cs L)) : Fl 1 cs w v L := by
  subst hL
  rcases Nat.eq_zero_or_pos L.length with h0 | h0
  · have hn : L = [] := List.length_eq_zero_iff.1 h0
    subst hn
    rcases h.2 with ⟨rfl, _⟩ | ⟨g, cap, cur, rfl, _⟩
    · exact .inl ⟨rfl, rfl⟩
    · exact .inr ⟨⟨g, 0, none⟩, cap, rfl, Nat.zero_le _, .inl rfl⟩
  · obtain ⟨g, cap, rfl, hc, _, hg⟩ := own_block h h0
    refine .inr ⟨⟨g, 0, none⟩, cap, rfl, hc, .inr ⟨rfl, hg, fun i hi j u hu => ?_⟩⟩
    have hj : j < 1 := by have := (List.getElem?_eq_some_iff.1 hu).1; rw [hl] at this; exact this
    show w.cell? ⟨g, 0 + i * 1 + j, none⟩ = some u
    rw [Nat.zero_add]
    exact own_reads h rfl _ _ (by rw [cellsF_get hl L i j hi hj]; exact hu)
theorem T3.f1 {B : Nat} {w : World} {va vb vc : Value} {n k2 k3 : Nat} {f : Nat → Int} {x2 x3 : List Value} (h : T3 B w va vb vc n k2 k3 (valR n f) x2 x3) : Fl 1 n64 w va (lst64 n f) := own_fl n64_len (lst_len _ _) (by rw [cells_64]; exact h.o1)
theorem T3.f2 {B : Nat} {w : World} {va vb vc : Value} {n k1 k3 : Nat} {f : Nat → Int} {x1 x3 : List Value} (h : T3 B w va vb vc k1 n k3 x1 (v32 n f) x3) : Fl 1 n32 w vb (lst64 n f) := own_fl n32_len (lst_len _ _) (by rw [cells_32]; exact h.o2)
theorem T3.f3 {B : Nat} {w : World} {va vb vc : Value} {n k1 k2 : Nat} {f : Nat → Int} {x1 x2 : List Value} (h : T3 B w va vb vc k1 k2 n x1 x2 (v32 n f)) : Fl 1 n32 w vc (lst64 n f) := own_fl n32_len (lst_len _ _) (by rw [cells_32]; exact h.o3)
/-- Heads with a code, in memory of their own. -/
def PostU (n : Nat) (f g h : Nat → Int) (c : Int) (X : World) (e : Ending) (w' : World) : Prop :=
  (∃ a1 c1 a2 c2 a3 c3, e = .returned (.tuple #[.agg #[.slice a1 n c1, .slice a2 n c2, .slice a3 n c3], .int .i64 c]) ∧ T3 X.heap.size w' (.slice a1 n c1) (.slice a2 n c2) (.slice a3 n c3) n n n (valR n f) (v32 n g) (v32 n h)) ∧ Below X.heap.size X w'
theorem zero_post {c : Int} {X : World} {e : Ending} {w' : World} (h : e = .returned (.tuple #[.agg #[.slice none 0 0, .slice none 0 0, .slice none 0 0], .int .i64 c]) ∧ Below X.heap.size X w') : PostU 0 (fun _ => 0) (fun _ => 0) (fun _ => 0) c X e w' :=
  ⟨⟨none, 0, none, 0, none, 0, h.1, ⟨rfl, .inl ⟨rfl, rfl⟩⟩, ⟨rfl, .inl ⟨rfl, rfl⟩⟩, ⟨rfl, .inl ⟨rfl, rfl⟩⟩, fun q h => (by cases h), fun q h => (by cases h), fun q h => (by cases h)⟩, h.2⟩
theorem t3_of {B : Nat} {w : World} {r p0 p1 n c1 c2 c3 : Nat} {x1 x2 x3 : List Value} (h1 : w.ownsRow B 3 1 (.slice (some ⟨r, 0, none⟩) n c1) n x1) (h2 : w.ownsRow B 21 1 (.slice (some ⟨p0, 0, none⟩) n c2) n x2) (h3 : w.ownsRow B 21 1 (.slice (some ⟨p1, 0, none⟩) n c3) n x3) (d1 : r ≠ p0) (d2 : r ≠ p1) (d3 : p0 ≠ p1) : T3 B w (.slice (some ⟨r, 0, none⟩) n c1) (.slice (some ⟨p0, 0, none⟩) n c2) (.slice (some ⟨p1, 0, none⟩) n c3) n n n x1 x2 x3 :=
  ⟨h1, h2, h3, fun q a b => d1 (by injection a with a; injection b with b; exact a.trans b.symm), fun q a b => d2 (by injection a with a; injection b with b; exact a.trans b.symm), fun q a b => d3 (by injection a with a; injection b with b; exact a.trans b.symm)⟩
theorem t3_post {n : Nat} {f g h : Nat → Int} {c : Int} {X : World} {e : Ending} {w' : World} (hh : (∃ ua ub uc, e = .returned (.tuple #[.agg #[ua, ub, uc], .int .i64 c]) ∧ T3 X.heap.size w' ua ub uc n n n (valR n f) (v32 n g) (v32 n h)) ∧ Below X.heap.size X w') : PostU n f g h c X e w' := by
  obtain ⟨⟨ua, ub, uc, rfl, T⟩, hb⟩ := hh
  obtain ⟨a1, c1, rfl⟩ := own_form T.o1
  obtain ⟨a2, c2, rfl⟩ := own_form T.o2
  obtain ⟨a3, c3, rfl⟩ := own_form T.o3
  exact ⟨⟨a1, c1, a2, c2, a3, c3, rfl, T⟩, hb⟩
theorem startU (G : List Gp) (C : List Cf) (lG : G.length ≤ 2932031007317) (lC : C.length ≤ 4398046511000) : ∃ (n : Nat) (f g h : Nat → Int) (c : Int), n ≤ 64 ∧ (∀ (X : World) (vg vc : Value), Fl 5 Gp.cs X vg G → Fl 4 Cf.cs X vc C → Calls Try.prog 25 #[.agg #[vg, vc]] X (PostU n f g h c X)) ∧ ∀ (X : World) (vg vc : Value), Fl 5 Gp.cs X vg G → Fl 4 Cf.cs X vc C → Calls Try.prog 24 #[.agg #[vg, vc]] X (PostU n f g h c X) := by
  cases hg : gridB G C with
  | false => exact ⟨0, _, _, _, 70, by omega, fun X vg vc h1 h2 => (start_bad G C vg vc X h1 h2 lG lC hg).mono fun e w' h => zero_post h, fun X vg vc h1 h2 => (refStart_bad G C vg vc X h1 h2 lG lC hg).mono fun e w' h => zero_post h⟩
  | true =>
    refine ⟨G.length, _, _, _, 0, grid_len hg, fun X vg vc h1 h2 => (start_ok G C vg vc X h1 h2 lG lC hg).mono fun e w' h => ?_, fun X vg vc h1 h2 => (refStart_ok G C vg vc X h1 h2 lG lC hg).mono fun e w' h => t3_post h⟩
    obtain ⟨⟨r, p0, p1, e1, o1, o2, o3, d1, d2, d3⟩, hb⟩ := h
    exact t3_post ⟨⟨_, _, _, e1, t3_of o1 o2 o3 d1 d2 d3⟩, hb⟩
theorem stepU (G : List Gp) (C : List Cf) (A I W : List Int) (M : Nat) (lG : G.length ≤ 2932031007317) (lC : C.length ≤ 4398046511000) (lA : A.length ≤ 17592186044000) (lI : I.length ≤ 35184372088000) (lW : W.length ≤ 35184372088000) (okI : ∀ x ∈ I, inI32 x) (okW : ∀ x ∈ W, inI32 x) (hM : M < 18446744073709551616) : ∃ (n : Nat) (f g h : Nat → Int) (c : Int), n ≤ 64 ∧ (∀ (X : World) (vg vc v1 v2 v3 : Value), Fl 5 Gp.cs X vg G → Fl 4 Cf.cs X vc C → Fl 1 n64 X v1 A → Fl 1 n32 X v2 I → Fl 1 n32 X v3 W → Calls Try.prog 32 #[.agg #[vg, vc], .agg #[v1, v2, v3], .int .u64 (M : Int)] X (PostU n f g h c X)) ∧ ∀ (X : World) (vg vc v1 v2 v3 : Value), Fl 5 Gp.cs X vg G → Fl 4 Cf.cs X vc C → Fl 1 n64 X v1 A → Fl 1 n32 X v2 I → Fl 1 n32 X v3 W → Calls Try.prog 31 #[.agg #[vg, vc], .agg #[v1, v2, v3], .int .u64 (M : Int)] X (PostU n f g h c X) := by
  cases hg : gridB G C with
  | false => exact ⟨0, _, _, _, 70, by omega, fun X vg vc v1 v2 v3 h1 h2 h3 h4 h5 => (step_bad1 G C A I W vg vc v1 v2 v3 M X h1 h2 h3 h4 h5 lG lC lA lI lW hg).mono fun e w' h => zero_post h, fun X vg vc v1 v2 v3 h1 h2 h3 h4 h5 => (refStep_bad1 G C A I W vg vc v1 v2 v3 M X h1 h2 h3 h4 h5 lG lC lA lI lW hg).mono fun e w' h => zero_post h⟩
  | true =>
    cases hf : fitsB G C A I W with
    | false => exact ⟨0, _, _, _, 71, by omega, fun X vg vc v1 v2 v3 h1 h2 h3 h4 h5 => (step_bad2 G C A I W vg vc v1 v2 v3 M X h1 h2 h3 h4 h5 lG lC lA lI lW okI hg hf).mono fun e w' h => zero_post h, fun X vg vc v1 v2 v3 h1 h2 h3 h4 h5 => (refStep_bad2 G C A I W vg vc v1 v2 v3 M X h1 h2 h3 h4 h5 lG lC lA lI lW okI hg hf).mono fun e w' h => zero_post h⟩
    | true =>
      refine ⟨G.length, _, _, _, 0, grid_len hg, fun X vg vc v1 v2 v3 h1 h2 h3 h4 h5 => (step_ok G C A I W vg vc v1 v2 v3 M X h1 h2 h3 h4 h5 lG lC lA lI lW okI okW hM hg hf).mono fun e w' h => ?_, fun X vg vc v1 v2 v3 h1 h2 h3 h4 h5 => (refStep_ok G C A I W vg vc v1 v2 v3 M X h1 h2 h3 h4 h5 lG lC lA lI lW okI okW hM hg hf).mono fun e w' h => t3_post h⟩
      obtain ⟨⟨r, p0, p1, e1, o1, o2, o3, d1, d2, d3⟩, hb⟩ := h
      exact t3_post ⟨⟨_, _, _, e1, t3_of o1 o2 o3 d1 d2 d3⟩, hb⟩
/-- What is spoilt lies elsewhere. -/
theorem T3.spared {B : Nat} {w w' : World} {va vb vc : Value} {k1 k2 k3 : Nat} {x1 x2 x3 : List Value} {S : Nat → Prop} (h : T3 B w va vb vc k1 k2 k3 x1 x2 x3) (O : Only S w w') (hS : ∀ q, B ≤ q → q < w.heap.size → va.ownBlock = some q ∨ vb.ownBlock = some q ∨ vc.ownBlock = some q → ¬ S q) : T3 B w' va vb vc k1 k2 k3 x1 x2 x3 :=
  ⟨own_only2 h.o1 O (fun q hq => hS q (own_lt h.o1 q hq).1 (own_lt h.o1 q hq).2 (.inl hq)), own_only2 h.o2 O (fun q hq => hS q (own_lt h.o2 q hq).1 (own_lt h.o2 q hq).2 (.inr (.inl hq))), own_only2 h.o3 O (fun q hq => hS q (own_lt h.o3 q hq).1 (own_lt h.o3 q hq).2 (.inr (.inr hq))), h.d12, h.d13, h.d23⟩
theorem T3.blk {B : Nat} {w : World} {va vb vc : Value} {k1 k2 k3 : Nat} {x1 x2 x3 : List Value} (h : T3 B w va vb vc k1 k2 k3 x1 x2 x3) {q : Nat} (hq : blk3 va vb vc q) : B ≤ q ∧ q < w.heap.size := by
  rcases hq with hq | hq | hq
  · exact own_lt h.o1 q hq
  · exact own_lt h.o2 q hq
  · exact own_lt h.o3 q hq
theorem Cw.cut {w : World} {base e n g c : Nat} {xs : List Value} (h : w.ownsRow base e 1 (.slice (some ⟨g, 0, none⟩) (n + 1) c) (n + 1) xs) : Cw w (.slice (some ⟨g, 0, none⟩) n c) n :=
  ⟨_, _, rfl, .inr ⟨g, rfl, fun j hj => ⟨own_some h j (by omega), h.frozenAt j⟩⟩⟩
set_option maxRecDepth 100000 in
set_option maxHeartbeats 8000000 in
theorem steps (G : List Gp) (C : List Cf) (A I W : List Int) (vg vc v1 v2 v3 : Value) (M : Nat) (w : World) (h1 : Fl 5 Gp.cs w vg G) (h2 : Fl 4 Cf.cs w vc C) (h3 : Fl 1 n64 w v1 A) (h4 : Fl 1 n32 w v2 I) (h5 : Fl 1 n32 w v3 W) (lG : G.length ≤ 2932031007317) (lC : C.length ≤ 4398046511000) (lA : A.length ≤ 17592186044000) (lI : I.length ≤ 35184372088000) (lW : W.length ≤ 35184372088000) (okI : ∀ x ∈ I, inI32 x) (okW : ∀ x ∈ W, inI32 x) (hM : M < 18446744073709551616) :
    Calls Try.prog 6 #[.agg #[vg, vc], .agg #[v1, v2, v3], .int .u64 (M : Int)] w fun e w' => e = .returned (.bool true) ∧ Below w.heap.size w w' := by
  have hRoom := fun (X : World) (hX : Below w.heap.size w X) => room_any G C A I W [] vg vc v1 v2 v3 (.slice none 0 0) X (h1.below hX) (h2.below hX) (h3.below hX) (h4.below hX) (h5.below hX) lG lC lA lI lW (.inl ⟨rfl, rfl⟩) (by simp)
  obtain ⟨nS, fS, gS, hS', cS, nS64, s25, s24⟩ := startU G C lG lC
  obtain ⟨nT, fT, gT, hT', cT, nT64, s32, s31⟩ := stepU G C A I W M lG lC lA lI lW okI okW hM
  have k24 := fun (X : World) (hX : Below w.heap.size w X) => s24 X vg vc (h1.below hX) (h2.below hX)
  have k31 := fun (X : World) (hX : Below w.heap.size w X) => s31 X vg vc v1 v2 v3 (h1.below hX) (h2.below hX) (h3.below hX) (h4.below hX) (h5.below hX)
  have k25 := s25
  have k32 := s32
  have k20 := fun (X : World) (hX : Below w.heap.size w X) (g1 e1 g2 e2 g3 e3 g4 e4 g5 e5 g6 e6 : Nat) (R : RoomR 0 X G C A I W [] g1 e1 g2 e2 g3 e3 g4 e4 g5 e5 g6 e6) => (kept_any G C A I W [] vg vc v1 v2 v3 (.slice none 0 0) g1 e1 g2 e2 g3 e3 g4 e4 g5 e5 g6 e6 X (h1.below hX) (h2.below hX) (h3.below hX) (h4.below hX) (h5.below hX) lG lC lA lI lW (.inl ⟨rfl, rfl⟩) (by simp) R : Calls Try.prog 20 #[.agg #[.slice (some ⟨g1, 0, none⟩) (G.length + 1) e1, .slice (some ⟨g2, 0, none⟩) (C.length + 1) e2, .slice (some ⟨g3, 0, none⟩) (A.length + 1) e3, .slice (some ⟨g4, 0, none⟩) (I.length + 1) e4, .slice (some ⟨g5, 0, none⟩) (W.length + 1) e5, .slice (some ⟨g6, 0, none⟩) 1 e6], .agg #[vg, vc], .agg #[v1, v2, v3], .slice none 0 0] X fun e w' => e = .returned (.bool true) ∧ Below X.heap.size X w')
  have eqS := fun (X : World) (B1' B2' : Nat) (u1 u2 u3 q1 q2 q3 : Value) (Ta : T3 B1' X u1 u2 u3 nS nS nS (valR nS fS) (v32 nS gS) (v32 nS hS')) (Tb : T3 B2' X q1 q2 q3 nS nS nS (valR nS fS) (v32 nS gS) (v32 nS hS')) => headsEqual_any (lst64 nS fS) (lst64 nS gS) (lst64 nS hS') u1 u2 u3 q1 q2 q3 X Ta.f1 Ta.f2 Ta.f3 Tb.f1 Tb.f2 Tb.f3 (by rw [lst_len]; omega) (by rw [lst_len]; omega) (by rw [lst_len]; omega)
  have eqT := fun (X : World) (B1' B2' : Nat) (u1 u2 u3 q1 q2 q3 : Value) (Ta : T3 B1' X u1 u2 u3 nT nT nT (valR nT fT) (v32 nT gT) (v32 nT hT')) (Tb : T3 B2' X q1 q2 q3 nT nT nT (valR nT fT) (v32 nT gT) (v32 nT hT')) => headsEqual_any (lst64 nT fT) (lst64 nT gT) (lst64 nT hT') u1 u2 u3 q1 q2 q3 X Ta.f1 Ta.f2 Ta.f3 Tb.f1 Tb.f2 Tb.f3 (by rw [lst_len]; omega) (by rw [lst_len]; omega) (by rw [lst_len]; omega)
  clear s24 s25 s31 s32
  obtain ⟨va, cg, rfl, -⟩ := h1.any
  obtain ⟨vb, cc, rfl, -⟩ := h2.any
  obtain ⟨vA, cA, rfl, -⟩ := h3.any
  obtain ⟨vI, cI, rfl, -⟩ := h4.any
  obtain ⟨vW, cW, rfl, -⟩ := h5.any
  have E0 : Has ((w.alloc (.cells #[.slice va G.length cg, .slice vb C.length cc] 25)).alloc (.cells #[.slice vA A.length cA, .slice vI I.length cI, .slice vW W.length cW] 29)) w.heap.size #[.slice va G.length cg, .slice vb C.length cc] := (Has.new _ _ _ rfl).alloc _
  have E1 : Has ((w.alloc (.cells #[.slice va G.length cg, .slice vb C.length cc] 25)).alloc (.cells #[.slice vA A.length cA, .slice vI I.length cI, .slice vW W.length cW] 29)) (w.heap.size + 1) #[.slice vA A.length cA, .slice vI I.length cI, .slice vW W.length cW] := Has.new _ _ _ (by simp)
  have HB0 : Below w.heap.size w ((w.alloc (.cells #[.slice va G.length cg, .slice vb C.length cc] 25)).alloc (.cells #[.slice vA A.length cA, .slice vI I.length cI, .slice vW W.length cW] 29)) := belA
  clear h1 h2 h3 h4 h5
  go_enter Try.func6, Try.ntmps6
  go_upto_region 1 with fail
  generalize ((w.alloc (.cells #[.slice va G.length cg, .slice vb C.length cc] 25)).alloc (.cells #[.slice vA A.length cA, .slice vI I.length cI, .slice vW W.length cW] 29)) = W0 at *
  have z0 : w.heap.size + 2 ≤ W0.heap.size := E1.1
  obtain ⟨_, y0, _⟩ := id E0
  obtain ⟨_, y1, _⟩ := id E1
  go_upto_region 2 with (go_at_call 9; (with_reducible refine Calls.mono (hRoom _ (by exact HB0)) ?_); rintro e w1 ⟨⟨g1, e1, g2, e2, g3, e3, g4, e4, g5, e5, g6, e6, rfl, R0⟩, hb1⟩; have zz1 := hb1.size; have HB1 := bel_after HB0 HB0.size hb1; replace E0 := E0.below hb1; replace E1 := E1.below hb1; clear hb1 y0 y1)
  have hTb' : ∀ X : World, Calls Try.prog 10 #[.agg #[.slice (some ⟨g1, 0, none⟩) (G.length + 1) e1, .slice (some ⟨g2, 0, none⟩) (C.length + 1) e2, .slice (some ⟨g3, 0, none⟩) (A.length + 1) e3, .slice (some ⟨g4, 0, none⟩) (I.length + 1) e4, .slice (some ⟨g5, 0, none⟩) (W.length + 1) e5, .slice (some ⟨g6, 0, none⟩) 1 e6]] X fun e w' => e = .returned (.agg #[.slice (some ⟨g1, 0, none⟩) G.length e1, .slice (some ⟨g2, 0, none⟩) C.length e2]) ∧ Below X.heap.size X w' := fun X => tables_any g1 g2 g3 g4 g5 g6 G.length C.length A.length I.length W.length 0 e1 e2 e3 e4 e5 e6 X (own_cap R0.fg (by omega)) (by omega) (own_cap R0.fc (by omega)) (by omega)
  have hHd' : ∀ X : World, Calls Try.prog 11 #[.agg #[.slice (some ⟨g1, 0, none⟩) (G.length + 1) e1, .slice (some ⟨g2, 0, none⟩) (C.length + 1) e2, .slice (some ⟨g3, 0, none⟩) (A.length + 1) e3, .slice (some ⟨g4, 0, none⟩) (I.length + 1) e4, .slice (some ⟨g5, 0, none⟩) (W.length + 1) e5, .slice (some ⟨g6, 0, none⟩) 1 e6]] X fun e w' => e = .returned (.agg #[.slice (some ⟨g3, 0, none⟩) A.length e3, .slice (some ⟨g4, 0, none⟩) I.length e4, .slice (some ⟨g5, 0, none⟩) W.length e5]) ∧ Below X.heap.size X w' := fun X => heads_any g1 g2 g3 g4 g5 g6 G.length C.length A.length I.length W.length 0 e1 e2 e3 e4 e5 e6 X (own_cap R0.fa (by omega)) (by omega) (own_cap R0.fi (by omega)) (by omega) (own_cap R0.fw (by omega)) (by omega)
  have RB : Has (w1.alloc (.cells #[.slice (some ⟨g1, 0, none⟩) (G.length + 1) e1, .slice (some ⟨g2, 0, none⟩) (C.length + 1) e2, .slice (some ⟨g3, 0, none⟩) (A.length + 1) e3, .slice (some ⟨g4, 0, none⟩) (I.length + 1) e4, .slice (some ⟨g5, 0, none⟩) (W.length + 1) e5, .slice (some ⟨g6, 0, none⟩) 1 e6] 33)) w1.heap.size #[.slice (some ⟨g1, 0, none⟩) (G.length + 1) e1, .slice (some ⟨g2, 0, none⟩) (C.length + 1) e2, .slice (some ⟨g3, 0, none⟩) (A.length + 1) e3, .slice (some ⟨g4, 0, none⟩) (I.length + 1) e4, .slice (some ⟨g5, 0, none⟩) (W.length + 1) e5, .slice (some ⟨g6, 0, none⟩) 1 e6] := Has.new _ _ _ rfl
  have hbA : Below w1.heap.size w1 (w1.alloc (.cells #[.slice (some ⟨g1, 0, none⟩) (G.length + 1) e1, .slice (some ⟨g2, 0, none⟩) (C.length + 1) e2, .slice (some ⟨g3, 0, none⟩) (A.length + 1) e3, .slice (some ⟨g4, 0, none⟩) (I.length + 1) e4, .slice (some ⟨g5, 0, none⟩) (W.length + 1) e5, .slice (some ⟨g6, 0, none⟩) 1 e6] 33)) := belN1
  replace R0 := R0.below hbA
  replace E0 := E0.below hbA
  replace E1 := E1.below hbA
  replace HB1 := bel_after HB1 HB1.size hbA
  clear hbA
  generalize (w1.alloc (.cells #[.slice (some ⟨g1, 0, none⟩) (G.length + 1) e1, .slice (some ⟨g2, 0, none⟩) (C.length + 1) e2, .slice (some ⟨g3, 0, none⟩) (A.length + 1) e3, .slice (some ⟨g4, 0, none⟩) (I.length + 1) e4, .slice (some ⟨g5, 0, none⟩) (W.length + 1) e5, .slice (some ⟨g6, 0, none⟩) 1 e6] 33)) = W2 at *
  refine wp_region_noPanic ?_
  refine wp_region_held_drew (S := fun w' => w'.cell? ⟨w1.heap.size, 0, none⟩ = some (.slice (some ⟨g1, 0, none⟩) (G.length + 1) e1) ∧ w'.cell? ⟨w1.heap.size, 1, none⟩ = some (.slice (some ⟨g2, 0, none⟩) (C.length + 1) e2) ∧ w'.cell? ⟨w1.heap.size, 2, none⟩ = some (.slice (some ⟨g3, 0, none⟩) (A.length + 1) e3) ∧ w'.cell? ⟨w1.heap.size, 3, none⟩ = some (.slice (some ⟨g4, 0, none⟩) (I.length + 1) e4) ∧ w'.cell? ⟨w1.heap.size, 4, none⟩ = some (.slice (some ⟨g5, 0, none⟩) (W.length + 1) e5) ∧ w'.cell? ⟨w1.heap.size, 5, none⟩ = some (.slice (some ⟨g6, 0, none⟩) 1 e6)) (by kernel_rfl) ?_ (fun hHeld => ?_)
  · (try dsimp only)
    exact has6 RB.drew
  refine wpAnyH_take (i := 0) (oi := { dst := some 19, op := Op.load 33 (Operand.tmp 7), type := 33, pos := "headslaw.go:131", after := #[], guard := none }) (v := ?_) rfl (by kernel_rfl) (by kernel_rfl) (by kernel_rfl) (fun _ _ _ h => h) (Or.inl ⟨by rfl, ?_⟩) (by assumption) ?_
  rotate_left
  · intro wz hSz; (try dsimp only at hSz); go_simp; all_goals (with_reducible rfl)
  (try simp only [Act.put, List.setIfInBounds_toArray, List.set_cons_zero, List.set_cons_succ])
  refine wpAnyH_take (i := 2) (oi := { dst := some 21, op := Op.load 33 (Operand.tmp 7), type := 33, pos := "headslaw.go:131", after := #[], guard := none }) (v := ?_) rfl (by kernel_rfl) (by kernel_rfl) (by kernel_rfl) (fun _ _ _ h => h) (Or.inl ⟨by rfl, ?_⟩) (by assumption) ?_
  rotate_left
  · intro wz hSz; (try dsimp only at hSz); go_simp; all_goals (with_reducible rfl)
  (try simp only [Act.put, List.setIfInBounds_toArray, List.set_cons_zero, List.set_cons_succ])
  refine regA6 G C A I W g1 g2 g3 g4 g5 e1 e2 e3 e4 e5 g6 e6 _ _ _ _ _ _ _ _ _ W2.drew rfl hTb' hHd' _ _ (fun X hX => has6 (RB.drew.below hX)) ?_ _ (of_decide_eq_true (by kernel_rfl))
  intro p q y0 hb0 P0 Q0 hp hq
  refine NoPanic.normal ?_
  have H0 : Below W2.heap.size W2 y0 := bel_after ((Below.refl _ _).drew) (Nat.le_refl _) hb0
  have U0 := E0.below H0
  have V0 := E1.below H0
  have B0 := RB.below H0
  have RY := R0.below H0
  have HW : Below w.heap.size w y0 := bel_after HB1 HB1.size H0
  have FG := fl_cut gp_len RY.fg
  have FC := fl_cut cf_len RY.fc
  have FA := fl_cut n64_len RY.fa
  have FI := fl_cut n32_len RY.fi
  have FW := fl_cut n32_len RY.fw
  have gl3 := own_lt RY.fa g3 rfl
  have gl4 := own_lt RY.fi g4 rfl
  have gl5 := own_lt RY.fw g5 rfl
  have cwA := Cw.cut RY.fa
  have cwI := Cw.cut RY.fi
  have cwW := Cw.cut RY.fw
  have HX := fun (X : World) (hX : Below y0.heap.size y0 X) => bel_after HW HW.size hX
  have c24 := fun (X : World) (hX : Below y0.heap.size y0 X) => k24 X (HX X hX)
  have c31 := fun (X : World) (hX : Below y0.heap.size y0 X) => k31 X (HX X hX)
  have c25 := fun (X : World) (hX : Below y0.heap.size y0 X) => k25 X _ _ (FG.below hX) (FC.below hX)
  have c32 := fun (X : World) (hX : Below y0.heap.size y0 X) => k32 X _ _ _ _ _ (FG.below hX) (FC.below hX) (FA.below hX) (FI.below hX) (FW.below hX)
  have c20 := fun (X : World) (hX : Below y0.heap.size y0 X) => k20 X (HX X hX) g1 e1 g2 e2 g3 e3 g4 e4 g5 e5 g6 e6 ((RY.base (Nat.zero_le _)).below hX)
  have K0 : Below y0.heap.size y0 y0 := Below.refl _ _
  have zp := P0.1
  have hlw := HB1.size
  clear k24 k31 k25 k32 k20 FG FC FA FI FW R0 hTb' hHd' RB E0 E1 hb0 hRoom RY
  obtain ⟨_, oU0, _⟩ := id (U0.below K0)
  go_upto_region 4 with (go_at_call 24; (with_reducible refine Calls.mono (c24 _ (by exact K0)) ?_); rintro e z1 ⟨⟨a1, ac1, a2, ac2, a3, ac3, rfl, Tw⟩, hz1⟩)
  clear oU0
  have X1 : Has (z1.alloc (.cells #[.slice a1 nS ac1, .slice a2 nS ac2, .slice a3 nS ac3] 29)) z1.heap.size #[.slice a1 nS ac1, .slice a2 nS ac2, .slice a3 nS ac3] := Has.new _ _ _ rfl
  have hn1 : Below z1.heap.size z1 (z1.alloc (.cells #[.slice a1 nS ac1, .slice a2 nS ac2, .slice a3 nS ac3] 29)) := belN1
  have zs1 := hz1.size
  have hB1 : ∀ q, blk3 (.slice a1 nS ac1) (.slice a2 nS ac2) (.slice a3 nS ac3) q → q < z1.heap.size := fun q hq => (Tw.blk hq).2
  replace Tw := Tw.below hn1
  have K1 := bel_after (bel_after K0 K0.size hz1) (Nat.le_trans K0.size zs1) hn1
  have zn1 : z1.heap.size < (z1.alloc (.cells #[.slice a1 nS ac1, .slice a2 nS ac2, .slice a3 nS ac3] 29)).heap.size := X1.1
  clear hz1 hn1
  generalize (z1.alloc (.cells #[.slice a1 nS ac1, .slice a2 nS ac2, .slice a3 nS ac3] 29)) = y1 at *
  obtain ⟨_, oP0, _⟩ := id (P0.below K1)
  go_upto_region 5 with (go_at_call 25; (with_reducible refine Calls.mono (c25 _ (by exact K1)) ?_); rintro e z2 ⟨⟨s1, sc1, s2, sc2, s3, sc3, rfl, Ts⟩, hz2⟩)
  clear oP0
  have X2 : Has (z2.alloc (.cells #[.slice s1 nS sc1, .slice s2 nS sc2, .slice s3 nS sc3] 29)) z2.heap.size #[.slice s1 nS sc1, .slice s2 nS sc2, .slice s3 nS sc3] := Has.new _ _ _ rfl
  have hn2 : Below z2.heap.size z2 (z2.alloc (.cells #[.slice s1 nS sc1, .slice s2 nS sc2, .slice s3 nS sc3] 29)) := belN1
  have zs2 := hz2.size
  have hB2 : ∀ q, blk3 (.slice s1 nS sc1) (.slice s2 nS sc2) (.slice s3 nS sc3) q → q < z2.heap.size := fun q hq => (Ts.blk hq).2
  replace Ts := Ts.below hn2
  have K2 := bel_after (bel_after K1 K1.size hz2) (Nat.le_trans K1.size zs2) hn2
  replace Tw := (Tw.below hz2).below hn2
  replace X1 := (X1.below hz2).below hn2
  have zn2 : z2.heap.size < (z2.alloc (.cells #[.slice s1 nS sc1, .slice s2 nS sc2, .slice s3 nS sc3] 29)).heap.size := X2.1
  clear hz2 hn2
  generalize (z2.alloc (.cells #[.slice s1 nS sc1, .slice s2 nS sc2, .slice s3 nS sc3] 29)) = y2 at *
  obtain ⟨_, oa, _⟩ := id X2
  obtain ⟨_, oc, _⟩ := id X1
  go_upto_region 7 with (go_at_call 26; (with_reducible refine Calls.mono (eqS _ _ _ _ _ _ _ _ _ Ts Tw) ?_); rintro e z3 ⟨rfl, hz3⟩; have K3 := bel_after K2 K2.size hz3; replace Tw := Tw.below hz3; replace Ts := Ts.below hz3; replace X1 := X1.below hz3; replace X2 := X2.below hz3; have zs3 := hz3.size;  clear hz3)
  clear oa oc
  obtain ⟨_, ox, _⟩ := id X2
  go_upto_region 8 with (go_at_call 28; (with_reducible refine Calls.mono (spoil_any _ _ _ _ _ _ 5 _ (Cw.own Ts.o1) (Cw.own Ts.o2) (Cw.own Ts.o3) (by omega) (by omega) (by omega)) ?_); rintro e z4 ⟨rfl, O4⟩)
  clear ox
  have K4 := bel_only K3 O4 (Nat.le_refl _) (fun q hq h => by have := (Ts.blk h).1; omega)
  replace Tw := Tw.spared O4 (fun q _ _ hq h => by have := hB1 q hq; have := (Ts.blk h).1; omega)
  replace X1 := X1.only O4 (fun h => by have := (Ts.blk h).1; have := hB2 _ h; omega)
  replace X2 := X2.only O4 (fun h => by have := (Ts.blk h).1; have := hB2 _ h; omega)
  have zs4 := O4.size
  clear O4
  clear Ts
  obtain ⟨_, oP0, _⟩ := id (P0.below K4)
  go_upto_region 9 with (go_at_call 25; (with_reducible refine Calls.mono (c25 _ (by exact K4)) ?_); rintro e z5 ⟨⟨t1, tc1, t2, tc2, t3, tc3, rfl, Tt⟩, hz5⟩; replace X2 := X2.below hz5; obtain ⟨_, ox1, ox2⟩ := id X2)
  clear oP0
  have zs5 := hz5.size
  have hB5 : ∀ q, blk3 (.slice t1 nS tc1) (.slice t2 nS tc2) (.slice t3 nS tc3) q → q < z5.heap.size := fun q hq => (Tt.blk hq).2
  have O5 : Only (fun q => q = z2.heap.size) z5 (((z5.setCell ⟨z2.heap.size, 0, none⟩ (.slice t1 nS tc1)).setCell ⟨z2.heap.size, 1, none⟩ (.slice t2 nS tc2)).setCell ⟨z2.heap.size, 2, none⟩ (.slice t3 nS tc3)) := ((only_of_set _ _ _ _).trans (only_of_set _ _ _ _)).trans (only_of_set _ _ _ _)
  have X5 : Has (((z5.setCell ⟨z2.heap.size, 0, none⟩ (.slice t1 nS tc1)).setCell ⟨z2.heap.size, 1, none⟩ (.slice t2 nS tc2)).setCell ⟨z2.heap.size, 2, none⟩ (.slice t3 nS tc3)) z2.heap.size #[.slice t1 nS tc1, .slice t2 nS tc2, .slice t3 nS tc3] := by simpa using ((X2.set 0 (by simp) (.slice t1 nS tc1)).set 1 (by simp) (.slice t2 nS tc2)).set 2 (by simp) (.slice t3 nS tc3)
  replace Tt := Tt.only O5 (fun q hq h => by omega)
  have K5 := bel_only (bel_after K4 K4.size hz5) O5 (Nat.le_refl _) (fun q hq h => by omega)
  replace Tw := (Tw.below hz5).spared O5 (fun q _ _ hq h => by have := hB1 q hq; omega)
  replace X1 := (X1.below hz5).only O5 (by omega)
  have zn5 : z5.heap.size ≤ (((z5.setCell ⟨z2.heap.size, 0, none⟩ (.slice t1 nS tc1)).setCell ⟨z2.heap.size, 1, none⟩ (.slice t2 nS tc2)).setCell ⟨z2.heap.size, 2, none⟩ (.slice t3 nS tc3)).heap.size := O5.size
  clear hz5 O5 X2 ox1 ox2
  generalize (((z5.setCell ⟨z2.heap.size, 0, none⟩ (.slice t1 nS tc1)).setCell ⟨z2.heap.size, 1, none⟩ (.slice t2 nS tc2)).setCell ⟨z2.heap.size, 2, none⟩ (.slice t3 nS tc3)) = y5 at *
  obtain ⟨_, oa, _⟩ := id X5
  obtain ⟨_, oc, _⟩ := id X1
  go_upto_region 11 with (go_at_call 26; (with_reducible refine Calls.mono (eqS _ _ _ _ _ _ _ _ _ Tt Tw) ?_); rintro e z6 ⟨rfl, hz6⟩; have K6 := bel_after K5 K5.size hz6; replace Tw := Tw.below hz6; replace Tt := Tt.below hz6; replace X1 := X1.below hz6; replace X5 := X5.below hz6; have zs6 := hz6.size;  clear hz6)
  clear oa oc
  clear Tt Tw X5
  obtain ⟨_, oU0, _⟩ := id (U0.below K6)
  obtain ⟨_, oV0, _⟩ := id (V0.below K6)
  go_upto_region 12 with (go_at_call 31; (with_reducible refine Calls.mono (c31 _ (by exact K6)) ?_); rintro e z7 ⟨⟨x1, xc1, x2, xc2, x3, xc3, rfl, Tx⟩, hz7⟩; replace X1 := X1.below hz7; obtain ⟨_, ox1, ox2⟩ := id X1)
  clear oU0 oV0
  have zs7 := hz7.size
  have hB7 : ∀ q, blk3 (.slice x1 nT xc1) (.slice x2 nT xc2) (.slice x3 nT xc3) q → q < z7.heap.size := fun q hq => (Tx.blk hq).2
  have O7 : Only (fun q => q = z1.heap.size) z7 (((z7.setCell ⟨z1.heap.size, 0, none⟩ (.slice x1 nT xc1)).setCell ⟨z1.heap.size, 1, none⟩ (.slice x2 nT xc2)).setCell ⟨z1.heap.size, 2, none⟩ (.slice x3 nT xc3)) := ((only_of_set _ _ _ _).trans (only_of_set _ _ _ _)).trans (only_of_set _ _ _ _)
  have X7 : Has (((z7.setCell ⟨z1.heap.size, 0, none⟩ (.slice x1 nT xc1)).setCell ⟨z1.heap.size, 1, none⟩ (.slice x2 nT xc2)).setCell ⟨z1.heap.size, 2, none⟩ (.slice x3 nT xc3)) z1.heap.size #[.slice x1 nT xc1, .slice x2 nT xc2, .slice x3 nT xc3] := by simpa using ((X1.set 0 (by simp) (.slice x1 nT xc1)).set 1 (by simp) (.slice x2 nT xc2)).set 2 (by simp) (.slice x3 nT xc3)
  replace Tx := Tx.only O7 (fun q hq h => by omega)
  have K7 := bel_only (bel_after K6 K6.size hz7) O7 (Nat.le_refl _) (fun q hq h => by omega)
  have zn7 : z7.heap.size ≤ (((z7.setCell ⟨z1.heap.size, 0, none⟩ (.slice x1 nT xc1)).setCell ⟨z1.heap.size, 1, none⟩ (.slice x2 nT xc2)).setCell ⟨z1.heap.size, 2, none⟩ (.slice x3 nT xc3)).heap.size := O7.size
  clear hz7 O7 X1 ox1 ox2
  generalize (((z7.setCell ⟨z1.heap.size, 0, none⟩ (.slice x1 nT xc1)).setCell ⟨z1.heap.size, 1, none⟩ (.slice x2 nT xc2)).setCell ⟨z1.heap.size, 2, none⟩ (.slice x3 nT xc3)) = y7 at *
  obtain ⟨_, oP0, _⟩ := id (P0.below K7)
  obtain ⟨_, oQ0, _⟩ := id (Q0.below K7)
  go_upto_region 13 with (go_at_call 32; (with_reducible refine Calls.mono (c32 _ (by exact K7)) ?_); rintro e z8 ⟨⟨n1, nc1, n2, nc2, n3, nc3, rfl, Tn⟩, hz8⟩)
  clear oP0 oQ0
  have X8 : Has (z8.alloc (.cells #[.slice n1 nT nc1, .slice n2 nT nc2, .slice n3 nT nc3] 29)) z8.heap.size #[.slice n1 nT nc1, .slice n2 nT nc2, .slice n3 nT nc3] := Has.new _ _ _ rfl
  have hn8 : Below z8.heap.size z8 (z8.alloc (.cells #[.slice n1 nT nc1, .slice n2 nT nc2, .slice n3 nT nc3] 29)) := belN1
  have zs8 := hz8.size
  have hB8 : ∀ q, blk3 (.slice n1 nT nc1) (.slice n2 nT nc2) (.slice n3 nT nc3) q → q < z8.heap.size := fun q hq => (Tn.blk hq).2
  replace Tn := Tn.below hn8
  have K8 := bel_after (bel_after K7 K7.size hz8) (Nat.le_trans K7.size zs8) hn8
  replace Tx := (Tx.below hz8).below hn8
  replace X7 := (X7.below hz8).below hn8
  have zn8 : z8.heap.size < (z8.alloc (.cells #[.slice n1 nT nc1, .slice n2 nT nc2, .slice n3 nT nc3] 29)).heap.size := X8.1
  clear hz8 hn8
  generalize (z8.alloc (.cells #[.slice n1 nT nc1, .slice n2 nT nc2, .slice n3 nT nc3] 29)) = y8 at *
  obtain ⟨_, oa, _⟩ := id X8
  obtain ⟨_, oc, _⟩ := id X7
  go_upto_region 15 with (first | (go_at_call 26; (with_reducible refine Calls.mono (eqT _ _ _ _ _ _ _ _ _ Tn Tx) ?_); rintro e z9 ⟨rfl, hz9⟩; have K9 := bel_after K8 K8.size hz9; replace Tx := Tx.below hz9; replace Tn := Tn.below hz9; replace X7 := X7.below hz9; replace X8 := X8.below hz9; have zs9 := hz9.size; obtain ⟨_, qB0, _⟩ := id (B0.below K9); obtain ⟨_, qU0, _⟩ := id (U0.below K9); obtain ⟨_, qV0, _⟩ := id (V0.below K9); clear hz9) | (go_at_call 20; (with_reducible refine Calls.mono (c20 _ (by exact K9)) ?_); rintro e w9 ⟨rfl, hw9⟩; have L9 := bel_after K9 K9.size hw9; replace Tx := Tx.below hw9; replace Tn := Tn.below hw9; replace X7 := X7.below hw9; replace X8 := X8.below hw9; have ws9 := hw9.size; clear hw9))
  clear oa oc qB0 qU0 qV0
  obtain ⟨_, ox, _⟩ := id X8
  go_upto_region 16 with (go_at_call 28; (with_reducible refine Calls.mono (spoil_any _ _ _ _ _ _ 9 _ (Cw.own Tn.o1) (Cw.own Tn.o2) (Cw.own Tn.o3) (by omega) (by omega) (by omega)) ?_); rintro e z10 ⟨rfl, O10⟩)
  clear ox
  have K10 := bel_only L9 O10 (Nat.le_refl _) (fun q hq h => by have := (Tn.blk h).1; omega)
  replace Tx := Tx.spared O10 (fun q _ _ hq h => by have := hB7 q hq; have := (Tn.blk h).1; omega)
  replace X7 := X7.only O10 (fun h => by have := (Tn.blk h).1; have := hB8 _ h; omega)
  have zs10 := O10.size
  clear O10
  clear Tn X8
  obtain ⟨_, oB0, _⟩ := id (B0.below K10)
  obtain ⟨_, oU0, _⟩ := id (U0.below K10)
  obtain ⟨_, oV0, _⟩ := id (V0.below K10)
  go_upto_region 18 with (go_at_call 20; (with_reducible refine Calls.mono (c20 _ (by exact K10)) ?_); rintro e z11 ⟨rfl, hz11⟩; have K11 := bel_after K10 K10.size hz11; replace Tx := Tx.below hz11; replace X7 := X7.below hz11; have zs11 := hz11.size; clear hz11)
  clear oB0 oU0 oV0
  obtain ⟨_, oP0, _⟩ := id (P0.below K11)
  obtain ⟨_, oQ0, _⟩ := id (Q0.below K11)
  go_upto_region 19 with (go_at_call 32; (with_reducible refine Calls.mono (c32 _ (by exact K11)) ?_); rintro e z12 ⟨⟨m1, mc1, m2, mc2, m3, mc3, rfl, Tm⟩, hz12⟩)
  clear oP0 oQ0
  have X12 : Has (z12.alloc (.cells #[.slice m1 nT mc1, .slice m2 nT mc2, .slice m3 nT mc3] 29)) z12.heap.size #[.slice m1 nT mc1, .slice m2 nT mc2, .slice m3 nT mc3] := Has.new _ _ _ rfl
  have hn12 : Below z12.heap.size z12 (z12.alloc (.cells #[.slice m1 nT mc1, .slice m2 nT mc2, .slice m3 nT mc3] 29)) := belN1
  have zs12 := hz12.size
  have hB12 : ∀ q, blk3 (.slice m1 nT mc1) (.slice m2 nT mc2) (.slice m3 nT mc3) q → q < z12.heap.size := fun q hq => (Tm.blk hq).2
  replace Tm := Tm.below hn12
  have K12 := bel_after (bel_after K11 K11.size hz12) (Nat.le_trans K11.size zs12) hn12
  replace Tx := (Tx.below hz12).below hn12
  replace X7 := (X7.below hz12).below hn12
  have zn12 : z12.heap.size < (z12.alloc (.cells #[.slice m1 nT mc1, .slice m2 nT mc2, .slice m3 nT mc3] 29)).heap.size := X12.1
  clear hz12 hn12
  generalize (z12.alloc (.cells #[.slice m1 nT mc1, .slice m2 nT mc2, .slice m3 nT mc3] 29)) = y12 at *
  obtain ⟨_, oa, _⟩ := id X12
  obtain ⟨_, oc, _⟩ := id X7
  go_upto_region 21 with (first | (go_at_call 26; (with_reducible refine Calls.mono (eqT _ _ _ _ _ _ _ _ _ Tm Tx) ?_); rintro e z13 ⟨rfl, hz13⟩; have K13 := bel_after K12 K12.size hz13; replace Tx := Tx.below hz13; replace Tm := Tm.below hz13; replace X7 := X7.below hz13; replace X12 := X12.below hz13; have zs13 := hz13.size; obtain ⟨_, qB0, _⟩ := id (B0.below K13); obtain ⟨_, qU0, _⟩ := id (U0.below K13); obtain ⟨_, qV0, _⟩ := id (V0.below K13); clear hz13) | (go_at_call 20; (with_reducible refine Calls.mono (c20 _ (by exact K13)) ?_); rintro e w13 ⟨rfl, hw13⟩; have L13 := bel_after K13 K13.size hw13; replace Tx := Tx.below hw13; replace Tm := Tm.below hw13; replace X7 := X7.below hw13; replace X12 := X12.below hw13; have ws13 := hw13.size; clear hw13))
  clear oa oc qB0 qU0 qV0
  obtain ⟨_, oQ0, _⟩ := id (Q0.below L13)
  have b3 : ∀ q, blk3 (.slice (some ⟨g3, 0, none⟩) A.length e3) (.slice (some ⟨g4, 0, none⟩) I.length e4) (.slice (some ⟨g5, 0, none⟩) W.length e5) q → w.heap.size ≤ q ∧ q < y0.heap.size := fun q h => by
    rcases h with h | h | h
    · have e : g3 = q := by injection h
      subst e; exact ⟨by omega, gl3.2⟩
    · have e : g4 = q := by injection h
      subst e; exact ⟨by omega, gl4.2⟩
    · have e : g5 = q := by injection h
      subst e; exact ⟨by omega, gl5.2⟩
  go_upto_region 22 with (go_at_call 28; (with_reducible refine Calls.mono (spoil_any _ _ _ _ _ _ 11 _ (cwA.below L13) (cwI.below L13) (cwW.below L13) (by omega) (by omega) (by omega)) ?_); rintro e z14 ⟨rfl, O14⟩)
  clear oQ0
  replace Tx := Tx.spared O14 (fun q hq _ _ h => by have := b3 q h; omega)
  replace Tm := Tm.spared O14 (fun q hq _ _ h => by have := b3 q h; omega)
  replace X7 := X7.only O14 (fun h => by have := b3 _ h; omega)
  replace X12 := X12.only O14 (fun h => by have := b3 _ h; omega)
  have HF := bel_only (HX _ L13) O14 (Nat.le_refl _) (fun q hq h => by have := b3 q h; omega)
  obtain ⟨_, oa, _⟩ := id X12
  obtain ⟨_, oc, _⟩ := id X7
  go_wp2_with (go_at_call 26; (with_reducible refine Calls.mono (eqT _ _ _ _ _ _ _ _ _ Tm Tx) ?_); rintro e z15 ⟨rfl, hz15⟩; have HG := bel_after HF HF.size hz15; clear hz15)
  go_ret
  exact ⟨rfl, HG⟩
end Go.Proofs.Ytbonmajnkbggcab
