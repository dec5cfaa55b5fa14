import Derived.Test.YtnicolaphmffkaaGreatDoorGdB
import Derived.Test.YtnicolaphmffkaaGreatDoorMaF
namespace Go.Proofs.YtnicolaphmffkaaGreatDoor
open Go.RowKit
set_option linter.unusedVariables false
set_option linter.unusedSimpArgs false

theorem bel_only {B : Nat} {S : Nat → Prop} {a w w' : World} (h : Below B a w) (ho : Only S w w') (hB : B ≤ a.heap.size) (hS : ∀ k, k < B → ¬ S k) : Below B a w' :=
 ⟨ho.os.trans h.os, ho.tape.trans h.tape, ho.output.trans h.output, Nat.le_trans h.size ho.size, fun k hk => (ho.block k (by have := h.size; omega) (hS k hk)).trans (h.block k hk)⟩
theorem bel3o {w : World} {o1 o2 o3 : Obj} : Below w.heap.size w (((w.alloc o1).alloc o2).alloc o3) := (belA).alloc (by simp; omega) _
theorem belD1 {w : World} {o1 : Obj} : Below w.heap.size w (w.alloc o1).drew := (belN1).drew
theorem belD2 {w : World} {o1 o2 : Obj} : Below w.heap.size w ((w.alloc o1).alloc o2).drew := (belA).drew
theorem belD3 {w : World} {o1 o2 o3 : Obj} : Below w.heap.size w (((w.alloc o1).alloc o2).alloc o3).drew := (bel3o).drew
abbrev marksG : List Value := [.string ⟨#[]⟩, .int .i64 0, .int .i64 77, .int .i64 0, .int .i64 0, .string ⟨#[]⟩, .int .i64 0, .int .i64 77, .int .i64 0, .int .i64 0]
abbrev marksC : List Value := [.int .i64 0, .int .i64 0, .int .i64 77, .int .i64 0, .int .i64 0, .int .i64 0, .int .i64 77, .int .i64 0]
theorem newsOf {X : World} {b : Nat} {xs : List Value} (h : Has X b xs.toArray) : ∀ j u, xs[j]? = some u → X.cell? ((⟨b, 0, none⟩ : Addr).add j) = some u := by
 intro j u hu
 rw [Go.WideShapes.add_plain, Nat.zero_add, h.2.1 j]
 simpa using hu
/-- Ahead of the first append. -/
structure RS (w : World) (N : Nat) (bx : Array Value) (v1 v2 : Value) (G : List Gp) (C : List Cf) (X : World) : Prop where
 hb : Below w.heap.size w X
 B0 : Has X w.heap.size bx
 R1 : Has X (w.heap.size + 1) #[.slice none 0 0, .slice none 0 0]
 R2 : Has X (w.heap.size + 2) #[.slice none 0 0, .slice none 0 0, .slice none 0 0, .slice none 0 0]
 Q : Has X N #[v1, v2]
 o1 : X.ownsRow (w.heap.size + 3) 90 5 v1 G.length (cellsF Gp.cs G)
 o2 : X.ownsRow (w.heap.size + 3) 93 4 v2 C.length (cellsF Cf.cs C)
 b1 : ∀ q, v1.ownBlock = some q → q < N
 b2 : ∀ q, v2.ownBlock = some q → q < N
 ne : ∀ q, v1.ownBlock = some q → v2.ownBlock ≠ some q
 z : w.heap.size + 3 ≤ N ∧ N < X.heap.size
/-- Between the two. -/
structure RS1 (w : World) (N : Nat) (bx : Array Value) (v1 v2 : Value) (G : List Gp) (C : List Cf) (g1 d1 : Nat) (X : World) : Prop where
 hb : Below w.heap.size w X
 B0 : Has X w.heap.size bx
 R1 : Has X (w.heap.size + 1) #[.slice none 0 0, .slice none 0 0]
 R2 : Has X (w.heap.size + 2) #[.slice none 0 0, .slice none 0 0, .slice none 0 0, .slice none 0 0]
 Q : Has X N #[v1, v2]
 nG : X.ownsRow (w.heap.size + 3) 90 5 (.slice (some ⟨g1, 0, none⟩) (G.length + 2) d1) (G.length + 2) (cellsF Gp.cs G ++ marksG)
 o2 : X.ownsRow (w.heap.size + 3) 93 4 v2 C.length (cellsF Cf.cs C)
 b2 : ∀ q, v2.ownBlock = some q → q < N ∧ q ≠ g1
 z : w.heap.size + 3 ≤ N ∧ N < X.heap.size
 lg : w.heap.size + 3 ≤ g1 ∧ g1 < X.heap.size ∧ g1 ≠ N
/-- Behind both. -/
structure RS2 (w : World) (N : Nat) (bx : Array Value) (v1 v2 : Value) (G : List Gp) (C : List Cf) (g1 d1 g2 d2 : Nat) (X : World) : Prop where
 hb : Below w.heap.size w X
 B0 : Has X w.heap.size bx
 R1 : Has X (w.heap.size + 1) #[.slice none 0 0, .slice none 0 0]
 R2 : Has X (w.heap.size + 2) #[.slice none 0 0, .slice none 0 0, .slice none 0 0, .slice none 0 0]
 Q : Has X N #[v1, v2]
 nG : X.ownsRow (w.heap.size + 3) 90 5 (.slice (some ⟨g1, 0, none⟩) (G.length + 2) d1) (G.length + 2) (cellsF Gp.cs G ++ marksG)
 nC : X.ownsRow (w.heap.size + 3) 93 4 (.slice (some ⟨g2, 0, none⟩) (C.length + 2) d2) (C.length + 2) (cellsF Cf.cs C ++ marksC)
 z : w.heap.size + 3 ≤ N ∧ N < X.heap.size
 lg : w.heap.size + 3 ≤ g1 ∧ g1 < X.heap.size ∧ g1 ≠ N
 lc : w.heap.size + 3 ≤ g2 ∧ g2 < X.heap.size ∧ g2 ≠ N
theorem RS.below {w : World} {N : Nat} {bx : Array Value} {v1 v2 : Value} {G : List Gp} {C : List Cf} {X Y : World} (h : RS w N bx v1 v2 G C X) (hb : Below X.heap.size X Y) : RS w N bx v1 v2 G C Y :=
 ⟨bel_after h.hb h.hb.size hb, h.B0.below hb, h.R1.below hb, h.R2.below hb, h.Q.below hb, own_bel h.o1 hb, own_bel h.o2 hb, h.b1, h.b2, h.ne, h.z.1, Nat.lt_of_lt_of_le h.z.2 hb.size⟩
theorem RS1.below {w : World} {N : Nat} {bx : Array Value} {v1 v2 : Value} {G : List Gp} {C : List Cf} {g1 d1 : Nat} {X Y : World} (h : RS1 w N bx v1 v2 G C g1 d1 X) (hb : Below X.heap.size X Y) : RS1 w N bx v1 v2 G C g1 d1 Y :=
 ⟨bel_after h.hb h.hb.size hb, h.B0.below hb, h.R1.below hb, h.R2.below hb, h.Q.below hb, own_bel h.nG hb, own_bel h.o2 hb, h.b2, ⟨h.z.1, Nat.lt_of_lt_of_le h.z.2 hb.size⟩, h.lg.1, Nat.lt_of_lt_of_le h.lg.2.1 hb.size, h.lg.2.2⟩
/-- Behind a turn of other blocks. -/
theorem RS2.only {w : World} {N : Nat} {bx : Array Value} {v1 v2 : Value} {G : List Gp} {C : List Cf} {g1 d1 g2 d2 r : Nat} {X Y : World} (h : RS2 w N bx v1 v2 G C g1 d1 g2 d2 X) (ho : Only (fun q => q = r) X Y) (h0 : w.heap.size + 3 ≤ r) (h1 : r ≠ N) (h2 : g1 ≠ r) (h3 : g2 ≠ r) : RS2 w N bx v1 v2 G C g1 d1 g2 d2 Y := by
 have z := h.z
 exact ⟨bel_only h.hb ho (Nat.le_refl _) (fun k hk e => by omega), h.B0.only ho (by omega), h.R1.only ho (by omega), h.R2.only ho (by omega), h.Q.only ho (by omega), own_only2 h.nG ho (fun q hq e => by have e' : g1 = q := (by injection hq); omega), own_only2 h.nC ho (fun q hq e => by have e' : g2 = q := (by injection hq); omega), ⟨z.1, Nat.lt_of_lt_of_le z.2 ho.size⟩, ⟨h.lg.1, Nat.lt_of_lt_of_le h.lg.2.1 ho.size, h.lg.2.2⟩, h.lc.1, Nat.lt_of_lt_of_le h.lc.2.1 ho.size, h.lc.2.2⟩
theorem RS2.below {w : World} {N : Nat} {bx : Array Value} {v1 v2 : Value} {G : List Gp} {C : List Cf} {g1 d1 g2 d2 : Nat} {X Y : World} (h : RS2 w N bx v1 v2 G C g1 d1 g2 d2 X) (hb : Below X.heap.size X Y) : RS2 w N bx v1 v2 G C g1 d1 g2 d2 Y :=
 ⟨bel_after h.hb h.hb.size hb, h.B0.below hb, h.R1.below hb, h.R2.below hb, h.Q.below hb, own_bel h.nG hb, own_bel h.nC hb, ⟨h.z.1, Nat.lt_of_lt_of_le h.z.2 hb.size⟩, ⟨h.lg.1, Nat.lt_of_lt_of_le h.lg.2.1 hb.size, h.lg.2.2⟩, h.lc.1, Nat.lt_of_lt_of_le h.lc.2.1 hb.size, h.lc.2.2⟩
/-- The region's own blocks are as they were. -/
structure Kp (N : Nat) (X Y : World) : Prop where
 size : X.heap.size ≤ Y.heap.size
 block : ∀ b, N < b → b < X.heap.size → Y.heap[b]? = X.heap[b]?
theorem Has.kp {N b : Nat} {X Y : World} {vs : Array Value} (h : Has X b vs) (k : Kp N X Y) (hN : N < b) : Has Y b vs := h.blk k.size (k.block b hN h.1)
theorem step_G {w X : World} {N : Nat} {bx : Array Value} {v2 : Value} {G : List Gp} {C : List Cf} {a1 : Option Addr} {c1 : Nat} {ops : Array Oper} {o : Oper} {a : Act} {K : Act → World → Prop} {Q' : Exit → Act → World → Prop} {E : Prop}
  (hR : RS w N bx (.slice a1 G.length c1) v2 G C X) (lG : G.length ≤ 2932031007317) (hgd : o.guard = none) (s x : Operand) (ho : o.op = .call { callee := .builtin .append, args := #[s, x], argTypes := #[22, 22] }) (hs : a.eval s = .slice a1 G.length c1) (b : Nat) (hx : a.eval x = .slice (some ⟨b, 0, none⟩) 2 2) (hM : Has X b marksG.toArray)
  (h : ∀ g1 d1 Y, RS1 w N bx (.slice a1 G.length c1) v2 G C g1 d1 Y → Kp N X Y → (g1 < N ∨ X.heap.size ≤ g1) → K (a.put o.dst (.slice (some ⟨g1, 0, none⟩) (G.length + 2) d1)) Y) :
  if Region.wanted o (yielded ops a.tmps) = true then Oper.wp Tryz.prog o a X K Q' else E := by
 obtain ⟨i44, hi, hi0, hi1, hi2⟩ := info_parts info44
 have z := hR.z
 refine step_append_lies X hgd s x 22 ho (w.heap.size + 3) 90 i44 _ 5 48 Tryz.underlying22 hi hi0 hi1 hi2 rfl (by decide) (.slice a1 G.length c1) G.length (cellsF Gp.cs G) hs hR.o1 ⟨b, 0, none⟩ 2 2 marksG hx rfl (newsOf hM) (all_one rfl) (by decide) (by unfold maxLen; omega) (by omega) (by omega) _ rfl ?_
 intro g1 d1 Y nG hg hat hlt
 have O : Only (fun q => (Value.slice a1 G.length c1).ownBlock = some q) X Y := only_grown (Only.refl _ _) hg (fun k hk => .inl hk)
 have b1 := hR.b1
 have c1' : ∀ q, (Value.slice a1 G.length c1).ownBlock = some q → w.heap.size + 3 ≤ q ∧ q < N := fun q hq => ⟨(own_lt hR.o1 q hq).1, b1 q hq⟩
 have fr : g1 < N ∨ X.heap.size ≤ g1 := hat.imp (fun h => (c1' _ h).2) (fun h => by omega)
 have lg := own_lt nG g1 rfl
 refine h g1 d1 Y ⟨bel_only hR.hb O (Nat.le_refl _) (fun q hq hs => by have := c1' q hs; omega), hR.B0.only O (fun hs => by have := c1' _ hs; omega), hR.R1.only O (fun hs => by have := c1' _ hs; omega), hR.R2.only O (fun hs => by have := c1' _ hs; omega), hR.Q.only O (fun hs => by have := c1' _ hs; omega), nG, own_only2 hR.o2 O (fun q hq hs => hR.ne q hs hq), fun q hq => ⟨hR.b2 q hq, fun e => ?_⟩, ⟨z.1, Nat.lt_of_lt_of_le z.2 O.size⟩, lg.1, lg.2, by omega⟩ ⟨O.size, fun q h1 h2 => O.block q h2 (fun hs => by have := c1' q hs; omega)⟩ fr
 subst e
 rcases hat with h | h
 ·exact hR.ne _ h hq
 ·have := hR.b2 _ hq; omega
theorem step_C {w X : World} {N : Nat} {bx : Array Value} {v1 : Value} {G : List Gp} {C : List Cf} {a2 : Option Addr} {c2 g1 d1 : Nat} {ops : Array Oper} {o : Oper} {a : Act} {K : Act → World → Prop} {Q' : Exit → Act → World → Prop} {E : Prop}
  (hR : RS1 w N bx v1 (.slice a2 C.length c2) G C g1 d1 X) (lC : C.length ≤ 4398046511000) (hgd : o.guard = none) (s x : Operand) (ho : o.op = .call { callee := .builtin .append, args := #[s, x], argTypes := #[23, 23] }) (hs : a.eval s = .slice a2 C.length c2) (b : Nat) (hx : a.eval x = .slice (some ⟨b, 0, none⟩) 2 2) (hM : Has X b marksC.toArray)
  (h : ∀ g2 d2 Y, RS2 w N bx v1 (.slice a2 C.length c2) G C g1 d1 g2 d2 Y → Kp N X Y → (g2 < N ∨ X.heap.size ≤ g2) → K (a.put o.dst (.slice (some ⟨g2, 0, none⟩) (C.length + 2) d2)) Y) :
  if Region.wanted o (yielded ops a.tmps) = true then Oper.wp Tryz.prog o a X K Q' else E := by
 obtain ⟨i47, hi, hi0, hi1, hi2⟩ := info_parts info47
 have z := hR.z
 refine step_append_lies X hgd s x 23 ho (w.heap.size + 3) 93 i47 _ 4 32 Tryz.underlying23 hi hi0 hi1 hi2 rfl (by decide) (.slice a2 C.length c2) C.length (cellsF Cf.cs C) hs hR.o2 ⟨b, 0, none⟩ 2 2 marksC hx rfl (newsOf hM) (all_one rfl) (by decide) (by unfold maxLen; omega) (by omega) (by omega) _ rfl ?_
 intro g2 d2 Y nC hg hat hlt
 have O : Only (fun q => (Value.slice a2 C.length c2).ownBlock = some q) X Y := only_grown (Only.refl _ _) hg (fun k hk => .inl hk)
 have c2' : ∀ q, (Value.slice a2 C.length c2).ownBlock = some q → w.heap.size + 3 ≤ q ∧ q < N ∧ q ≠ g1 := fun q hq => ⟨(own_lt hR.o2 q hq).1, hR.b2 q hq⟩
 have fr : g2 < N ∨ X.heap.size ≤ g2 := hat.imp (fun h => (c2' _ h).2.1) (fun h => by omega)
 have lc := own_lt nC g2 rfl
 have lg := hR.lg
 exact h g2 d2 Y ⟨bel_only hR.hb O (Nat.le_refl _) (fun q hq hs => by have := c2' q hs; omega), hR.B0.only O (fun hs => by have := c2' _ hs; omega), hR.R1.only O (fun hs => by have := c2' _ hs; omega), hR.R2.only O (fun hs => by have := c2' _ hs; omega), hR.Q.only O (fun hs => by have := c2' _ hs; omega), own_only2 hR.nG O (fun q hq hs => by have e : g1 = q := (by injection hq); have := c2' q hs; omega), nC, ⟨z.1, Nat.lt_of_lt_of_le z.2 O.size⟩, ⟨lg.1, Nat.lt_of_lt_of_le lg.2.1 O.size, lg.2.2⟩, lc.1, lc.2, by omega⟩ ⟨O.size, fun q h1 h2 => O.block q h2 (fun hs => by have := c2' q hs; omega)⟩ fr
end Go.Proofs.YtnicolaphmffkaaGreatDoor
