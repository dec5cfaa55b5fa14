import Derived.Test.YtddphepgcihdbaaGen
namespace Go.Proofs.Ytddphepgcihdbaa
open Go.RowKit
set_option linter.unusedVariables false
set_option linter.unusedSimpArgs false

structure Rw where
  m : Int
  s : Int
structure Dk where
  name : ByteArray
  rv : Value
  rows : List Rw
structure Sn where
  fr : Int
  till : Int
  w0 : Int
  w1 : Int
  w2 : Int
  w3 : Int
  w4 : Int
  w5 : Int
  w6 : Int
structure Ex where
  day : Int
  kind : Int
structure Sh where
  m : Int
  plus : Int
/-- A timetable. -/
structure Tt where
  nm : ByteArray
  D : List Dk
  w0 : Int
  w1 : Int
  w2 : Int
  w3 : Int
  w4 : Int
  w5 : Int
  w6 : Int
  S : List Sn
  X : List Ex
  H : List Sh
def Rw.cs (x : Rw) : List Value := [.int .i64 x.m, .int .i64 x.s]
def Dk.cs (x : Dk) : List Value := [.string x.name, x.rv]
def Sn.cs (x : Sn) : List Value := [.int .i64 x.fr, .int .i64 x.till, .int .i64 x.w0, .int .i64 x.w1, .int .i64 x.w2, .int .i64 x.w3, .int .i64 x.w4, .int .i64 x.w5, .int .i64 x.w6]
def Ex.cs (x : Ex) : List Value := [.int .i64 x.day, .int .i64 x.kind]
def Sh.cs (x : Sh) : List Value := [.int .i64 x.m, .int .i64 x.plus]
def Int.cs (x : Int) : List Value := [.int .i64 x]
def letB (c : UInt8) : Bool := (decide (97 ≤ c.toNat) && decide (c.toNat ≤ 122)) || (decide (65 ≤ c.toNat) && decide (c.toNat ≤ 90))
def digB (c : UInt8) : Bool := decide (48 ≤ c.toNat) && decide (c.toNat ≤ 57)
/-- May a byte stand in a name? -/
def nchB (c : UInt8) : Bool := letB c || (digB c || (decide (c.toNat = 95) || decide (c.toNat = 45)))
def nmB (s : ByteArray) : Bool := decide (0 < s.size) && (decide (s.size ≤ 32) && ((s.data.toList.take 1).all letB && s.data.toList.all nchB))
def inB (n lo hi : Int) : Bool := decide (lo ≤ n) && decide (n ≤ hi)
def rwB (x : Rw) : Bool := inB x.m 0 1439 && inB x.s (-1) 7
def dayB (n : Int) : Bool := inB n 0 146096
/-- Does each number stand above the one ahead of it? -/
def riB : List Int → Bool
  | a :: b :: r => decide (a < b) && riB (b :: r)
  | _ => true
def Tt.nmsB (t : Tt) : Bool := nmB t.nm && t.D.all fun x => nmB x.name
def Tt.limB (t : Tt) : Bool := (decide (t.D.length ≤ 16) && (decide (t.S.length ≤ 16) && (decide (t.X.length ≤ 64) && decide (t.H.length ≤ 16)))) && t.D.all fun x => decide (x.rows.length ≤ 48)
def Tt.rowB (t : Tt) : Bool := decide (0 < t.D.length) && t.D.all fun x => decide (0 < x.rows.length)
def Tt.oneB (t : Tt) : Bool := decide (t.D.map (·.name)).Nodup && decide (t.X.map (·.day)).Nodup
def Tt.clkB (t : Tt) : Bool := (t.D.all fun x => x.rows.all rwB) && t.H.all fun x => inB x.plus (-720) 840
def snB (x : Sn) : Bool := dayB x.fr && (dayB x.till && decide (x.fr ≤ x.till))
def Tt.datB (t : Tt) : Bool := t.S.all snB && ((t.X.all fun x => dayB x.day) && t.H.all fun x => inB x.m 0 210379679)
def kdB (n : Nat) (k : Int) : Bool := decide (0 ≤ k) && decide (k < (n : Int))
def Sn.wk (x : Sn) : List Int := [x.w0, x.w1, x.w2, x.w3, x.w4, x.w5, x.w6]
def Tt.wk (x : Tt) : List Int := [x.w0, x.w1, x.w2, x.w3, x.w4, x.w5, x.w6]
def Tt.kinB (t : Tt) : Bool := t.wk.all (kdB t.D.length) && ((t.S.all fun x => x.wk.all (kdB t.D.length)) && t.X.all fun x => kdB t.D.length x.kind)
def Tt.ordB (t : Tt) : Bool := (t.D.all fun x => riB (x.rows.map (·.m))) && riB (t.H.map (·.m))
/-- The first error of a timetable, 0 if it is sound. -/
def Tt.err (t : Tt) : Int := if t.nmsB = true then (if t.limB = true then (if t.rowB = true then (if t.oneB = true then (if t.clkB = true then (if t.datB = true then (if t.kinB = true then (if t.ordB = true then 0 else 186) else 184) else 182) else 183) else 185) else 188) else 187) else 181
/-- What an IndexFunc answers. -/
def IxP (e : Ending) (b : Bool) : Prop := ∃ z : Int, e = .returned (.int .i64 z) ∧ decide (0 ≤ z) = !b
/-- A timetable as it is read. -/
structure TR (w : World) (t : Tt) (vD vS vX vH : Value) : Prop where
  d : Fl 2 Dk.cs w vD t.D
  r : ∀ x ∈ t.D, Fl 2 Rw.cs w x.rv x.rows
  s : Fl 9 Sn.cs w vS t.S
  x : Fl 2 Ex.cs w vX t.X
  h : Fl 2 Sh.cs w vH t.H
  dl : t.D.length ≤ 3518437208781
  rl : ∀ x ∈ t.D, x.rows.length ≤ 8796093021952
  sl : t.S.length ≤ 1954687338211
  xl : t.X.length ≤ 8796093021952
  hl : t.H.length ≤ 8796093021952
  nml : t.nm.size ≤ 140737488355328
  ndl : ∀ x ∈ t.D, x.name.size ≤ 140737488355328
  xw : ∀ x ∈ t.X, (Lit.int .i64 x.day).wf = true
theorem TR.below {w w' : World} {t : Tt} {vD vS vX vH : Value} (h : TR w t vD vS vX vH) (hb : Below w.heap.size w w') : TR w' t vD vS vX vH :=
  ⟨h.d.below hb, fun x hx => (h.r x hx).below hb, h.s.below hb, h.x.below hb, h.h.below hb, h.dl, h.rl, h.sl, h.xl, h.hl, h.nml, h.ndl, h.xw⟩
theorem all_drop {α : Type} (p : α → Bool) (L : List α) (k : Nat) (h : k < L.length) : (L.drop k).all p = (p L[k] && (L.drop (k + 1)).all p) := by
  rw [List.drop_eq_getElem_cons h]; rfl
theorem all_drop_end {α : Type} (p : α → Bool) (L : List α) : (L.drop L.length).all p = true := by simp
theorem bel1 {w : World} {o : Obj} : Below w.heap.size w (w.alloc o) := (Below.refl _ _).alloc (Nat.le_refl _) _
theorem belT {w w1 w2 : World} (h1 : Below w.heap.size w w1) (h2 : Below w1.heap.size w1 w2) : Below w.heap.size w w2 := bel_after h1 h1.size h2
end Go.Proofs.Ytddphepgcihdbaa
