import Derived.Test.YtoaokpmnjppfcaaHdA
import Derived.Test.YtoaokpmnjppfcaaInR
namespace Go.Proofs.Ytoaokpmnjppfcaa
open Go.RowKit
set_option linter.unusedVariables false

/-- An alarm. -/
structure Al where
  k : Int
  t : Int
  a : Int
  b : Int
deriving DecidableEq
/-- A lamp: its letter, how long, from which tick on it may be behind its green. -/
structure Lm where
  ch : Int
  lo : Int
  fr : Int
/-- A group as the monitor keeps it. -/
structure Gr where
  n : Int
  mi : Int
  am : Int
  le : Int
/-- A lamp's way from one tick to the next. -/
structure Tn where
  t : Int
  was : Lm
  now : Lm
def Al.cs (x : Al) : List Value := [.int .i64 x.k, .int .i64 x.t, .int .i64 x.a, .int .i64 x.b]
def Lm.cs (x : Lm) : List Value := [.int .u8 x.ch, .int .i64 x.lo, .int .i64 x.fr]
def Gr.cs (x : Gr) : List Value := [.int .i64 x.n, .int .i64 x.mi, .int .i64 x.am, .int .i64 x.le]
def Tn.cs (x : Tn) : List Value := [.int .i64 x.t, .int .u8 x.was.ch, .int .i64 x.was.lo, .int .i64 x.was.fr, .int .u8 x.now.ch, .int .i64 x.now.lo, .int .i64 x.now.fr]
theorem al_len (x : Al) : x.cs.length = 4 := rfl
theorem lm_len (x : Lm) : x.cs.length = 3 := rfl
theorem gr_len (x : Gr) : x.cs.length = 4 := rfl
theorem tn_len (x : Tn) : x.cs.length = 7 := rfl
theorem al_one (x : Al) : ∀ u ∈ x.cs, u.oneCell' = true := by
  intro u hu; simp [Al.cs] at hu; rcases hu with rfl | rfl | rfl | rfl <;> rfl
theorem lm_one (x : Lm) : ∀ u ∈ x.cs, u.oneCell' = true := by
  intro u hu; simp [Lm.cs] at hu; rcases hu with rfl | rfl | rfl <;> rfl
theorem gr_one (x : Gr) : ∀ u ∈ x.cs, u.oneCell' = true := by
  intro u hu; simp [Gr.cs] at hu; rcases hu with rfl | rfl | rfl | rfl <;> rfl
theorem tn_one (x : Tn) : ∀ u ∈ x.cs, u.oneCell' = true := by
  intro u hu; simp [Tn.cs] at hu; rcases hu with rfl | rfl | rfl | rfl | rfl | rfl | rfl <;> rfl
def al0 : Al := ⟨0, 0, 0, 0⟩
/-- The first number that is not 0. -/
def orL : List Int → Int
  | [] => 0
  | x :: r => if x = 0 then orL r else x
/-- How two alarms stand to one another. -/
def inoF (a b : Al) : Int := orL [cmpI a.t b.t, cmpI a.k b.k, cmpI a.a b.a, cmpI a.b b.b]
/-- What is the first of two. -/
def rsF (x a : Al) : Al := if x.k = 0 ∨ inoF a x < 0 then a else x
def letB (c : Int) : Bool := decide (c = 114) || (decide (c = 108) || (decide (c = 103) || decide (c = 97)))
def awB (l : Lm) : Bool := letB l.ch && !decide (l.ch = 114)
def lvB (t : Tn) : Bool := decide (t.was.ch = 114) && !decide (t.now.ch = 114)
def shB (t : Tn) (c n : Int) : Bool := decide (t.was.ch = c) && (!decide (t.now.ch = c) && decide (t.was.lo < n))
def ovB (t : Tn) (c n : Int) : Bool := decide (t.now.ch = c) && decide (t.now.lo = n + 1)
def mfB (g : Gr) (p c : Int) : Bool :=
  if p = 114 then decide (c = 114) || (decide (c = 108) && decide (0 < g.le) || decide (c = 103) && decide (g.le = 0))
  else if p = 108 then decide (c = 108) || decide (c = 103)
  else if p = 103 then decide (c = 103) || (decide (c = 97) && decide (0 < g.am) || decide (c = 114) && decide (g.am = 0))
  else decide (c = 97) || decide (c = 114)
def shF (l : Lm) (t c : Int) : Lm := ⟨c, if c = l.ch then l.lo + 1 else 1, if c = 103 then t + 1 else l.fr⟩
/-- The kind of an alarm of one that leaves red too early. -/
def erF (foe t : Tn) (n : Int) : Int := if lvB t = false ∨ n ≤ t.t - foe.was.fr then 0 else if foe.was.fr = 0 then 2 else 8
/-- An alarm that is raised where something is wrong. -/
def put (x : Al) (wrong : Bool) (a : Al) : Al := if wrong then rsF x a else x
/-- The first alarm behind a look at a group. -/
def lkF (x : Al) (g : Gr) (t : Tn) : Al :=
  put (put (put (put (put x (decide (t.t = 0) && !decide (t.now.ch = 114)) ⟨2, t.t, g.n, -1⟩)
    (decide (0 < t.t) && !mfB g t.was.ch t.now.ch) ⟨3, t.t, g.n, -1⟩)
    (shB t 97 g.am || ovB t 97 g.am) ⟨4, t.t, g.n, -1⟩)
    (shB t 108 g.le || ovB t 108 g.le) ⟨5, t.t, g.n, -1⟩)
    (shB t 103 g.mi) ⟨6, t.t, g.n, -1⟩
/-- .. and at a pair. -/
def prF (x : Al) (c : Cf) (a b : Tn) : Al :=
  put (put (put x (awB a.now && (awB b.now && !(awB a.was && awB b.was))) ⟨7, a.t, c.a, c.b⟩)
    (!decide (erF a b c.ab = 0)) ⟨erF a b c.ab, a.t, c.a, c.b⟩)
    (!decide (erF b a c.ba = 0)) ⟨erF b a c.ba, a.t, c.b, c.a⟩
end Go.Proofs.Ytoaokpmnjppfcaa
