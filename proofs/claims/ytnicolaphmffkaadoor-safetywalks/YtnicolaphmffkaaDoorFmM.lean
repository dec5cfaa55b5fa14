import Derived.Test.YtnicolaphmffkaaDoorPlnA
import Derived.Test.YtnicolaphmffkaaDoorNesM
import Derived.Test.YtnicolaphmffkaaDoorLxC
namespace Go.Proofs.YtnicolaphmffkaaDoor
open Go.RowKit
set_option linter.unusedVariables false

/-- A name that can be looked at. -/
def Sm (s : ByteArray) : Prop := s.size < 4611686018427387904
def nmB (s : ByteArray) : Bool := kindL s.data.toList == 1
def emB (s : ByteArray) : Bool := s.toList.isEmpty
def fNd (x : Nd) : Bool :=
  if x.op = 1 then decide (0 ≤ x.val) && emB x.name
  else if x.op = 2 then (decide (x.val = 0) || decide (x.val = 1)) && emB x.name
  else if x.op = 3 ∨ x.op = 5 ∨ x.op = 6 then decide (x.val = 0) && nmB x.name
  else if x.op = 7 ∨ x.op = 8 ∨ x.op = 9 ∨ x.op = 10 then false
  else decide (x.val = 0) && emB x.name
def fEx (L : List Nd) : Bool := decide (L.length ≤ 256) && (decide (0 ≤ nestF L) && (decide (nestF L ≤ 64) && L.all fNd))
def fSt (x : St) : Bool := decide (x.ix = 0) &&
  (if x.kind = 1 then nmB x.name && fEx x.expr
  else if x.kind = 2 ∨ x.kind = 3 ∨ x.kind = 4 ∨ x.kind = 5 ∨ x.kind = 6 then nmB x.name && decide (x.expr.length = 0)
  else if x.kind = 7 then emB x.name && fEx x.expr
  else if x.kind = 8 ∨ x.kind = 9 then emB x.name && decide (x.expr.length = 0)
  else false)
/-- The ifs as brackets: the open ones, with their elses. -/
def brF : List Bool → List St → Bool
  | bs, [] => decide (bs.length = 0)
  | bs, s :: L => fSt s && (if s.kind = 7 then decide (bs.length < 16) && brF (bs ++ [false]) L
    else if s.kind = 8 then decide (0 < bs.length) && (!(bs.getD (bs.length - 1) true) && brF (bs.set (bs.length - 1) true) L)
    else if s.kind = 9 then decide (0 < bs.length) && brF (bs.take (bs.length - 1)) L
    else brF bs L)
def fNx (x : Nx) : Bool := nmB x.dst && fEx x.cnd
def fSg (x : Sg) : Bool := x.green.all nmB && (x.nexts.all fNx && (brF [] x.enter && (brF [] x.during && brF [] x.leave)))
def eSg (x : Sg) : Bool := decide (x.green.length = 0) && (decide (x.enter.length = 0) && (decide (x.during.length = 0) && (decide (x.leave.length = 0) && decide (x.nexts.length = 0))))
def wiB (x : Dc) : Bool := if x.kind = 3 then nmB x.with_ else emB x.with_
def soB (x : Dc) : Bool := if x.kind = 2 then decide (x.sort = 1) || decide (x.sort = 2) else if x.kind = 4 then decide (x.sort = 0) || decide (x.sort = 1) else decide (x.sort = 0)
def usN (k : Int) : Int := if k = 1 ∨ k = 7 then 1 else if k = 2 then 3 else if k = 3 ∨ k = 4 then 2 else 0
def leN (k : Int) : Int := if k = 1 ∨ k = 7 then -2147483647 else 0
/-- May number i be n? -/
def noB (k i n : Int) : Bool := if i < usN k then decide (leN k ≤ n) else decide (n = 0)
def nuB (x : Dc) : Bool := noB x.kind 0 x.n0 && (noB x.kind 1 x.n1 && noB x.kind 2 x.n2)
def coB (x : Dc) : Bool := if x.kind = 8 then fEx x.expr else decide (x.expr.length = 0)
def sgB (x : Dc) : Bool := if x.kind = 9 then fSg x.sg else eSg x.sg
def fDc (x : Dc) : Bool := (decide (1 ≤ x.kind) && decide (x.kind ≤ 10)) && (nmB x.name && (wiB x && (soB x && (nuB x && (coB x && sgB x)))))
def fPl (x : Pl) : Bool := nmB x.name && x.decls.all fDc
/-- Names that can be looked at, all of them. -/
def SmE (L : List Nd) : Prop := ∀ x ∈ L, Sm x.name
def SmS (L : List St) : Prop := ∀ x ∈ L, Sm x.name ∧ SmE x.expr
def SmN (L : List Nx) : Prop := ∀ x ∈ L, Sm x.dst ∧ SmE x.cnd
def SmG (x : Sg) : Prop := (∀ s ∈ x.green, Sm s) ∧ SmS x.enter ∧ SmS x.during ∧ SmS x.leave ∧ SmN x.nexts
def SmD (x : Dc) : Prop := Sm x.name ∧ Sm x.with_ ∧ SmE x.expr ∧ SmG x.sg
def SmP (x : Pl) : Prop := Sm x.name ∧ ∀ d ∈ x.decls, SmD d
/-- The three tables of words stand. -/
structure Tb (w : World) : Prop where
  wt : Wt w
  kt : Kt w
  st : SgT w
theorem Tb.lo {w : World} (h : Tb w) : 2 < w.heap.size := h.wt.1
theorem Tb.below {w w' : World} (h : Tb w) (hb : Below w.heap.size w w') : Tb w' := ⟨h.wt.below hb h.wt.1, h.kt.below hb h.kt.1, h.st.below hb h.st.1⟩
theorem Tb.alloc {w : World} (h : Tb w) (o : Obj) : Tb (w.alloc o) := h.below ((Below.refl _ _).alloc (Nat.le_refl _) o)
end Go.Proofs.YtnicolaphmffkaaDoor
