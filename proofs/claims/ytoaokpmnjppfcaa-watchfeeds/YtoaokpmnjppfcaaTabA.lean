import Derived.Test.YtoaokpmnjppfcaaGen
import Derived.ChangeKeysEq
import Derived.Laws.StructEq
import Derived.KernelRfl
namespace Go.Proofs.Ytoaokpmnjppfcaa
open Go.RowKit
set_option linter.unusedVariables false

structure Gp where
  name : ByteArray
  sort : Int
  min : Int
  amber : Int
  lead : Int
structure Cf where
  a : Int
  b : Int
  ab : Int
  ba : Int
def Gp.cs (x : Gp) : List Value := [.string x.name, .int .i64 x.sort, .int .i64 x.min, .int .i64 x.amber, .int .i64 x.lead]
def Cf.cs (x : Cf) : List Value := [.int .i64 x.a, .int .i64 x.b, .int .i64 x.ab, .int .i64 x.ba]
theorem gp_len (x : Gp) : x.cs.length = 5 := rfl
theorem cf_len (x : Cf) : x.cs.length = 4 := rfl
theorem gp_one (x : Gp) : ∀ u ∈ x.cs, u.oneCell' = true := by
  intro u hu; simp [Gp.cs] at hu; rcases hu with rfl | rfl | rfl | rfl | rfl <;> rfl
theorem cf_one (x : Cf) : ∀ u ∈ x.cs, u.oneCell' = true := by
  intro u hu; simp [Cf.cs] at hu; rcases hu with rfl | rfl | rfl | rfl <;> rfl
/-- The intergreen by the first row that names both. -/
def interF : List Cf → Int → Int → Int × Bool
  | [], _, _ => (0, false)
  | c :: cs, a, b => if c.a = a ∧ c.b = b then (c.ab, true) else if c.a = b ∧ c.b = a then (c.ba, true) else interF cs a b
theorem interF_step (C : List Cf) (a b : Int) (k : Nat) (h : k < C.length) : interF (C.drop k) a b = if C[k].a = a ∧ C[k].b = b then (C[k].ab, true) else if C[k].a = b ∧ C[k].b = a then (C[k].ba, true) else interF (C.drop (k + 1)) a b := by
  rw [List.drop_eq_getElem_cons h]; rfl
theorem interF_end (C : List Cf) (a b : Int) (k : Nat) (h : C.length ≤ k) : interF (C.drop k) a b = (0, false) := by
  rw [List.drop_eq_nil_of_le h]; rfl

theorem info3 : (Try.prog.info? 3).map (fun i => (i.zero, i.size, i.bytes)) = some (some (.int .i64 0), 1, 8) := by kernel_rfl
theorem c3 : Try.prog.cellsOf 3 = 1 := by kernel_rfl
theorem belA {w : World} {o1 o2 : Obj} : Below w.heap.size w ((w.alloc o1).alloc o2) := ((Below.refl _ _).alloc (Nat.le_refl _) _).alloc (by simp) _
end Go.Proofs.Ytoaokpmnjppfcaa
