import Derived.Test.YtcehnibfmhbeiaaDoorRows
import Derived.WalkKit
import Derived.WalkSpells
import Derived.Laws.Tables
namespace Go.Proofs.YtcehnibfmhbeiaaDoor
open Go.RowKit

theorem setRow_alloc (w : World) (old cs : Array Value) (t : TypeId) : (w.alloc (.cells old t)).setRow w.heap.size cs = w.alloc (.cells cs t) := by
  unfold World.setRow World.alloc
  congr 1
  apply Array.ext
  · simp
  · intro k h1 h2
    simp only [Array.getElem_modify]
    by_cases hk : w.heap.size = k
    · subst hk; simp
    · have : k < w.heap.size := by simp at h2; omega
      simp [hk, Array.getElem_push, this]

/-- A local table: built, a block for it, the store of all its cells: one step. -/
theorem wpList_table {P : Program} {ops : Array Oper} {rest : List Oper} {o1 o2 o3 : Oper} {a : Act} {w : World} {Q : Exit → Act → World → Prop}
    (g1 : o1.guard = none) (g2 : o2.guard = none) (g3 : o3.guard = none) (t : TypeId) (parts : Array (Nat × Operand)) (x y : Operand)
    (h1 : o1.op = .build t parts) (h2 : o2.op = .alloc t) (h3 : o3.op = .store t x y) (cells zeros : Array Value)
    (hb : P.built t (parts.map fun (i, x) => (i, a.eval x)).toList = some cells)
    (hr : ∀ w : World, (Instr.alloc t true (.tuple #[])).run P w = .ok (.pointer (some ⟨w.heap.size, 0, none⟩)) (w.alloc (.cells zeros t)))
    (hx : ((a.put o1.dst (.agg cells)).put o2.dst (.pointer (some ⟨w.heap.size, 0, none⟩))).eval x = .pointer (some ⟨w.heap.size, 0, none⟩))
    (hy : ((a.put o1.dst (.agg cells)).put o2.dst (.pointer (some ⟨w.heap.size, 0, none⟩))).eval y = .agg cells)
    (hi : (P.info? t).map (·.size) = some cells.size) (hz : zeros.size = cells.size) (hc : cells.all (·.oneCell') = true)
    (h : wpList P ops Q rest (((a.put o1.dst (.agg cells)).put o2.dst (.pointer (some ⟨w.heap.size, 0, none⟩))).put o3.dst undef) (w.alloc (.cells cells t))) :
    wpList P ops Q (o1 :: o2 :: o3 :: rest) a w := by
  refine wpList_build g1 t parts h1 (by rw [hb]; rfl) ?_
  rw [hb]
  refine wpList_plain g2 fun K hK => ?_
  unfold Oper.wp
  simp only [execOp, h2, Sem.run_bind, hr, Result.andThen_ok]
  refine hK _ _ ?_
  refine wpList_store_row g3 t x y h3 w.heap.size cells hx hy t zeros (MapKept.heap_alloc w _).1 hi hz hc ?_
  rw [setRow_alloc]
  exact h

def tbl46 : Array Value := #[.nilFunc, .nilFunc, .nilFunc, .nilFunc, .nilFunc, .nilFunc, .nilFunc, .nilFunc, .nilFunc, .nilFunc, .nilFunc, .nilFunc, .nilFunc, .nilFunc, .nilFunc, .nilFunc, .nilFunc, .nilFunc, .nilFunc, .nilFunc, .nilFunc, .nilFunc, .nilFunc, .nilFunc, .nilFunc, .nilFunc, .nilFunc, .nilFunc, .nilFunc, .nilFunc, .func (.func 27) #[] #[], .func (.func 28) #[] #[], .func (.func 29) #[] #[], .func (.func 30) #[] #[], .func (.func 31) #[] #[], .func (.func 32) #[] #[], .func (.func 33) #[] #[], .nilFunc, .nilFunc, .nilFunc, .func (.func 34) #[] #[], .func (.func 35) #[] #[], .func (.func 36) #[] #[], .func (.func 37) #[] #[], .func (.func 38) #[] #[], .func (.func 39) #[] #[], .nilFunc, .nilFunc, .nilFunc, .nilFunc, .func (.func 40) #[] #[], .func (.func 41) #[] #[]]
def zer46 : Array Value := #[.nilFunc, .nilFunc, .nilFunc, .nilFunc, .nilFunc, .nilFunc, .nilFunc, .nilFunc, .nilFunc, .nilFunc, .nilFunc, .nilFunc, .nilFunc, .nilFunc, .nilFunc, .nilFunc, .nilFunc, .nilFunc, .nilFunc, .nilFunc, .nilFunc, .nilFunc, .nilFunc, .nilFunc, .nilFunc, .nilFunc, .nilFunc, .nilFunc, .nilFunc, .nilFunc, .nilFunc, .nilFunc, .nilFunc, .nilFunc, .nilFunc, .nilFunc, .nilFunc, .nilFunc, .nilFunc, .nilFunc, .nilFunc, .nilFunc, .nilFunc, .nilFunc, .nilFunc, .nilFunc, .nilFunc, .nilFunc, .nilFunc, .nilFunc, .nilFunc, .nilFunc]
def tbl42 : Array Value := #[.nilFunc, .nilFunc, .nilFunc, .nilFunc, .nilFunc, .nilFunc, .nilFunc, .nilFunc, .nilFunc, .nilFunc, .nilFunc, .nilFunc, .nilFunc, .nilFunc, .nilFunc, .nilFunc, .nilFunc, .nilFunc, .nilFunc, .nilFunc, .func (.func 22) #[] #[], .func (.func 23) #[] #[], .func (.func 24) #[] #[]]
def zer42 : Array Value := #[.nilFunc, .nilFunc, .nilFunc, .nilFunc, .nilFunc, .nilFunc, .nilFunc, .nilFunc, .nilFunc, .nilFunc, .nilFunc, .nilFunc, .nilFunc, .nilFunc, .nilFunc, .nilFunc, .nilFunc, .nilFunc, .nilFunc, .nilFunc, .nilFunc, .nilFunc, .nilFunc]
theorem info46 : (Tryd.prog.info? 46).map (·.size) = some 52 := by kernel_rfl
theorem info42 : (Tryd.prog.info? 42).map (·.size) = some 23 := by kernel_rfl
theorem alloc46 (w : World) : (Instr.alloc 46 true (.tuple #[])).run Tryd.prog w = .ok (.pointer (some ⟨w.heap.size, 0, none⟩)) (w.alloc (.cells zer46 46)) := by kernel_rfl
theorem alloc42 (w : World) : (Instr.alloc 42 true (.tuple #[])).run Tryd.prog w = .ok (.pointer (some ⟨w.heap.size, 0, none⟩)) (w.alloc (.cells zer42 42)) := by kernel_rfl
theorem built46 (a : Act) : Tryd.prog.built 46 ((#[(30, Operand.func 27), (31, Operand.func 28), (32, Operand.func 29), (33, Operand.func 30), (34, Operand.func 31), (35, Operand.func 32), (36, Operand.func 33), (40, Operand.func 34), (41, Operand.func 35), (42, Operand.func 36), (43, Operand.func 37), (44, Operand.func 38), (45, Operand.func 39), (50, Operand.func 40), (51, Operand.func 41)] : Array (Nat × Operand)).map fun (i, x) => (i, a.eval x)).toList = some tbl46 := by kernel_rfl
theorem built42 (a : Act) : Tryd.prog.built 42 ((#[(20, Operand.func 22), (21, Operand.func 23), (22, Operand.func 24)] : Array (Nat × Operand)).map fun (i, x) => (i, a.eval x)).toList = some tbl42 := by kernel_rfl
end Go.Proofs.YtcehnibfmhbeiaaDoor
