import Derived.Test.YthflpnahifpdnaaSpG
import Derived.Test.YthflpnahifpdnaaRmA
import Derived.Laws.OwnMore
import Derived.Laws.MakeOwn
namespace Go.Proofs.Ythflpnahifpdnaa
open Go.RowKit
set_option linter.unusedVariables false


def v32 (n : Nat) (f : Nat → Int) : List Value := (List.range n).map fun k => .int .i32 (f k)
theorem v32_len (n : Nat) (f : Nat → Int) : (v32 n f).length = n := by simp [v32]
theorem v32_get {n : Nat} {f : Nat → Int} {k : Nat} (h : k < n) : (v32 n f)[k]? = some (.int .i32 (f k)) := by simp [v32, h]
theorem v32_ext {n : Nat} {f g : Nat → Int} (h : ∀ k, k < n → f k = g k) : v32 n f = v32 n g := by
  unfold v32
  apply List.map_congr_left
  intro k hk
  rw [h k (by simpa using hk)]
theorem v32_set {n : Nat} {f : Nat → Int} {k : Nat} {v : Int} (h : k < n) : setAll (v32 n f) k [.int .i32 v] = v32 n (fun j => if j = k then v else f j) := by
  apply List.ext_getElem?
  intro i
  by_cases hi : i < n
  · rw [v32_get hi]
    by_cases e : i = k
    · subst e
      have := setAll_in [.int .i32 v] (v32 n f) i 0 (by simp [v32_len]; omega) (by simp)
      simpa using this
    · rw [setAll_out [.int .i32 v] (v32 n f) k i (by simp; omega), v32_get hi, if_neg e]
  · rw [List.getElem?_eq_none (by rw [setAll_len, v32_len]; omega), List.getElem?_eq_none (by rw [v32_len]; omega)]
theorem v32_zero (n : Nat) : List.replicate n (.int .i32 0) = v32 n (fun _ => 0) := by
  apply List.ext_getElem?
  intro i
  by_cases hi : i < n
  · rw [v32_get hi]; simp [hi]
  · rw [List.getElem?_eq_none (by simp; omega), List.getElem?_eq_none (by rw [v32_len]; omega)]
theorem valR_zero (n : Nat) : List.replicate n (.int .i64 0) = valR n (fun _ => 0) := by
  apply List.ext_getElem?
  intro i
  by_cases hi : i < n
  · rw [valR_get hi]; simp [hi]
  · rw [List.getElem?_eq_none (by simp; omega), List.getElem?_eq_none (by rw [valR_len]; omega)]
theorem step_make {P : Program} {w : World} {ops : Array Oper} {o : Oper} {a : Act} {K : Act → World → Prop} {Q : Exit → Act → World → Prop} {E : Prop} (hgd : o.guard = none) (s : Operand) (t : TypeId) (ho : o.op = .makeSlice t s s)
    (e : TypeId) (i : TypeInfo) (z : Value) (ht : P.underlying t = some (.slice e)) (hi : P.info? e = some i) (hz : i.zero = some z) (hsize : i.size = 1) (hz1 : z.cells = #[z]) (n : Nat) (hs : a.eval s = .int .i64 (n : Int)) (hby : i.bytes * n ≤ 281474976710656) (h63 : n ≤ maxLen) (base : Nat) (hbase : base ≤ w.heap.size)
    (h : ∀ w', w'.ownsRow base e 1 (.slice (some ⟨w.heap.size, 0, none⟩) n n) n (List.replicate n z) → Below w.heap.size w w' → K (a.put o.dst (.slice (some ⟨w.heap.size, 0, none⟩) n n)) w') :
    if Region.wanted o (yielded ops a.tmps) = true then Oper.wp P o a w K Q else E := by
  have hw : Region.wanted o (yielded ops a.tmps) = true := by simp [Region.wanted, hgd]
  rw [if_pos hw]
  obtain ⟨w', hr, h2, h3⟩ := run_make_full (P := P) w base t e i z 1 ht hi hz hsize .i64 .i64 n hby h63 hbase
  rw [hz1, Nat.mul_one, toList_madeCells_one] at h2
  unfold Oper.wp execOp
  simp only [ho, Sem.run_bind, Sem.run_pure, Result.andThen_ok, hs, hr]
  exact h w' h2 (grown_none h3)
theorem info21m : (Try.prog.info? 21).map (fun i => (i.zero, i.size, i.bytes)) = some (some (.int .i32 0), 1, 4) := by kernel_rfl
theorem info3m : (Try.prog.info? 3).map (fun i => (i.zero, i.size, i.bytes)) = some (some (.int .i64 0), 1, 8) := by kernel_rfl
end Go.Proofs.Ythflpnahifpdnaa
