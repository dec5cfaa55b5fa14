import Derived.Test.YtfkclbppaakoiaaRoS
namespace Go.Proofs.Ytfkclbppaakoiaa
open Go.RowKit
set_option linter.unusedVariables false


/-- The cells of a list with two marks. -/
theorem mark_cell {w : World} {base e sz m off g cap : Nat} {u : Value} {xs ms : List Value} (h : w.ownsRow base e sz (.slice (some ⟨g, 0, none⟩) (m + 2) cap) (m + 2) (xs ++ ms)) (hl : xs.length = m * sz) (h0 : ms[off]? = some u) : w.cell? ⟨g, m * sz + off, none⟩ = some u := by
  refine own_reads h rfl _ _ ?_
  rw [List.getElem?_append_right (by omega), hl, Nat.add_sub_cancel_left]; exact h0
set_option maxRecDepth 100000 in
set_option maxHeartbeats 4000000 in
theorem kept_any (G : List Gp) (C : List Cf) (w : World) (g1 d1 g2 d2 : Nat) (nG : w.ownsRow 0 44 5 (.slice (some ⟨g1, 0, none⟩) (G.length + 2) d1) (G.length + 2) (cellsF Gp.cs G ++ marksG)) (nC : w.ownsRow 0 47 4 (.slice (some ⟨g2, 0, none⟩) (C.length + 2) d2) (C.length + 2) (cellsF Cf.cs C ++ marksC)) (lG : G.length ≤ 2932031007317) (lC : C.length ≤ 4398046511000) :
    Calls Try.prog 11 #[.agg #[.slice (some ⟨g1, 0, none⟩) (G.length + 2) d1, .slice (some ⟨g2, 0, none⟩) (C.length + 2) d2, .slice none 0 0, .slice none 0 0]] w fun e w' => e = .returned (.bool true) ∧ Below w.heap.size w w' := by
  have e1 := mark_cell (off := 2) nG (cellsF_len gp_len G) rfl
  have e2 := mark_cell (off := 7) nG (cellsF_len gp_len G) rfl
  have e3 := mark_cell (off := 2) nC (cellsF_len cf_len C) rfl
  have e4 := mark_cell (off := 6) nC (cellsF_len cf_len C) rfl
  have z1 := (own_lt nG g1 rfl).2
  have z2 := (own_lt nC g2 rfl).2
  have x1 : (G.length + 1) * 5 + 2 = G.length * 5 + 7 := by omega
  have x3 : (C.length + 1) * 4 + 2 = C.length * 4 + 6 := by omega
  rw [← x1] at e2
  rw [← x3] at e4
  generalize hn : G.length = n at *
  generalize hm : C.length = m at *
  clear nG nC hn hm x1 x3
  have HB : Below w.heap.size w (w.alloc (.cells #[.slice (some ⟨g1, 0, none⟩) (n + 2) d1, .slice (some ⟨g2, 0, none⟩) (m + 2) d2, .slice none 0 0, .slice none 0 0] 29)) := belN1
  go_enter Try.func11, Try.ntmps11
  go_wp2
  go_loop [5] (fun t => t = .int .i64 0) (fun _ => 0)
  case atStart => exact rfl
  case round =>
    obtain rfl := hrel
    go_wp2
    go_ret
    exact ⟨rfl, HB⟩
end Go.Proofs.Ytfkclbppaakoiaa
