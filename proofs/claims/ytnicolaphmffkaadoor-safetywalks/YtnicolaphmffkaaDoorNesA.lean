import Derived.Test.YtnicolaphmffkaaDoorHas
namespace Go.Proofs.YtnicolaphmffkaaDoor
open Go.RowKit
set_option linter.unusedVariables false

/-- How many operands. -/
def arF (op : Int) : Int := if 1 ≤ op ∧ op ≤ 10 then 0 else if 20 ≤ op ∧ op ≤ 22 then 1 else if 30 ≤ op ∧ op ≤ 36 ∨ 40 ≤ op ∧ op ≤ 45 ∨ op = 50 ∨ op = 51 then 2 else -1
/-- The level. -/
def lvF (op : Int) : Int := if op = 51 then 1 else if op = 50 then 2 else if op = 21 then 3 else if 40 ≤ op ∧ op ≤ 45 then 4 else if op = 30 ∨ op = 31 then 5 else if 32 ≤ op ∧ op ≤ 34 then 6 else if op = 20 then 7 else 8
/-- What the first operand is asked for, and the second. -/
def akF (op : Int) : Int := if op = 51 then 1 else if op = 50 then 2 else if op = 21 then 3 else if 40 ≤ op ∧ op ≤ 45 then 5 else if op = 30 ∨ op = 31 then 5 else if 32 ≤ op ∧ op ≤ 34 then 6 else if op = 20 then 7 else 1
def akS (op : Int) : Int := if op = 51 then 2 else if op = 50 then 3 else if op = 21 then 3 else if 40 ≤ op ∧ op ≤ 45 then 5 else if op = 30 ∨ op = 31 then 6 else if 32 ≤ op ∧ op ≤ 34 then 7 else if op = 20 then 7 else 1
/-- Does it open something? -/
def opF (op : Int) : Bool := decide (20 ≤ op ∧ op ≤ 22 ∨ op = 35 ∨ op = 36)


theorem ops_cases (op : Int) : (op = 1 ∨ op = 2 ∨ op = 3 ∨ op = 4 ∨ op = 5 ∨ op = 6 ∨ op = 7 ∨ op = 8 ∨ op = 9 ∨ op = 10 ∨ op = 20 ∨ op = 21 ∨ op = 22 ∨ op = 30 ∨ op = 31 ∨ op = 32 ∨ op = 33 ∨ op = 34 ∨ op = 35 ∨ op = 36 ∨ op = 40 ∨ op = 41 ∨ op = 42 ∨ op = 43 ∨ op = 44 ∨ op = 45 ∨ op = 50 ∨ op = 51) ∨ arF op = -1 := by
  unfold arF
  split
  · left; omega
  · split
    · left; omega
    · split
      · left; omega
      · right; rfl

set_option maxHeartbeats 4000000 in
theorem shape_any (op : Int) (w : World) (h : arF op ≠ -1) :
    Calls Tryd.prog 67 #[.int .i64 op] w fun e w' => (∃ y0 y1, e = .returned (.tuple #[.agg #[.int .i64 (arF op), .int .i64 (lvF op), .bool (opF op), .int .i64 y0, .int .i64 y1], .bool true]) ∧ (1 ≤ arF op → y0 = akF op) ∧ (2 ≤ arF op → y1 = akS op)) ∧ Below w.heap.size w w' := by
  rcases (ops_cases op).resolve_right h with h | h | h | h | h | h | h | h | h | h | h | h | h | h | h | h | h | h | h | h | h | h | h | h | h | h | h | h
  all_goals
    subst h
    go_enter Tryd.func67, Tryd.ntmps67
    go_wp2
    refine bodyPost_ret (v := _) (by simp [results, Tryd.results67, go_sem]; rfl) rfl ?_
    refine ⟨⟨_, _, rfl, ?_, ?_⟩, ?_⟩
    · first | exact fun _ => rfl | exact fun hx => absurd hx (by decide)
    · first | exact fun _ => rfl | exact fun hx => absurd hx (by decide)
    · exact (Below.refl _ _).alloc (Nat.le_refl _) _

set_option maxHeartbeats 4000000 in
theorem shape_none (op : Int) (w : World) (h : arF op = -1) :
    Calls Tryd.prog 67 #[.int .i64 op] w fun e w' => e = .returned (.tuple #[.agg #[.int .i64 0, .int .i64 0, .bool false, .int .i64 0, .int .i64 0], .bool false]) ∧ Below w.heap.size w w' := by
  have hn : ∀ k : Int, arF k ≠ -1 → (op == k) = false := by
    intro k hk
    simp only [beq_eq_false_iff_ne]
    intro e; exact hk (by rw [← e]; exact h)
  have n1 := hn 1 (by decide)
  have n2 := hn 2 (by decide)
  have n3 := hn 3 (by decide)
  have n4 := hn 4 (by decide)
  have n5 := hn 5 (by decide)
  have n6 := hn 6 (by decide)
  have n7 := hn 7 (by decide)
  have n8 := hn 8 (by decide)
  have n9 := hn 9 (by decide)
  have n10 := hn 10 (by decide)
  have n20 := hn 20 (by decide)
  have n21 := hn 21 (by decide)
  have n22 := hn 22 (by decide)
  have n30 := hn 30 (by decide)
  have n31 := hn 31 (by decide)
  have n32 := hn 32 (by decide)
  have n33 := hn 33 (by decide)
  have n34 := hn 34 (by decide)
  have n35 := hn 35 (by decide)
  have n36 := hn 36 (by decide)
  have n40 := hn 40 (by decide)
  have n41 := hn 41 (by decide)
  have n42 := hn 42 (by decide)
  have n43 := hn 43 (by decide)
  have n44 := hn 44 (by decide)
  have n45 := hn 45 (by decide)
  have n50 := hn 50 (by decide)
  have n51 := hn 51 (by decide)
  clear hn h
  go_enter Tryd.func67, Tryd.ntmps67
  go_wp2
  refine bodyPost_ret (v := _) (by simp [results, Tryd.results67, go_sem]; rfl) rfl ?_
  exact ⟨rfl, (Below.refl _ _).alloc (Nat.le_refl _) _⟩

set_option maxHeartbeats 1000000 in
theorem refArity_any (op : Int) (w : World) : Calls Tryd.prog 55 #[.int .i64 op] w fun e w' => e = .returned (.int .i64 (arF op)) ∧ w' = w := by
  have hcs : op < 1 ∨ (1 ≤ op ∧ op ≤ 10) ∨ (10 < op ∧ op < 20) ∨ (20 ≤ op ∧ op ≤ 22) ∨ (22 < op ∧ op < 30) ∨ (30 ≤ op ∧ op ≤ 36) ∨ (36 < op ∧ op < 40) ∨ (40 ≤ op ∧ op ≤ 45) ∨ (45 < op ∧ op < 50) ∨ op = 50 ∨ op = 51 ∨ 51 < op := by omega
  rcases hcs with h | ⟨h, h'⟩ | ⟨h, h'⟩ | ⟨h, h'⟩ | ⟨h, h'⟩ | ⟨h, h'⟩ | ⟨h, h'⟩ | ⟨h, h'⟩ | ⟨h, h'⟩ | h | h | h
  all_goals
    first | subst h | (have h50 : (op == 50) = false := by simp; omega)
    try (have h51 : (op == 51) = false := by simp; omega)
    go_enter Tryd.func55, Tryd.ntmps55
    go_wp2
    go_ret
    exact ⟨ret_int (by unfold arF; split <;> (try split) <;> (try split) <;> first | rfl | omega), rfl⟩

theorem lv_cases (op : Int) : (op = 51 ∨ op = 50 ∨ op = 21 ∨ op = 40 ∨ op = 41 ∨ op = 42 ∨ op = 43 ∨ op = 44 ∨ op = 45 ∨ op = 30 ∨ op = 31 ∨ op = 32 ∨ op = 33 ∨ op = 34 ∨ op = 20) ∨ ((op ≠ 51 ∧ op ≠ 50 ∧ op ≠ 21 ∧ op ≠ 40 ∧ op ≠ 41 ∧ op ≠ 42 ∧ op ≠ 43 ∧ op ≠ 44 ∧ op ≠ 45 ∧ op ≠ 30 ∧ op ≠ 31 ∧ op ≠ 32 ∧ op ≠ 33 ∧ op ≠ 34 ∧ op ≠ 20) ∧ lvF op = 8 ∧ akF op = 1 ∧ akS op = 1) := by
  by_cases h : op = 51 ∨ op = 50 ∨ op = 21 ∨ op = 40 ∨ op = 41 ∨ op = 42 ∨ op = 43 ∨ op = 44 ∨ op = 45 ∨ op = 30 ∨ op = 31 ∨ op = 32 ∨ op = 33 ∨ op = 34 ∨ op = 20
  · exact .inl h
  · refine .inr ⟨by omega, ?_, ?_, ?_⟩
    · unfold lvF; repeat' (first | rfl | (rw [if_neg (by omega)]))
    · unfold akF; repeat' (first | rfl | (rw [if_neg (by omega)]))
    · unfold akS; repeat' (first | rfl | (rw [if_neg (by omega)]))

set_option maxHeartbeats 2000000 in
theorem level_any (op : Int) (w : World) : Calls Tryd.prog 58 #[.int .i64 op] w fun e w' => e = .returned (.int .i64 (lvF op)) ∧ w' = w := by
  rcases lv_cases op with h | ⟨⟨h1, h2, h3, h4, h5, h6, h7, h8, h9, h10, h11, h12, h13, h14, h15⟩, e, _, _⟩
  · rcases h with h | h | h | h | h | h | h | h | h | h | h | h | h | h | h
    all_goals
      subst h
      go_enter Tryd.func58, Tryd.ntmps58
      go_wp2
      go_ret
      exact ⟨rfl, rfl⟩
  · rw [e]
    rw [← beq_eq_false_iff_ne] at h1 h2 h3 h4 h5 h6 h7 h8 h9 h10 h11 h12 h13 h14 h15
    clear e
    go_enter Tryd.func58, Tryd.ntmps58
    go_wp2
    go_ret
    exact ⟨rfl, rfl⟩

set_option maxHeartbeats 2000000 in
theorem asked_any (op : Int) (w : World) : Calls Tryd.prog 57 #[.int .i64 op] w fun e w' => e = .returned (.tuple #[.int .i64 (akF op), .int .i64 (akS op)]) ∧ w' = w := by
  rcases lv_cases op with h | ⟨⟨h1, h2, h3, h4, h5, h6, h7, h8, h9, h10, h11, h12, h13, h14, h15⟩, _, e, e'⟩
  · rcases h with h | h | h | h | h | h | h | h | h | h | h | h | h | h | h
    all_goals
      subst h
      go_enter Tryd.func57, Tryd.ntmps57
      go_wp2
      refine bodyPost_ret (v := _) (by simp [results, Tryd.results57, go_sem]; rfl) rfl ?_
      exact ⟨rfl, rfl⟩
  · rw [e, e']
    rw [← beq_eq_false_iff_ne] at h1 h2 h3 h4 h5 h6 h7 h8 h9 h10 h11 h12 h13 h14 h15
    clear e e'
    go_enter Tryd.func57, Tryd.ntmps57
    go_wp2
    refine bodyPost_ret (v := _) (by simp [results, Tryd.results57, go_sem]; rfl) rfl ?_
    exact ⟨rfl, rfl⟩
end Go.Proofs.YtnicolaphmffkaaDoor
