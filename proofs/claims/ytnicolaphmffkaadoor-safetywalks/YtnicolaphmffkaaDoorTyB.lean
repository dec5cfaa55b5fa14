import Derived.Test.YtnicolaphmffkaaDoorTyM
import Derived.Test.YtnicolaphmffkaaDoorNesA
namespace Go.Proofs.YtnicolaphmffkaaDoor
open Go.RowKit
set_option linter.unusedVariables false
set_option maxRecDepth 100000 in
set_option maxHeartbeats 4000000 in
theorem res20 (a b : Int) (w : World) :
    Calls Tryd.prog 61 #[.int .i64 20, .int .i64 a, .int .i64 b] w fun e w' => e = .returned (.int .i64 (if a = 1 then 1 else 0)) ∧ w' = w := by
  by_cases h : a = 1
  · subst h
    rw [if_pos rfl]
    go_enter Tryd.func61, Tryd.ntmps61
    go_wp2_with fail
    go_ret
    exact ⟨rfl, rfl⟩
  · rw [if_neg h]
    have n : (a == 1) = false := by simpa using h
    go_enter Tryd.func61, Tryd.ntmps61
    go_wp2_with fail
    go_ret
    exact ⟨rfl, rfl⟩
set_option maxRecDepth 100000 in
set_option maxHeartbeats 4000000 in
theorem res22 (a b : Int) (w : World) :
    Calls Tryd.prog 61 #[.int .i64 22, .int .i64 a, .int .i64 b] w fun e w' => e = .returned (.int .i64 (if a = 1 then 1 else 0)) ∧ w' = w := by
  by_cases h : a = 1
  · subst h
    rw [if_pos rfl]
    go_enter Tryd.func61, Tryd.ntmps61
    go_wp2_with fail
    go_ret
    exact ⟨rfl, rfl⟩
  · rw [if_neg h]
    have n : (a == 1) = false := by simpa using h
    go_enter Tryd.func61, Tryd.ntmps61
    go_wp2_with fail
    go_ret
    exact ⟨rfl, rfl⟩
set_option maxRecDepth 100000 in
set_option maxHeartbeats 4000000 in
theorem res21 (a b : Int) (w : World) :
    Calls Tryd.prog 61 #[.int .i64 21, .int .i64 a, .int .i64 b] w fun e w' => e = .returned (.int .i64 (if a = 2 then 2 else 0)) ∧ w' = w := by
  by_cases h : a = 2
  · subst h
    rw [if_pos rfl]
    go_enter Tryd.func61, Tryd.ntmps61
    go_wp2_with fail
    go_ret
    exact ⟨rfl, rfl⟩
  · rw [if_neg h]
    have n : (a == 2) = false := by simpa using h
    go_enter Tryd.func61, Tryd.ntmps61
    go_wp2_with fail
    go_ret
    exact ⟨rfl, rfl⟩
set_option maxRecDepth 100000 in
set_option maxHeartbeats 4000000 in
theorem res30 (op : Int) (g1 : 30 ≤ op) (g2 : op ≤ 36) (a b : Int) (w : World) :
    Calls Tryd.prog 61 #[.int .i64 op, .int .i64 a, .int .i64 b] w fun e w' => e = .returned (.int .i64 (if a = 1 ∧ b = 1 then 1 else 0)) ∧ w' = w := by
  have n20 : (op == 20) = false := by simp; omega
  have n22 : (op == 22) = false := by simp; omega
  have n21 : (op == 21) = false := by simp; omega
  by_cases h : a = 1
  · subst h
    by_cases g : b = 1
    · subst g
      rw [if_pos ⟨rfl, rfl⟩]
      go_enter Tryd.func61, Tryd.ntmps61
      go_wp2_with fail
      go_ret
      exact ⟨rfl, rfl⟩
    · rw [if_neg (fun q => g q.2)]
      have n : (b == 1) = false := by simpa using g
      go_enter Tryd.func61, Tryd.ntmps61
      go_wp2_with fail
      go_ret
      exact ⟨rfl, rfl⟩
  · rw [if_neg (fun q => h q.1)]
    have n : (a == 1) = false := by simpa using h
    go_enter Tryd.func61, Tryd.ntmps61
    go_wp2_with fail
    go_ret
    exact ⟨rfl, rfl⟩
set_option maxRecDepth 100000 in
set_option maxHeartbeats 4000000 in
theorem res40 (a b : Int) (w : World) :
    Calls Tryd.prog 61 #[.int .i64 40, .int .i64 a, .int .i64 b] w fun e w' => e = .returned (.int .i64 (if a = b then 2 else 0)) ∧ w' = w := by
  by_cases h : a = b
  · subst h
    rw [if_pos rfl]
    go_enter Tryd.func61, Tryd.ntmps61
    go_wp2_with fail
    go_ret
    exact ⟨rfl, rfl⟩
  · rw [if_neg h]
    have n : (a == b) = false := by simpa using h
    go_enter Tryd.func61, Tryd.ntmps61
    go_wp2_with fail
    go_ret
    exact ⟨rfl, rfl⟩
set_option maxRecDepth 100000 in
set_option maxHeartbeats 4000000 in
theorem res41 (a b : Int) (w : World) :
    Calls Tryd.prog 61 #[.int .i64 41, .int .i64 a, .int .i64 b] w fun e w' => e = .returned (.int .i64 (if a = b then 2 else 0)) ∧ w' = w := by
  by_cases h : a = b
  · subst h
    rw [if_pos rfl]
    go_enter Tryd.func61, Tryd.ntmps61
    go_wp2_with fail
    go_ret
    exact ⟨rfl, rfl⟩
  · rw [if_neg h]
    have n : (a == b) = false := by simpa using h
    go_enter Tryd.func61, Tryd.ntmps61
    go_wp2_with fail
    go_ret
    exact ⟨rfl, rfl⟩
set_option maxRecDepth 100000 in
set_option maxHeartbeats 4000000 in
theorem res42 (op : Int) (g1 : 42 ≤ op) (g2 : op ≤ 45) (a b : Int) (w : World) :
    Calls Tryd.prog 61 #[.int .i64 op, .int .i64 a, .int .i64 b] w fun e w' => e = .returned (.int .i64 (if a = 1 ∧ b = 1 then 2 else 0)) ∧ w' = w := by
  have n20 : (op == 20) = false := by simp; omega
  have n22 : (op == 22) = false := by simp; omega
  have n21 : (op == 21) = false := by simp; omega
  have n40 : (op == 40) = false := by simp; omega
  have n41 : (op == 41) = false := by simp; omega
  have g3 : ¬ op ≤ 36 := by omega
  have g4 : 30 ≤ op := by omega
  by_cases h : a = 1
  · subst h
    by_cases g : b = 1
    · subst g
      rw [if_pos ⟨rfl, rfl⟩]
      go_enter Tryd.func61, Tryd.ntmps61
      go_wp2_with fail
      go_ret
      exact ⟨rfl, rfl⟩
    · rw [if_neg (fun q => g q.2)]
      have n : (b == 1) = false := by simpa using g
      go_enter Tryd.func61, Tryd.ntmps61
      go_wp2_with fail
      go_ret
      exact ⟨rfl, rfl⟩
  · rw [if_neg (fun q => h q.1)]
    have n : (a == 1) = false := by simpa using h
    go_enter Tryd.func61, Tryd.ntmps61
    go_wp2_with fail
    go_ret
    exact ⟨rfl, rfl⟩
set_option maxRecDepth 100000 in
set_option maxHeartbeats 4000000 in
theorem res50 (a b : Int) (w : World) :
    Calls Tryd.prog 61 #[.int .i64 50, .int .i64 a, .int .i64 b] w fun e w' => e = .returned (.int .i64 (if a = 2 ∧ b = 2 then 2 else 0)) ∧ w' = w := by
  by_cases h : a = 2
  · subst h
    by_cases g : b = 2
    · subst g
      rw [if_pos ⟨rfl, rfl⟩]
      go_enter Tryd.func61, Tryd.ntmps61
      go_wp2_with fail
      go_ret
      exact ⟨rfl, rfl⟩
    · rw [if_neg (fun q => g q.2)]
      have n : (b == 2) = false := by simpa using g
      go_enter Tryd.func61, Tryd.ntmps61
      go_wp2_with fail
      go_ret
      exact ⟨rfl, rfl⟩
  · rw [if_neg (fun q => h q.1)]
    have n : (a == 2) = false := by simpa using h
    go_enter Tryd.func61, Tryd.ntmps61
    go_wp2_with fail
    go_ret
    exact ⟨rfl, rfl⟩
set_option maxRecDepth 100000 in
set_option maxHeartbeats 4000000 in
theorem res51 (a b : Int) (w : World) :
    Calls Tryd.prog 61 #[.int .i64 51, .int .i64 a, .int .i64 b] w fun e w' => e = .returned (.int .i64 (if a = 2 ∧ b = 2 then 2 else 0)) ∧ w' = w := by
  by_cases h : a = 2
  · subst h
    by_cases g : b = 2
    · subst g
      rw [if_pos ⟨rfl, rfl⟩]
      go_enter Tryd.func61, Tryd.ntmps61
      go_wp2_with fail
      go_ret
      exact ⟨rfl, rfl⟩
    · rw [if_neg (fun q => g q.2)]
      have n : (b == 2) = false := by simpa using g
      go_enter Tryd.func61, Tryd.ntmps61
      go_wp2_with fail
      go_ret
      exact ⟨rfl, rfl⟩
  · rw [if_neg (fun q => h q.1)]
    have n : (a == 2) = false := by simpa using h
    go_enter Tryd.func61, Tryd.ntmps61
    go_wp2_with fail
    go_ret
    exact ⟨rfl, rfl⟩
/-- An operator that there is. -/
def opB (op : Int) : Prop := (op = 20 ∨ op = 21 ∨ op = 22) ∨ (30 ≤ op ∧ op ≤ 36) ∨ (op = 40 ∨ op = 41) ∨ (42 ≤ op ∧ op ≤ 45) ∨ (op = 50 ∨ op = 51)
theorem result_any (op a b : Int) (w : World) (h : opB op) :
    Calls Tryd.prog 61 #[.int .i64 op, .int .i64 a, .int .i64 b] w fun e w' => e = .returned (.int .i64 (resF op a b)) ∧ w' = w := by
  rcases h with (rfl | rfl | rfl) | ⟨g1, g2⟩ | (rfl | rfl) | ⟨g1, g2⟩ | (rfl | rfl)
  · exact res20 a b w
  · exact res21 a b w
  · exact res22 a b w
  · rw [show resF op a b = if a = 1 ∧ b = 1 then 1 else 0 from by unfold resF; rw [if_neg (by omega), if_neg (by omega), if_pos ⟨g1, g2⟩]]
    exact res30 op g1 g2 a b w
  · exact res40 a b w
  · exact res41 a b w
  · rw [show resF op a b = if a = 1 ∧ b = 1 then 2 else 0 from by unfold resF; rw [if_neg (by omega), if_neg (by omega), if_neg (by omega), if_neg (by omega), if_pos ⟨g1, g2⟩]]
    exact res42 op g1 g2 a b w
  · exact res50 a b w
  · exact res51 a b w
end Go.Proofs.YtnicolaphmffkaaDoor
