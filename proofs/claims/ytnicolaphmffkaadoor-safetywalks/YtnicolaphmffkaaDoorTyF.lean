import Derived.Test.YtnicolaphmffkaaDoorTyN
import Derived.Test.YtnicolaphmffkaaDoorNesC
namespace Go.Proofs.YtnicolaphmffkaaDoor
open Go.RowKit
set_option linter.unusedVariables false
set_option linter.unusedSimpArgs false

/-- What a node asks: how many operands, of which type, and what it is. -/
def ruO (op : Int) : Int := if op < 20 then 0 else if op < 30 then 1 else 2
def ruT (op : Int) : Int := if op < 20 then 0 else if op = 21 ∨ op = 50 ∨ op = 51 then 2 else if op = 40 ∨ op = 41 then 0 else 1
def ruI (op : Int) : Int := if op = 3 then 0 else if op = 1 ∨ op = 4 ∨ op = 20 ∨ op = 22 ∨ (30 ≤ op ∧ op ≤ 36) then 1 else 2
def ruV (op : Int) : Value := .agg #[.int .i64 (ruO op), .int .i64 (ruT op), .int .i64 (ruI op)]
def Rule (op : Int) : Prop := ∀ w : World, Calls Tryd.prog 69 #[.int .i64 op] w fun e w' => e = .returned (ruV op) ∧ Below w.heap.size w w'
set_option maxRecDepth 100000 in
set_option maxHeartbeats 8000000 in
theorem rule1 : Rule 1 := by
  intro w
  rw [show ruV 1 = .agg #[.int .i64 0, .int .i64 0, .int .i64 1] from rfl]
  go_enter Tryd.func69, Tryd.ntmps69
  go_wp2_with fail
  exact bodyPost_ret (v := .agg #[.int .i64 0, .int .i64 0, .int .i64 1]) (by simp [results, Tryd.results69, go_sem]) rfl ⟨rfl, (Below.refl _ _).alloc (Nat.le_refl _) _⟩
set_option maxRecDepth 100000 in
set_option maxHeartbeats 8000000 in
theorem rule2 : Rule 2 := by
  intro w
  rw [show ruV 2 = .agg #[.int .i64 0, .int .i64 0, .int .i64 2] from rfl]
  go_enter Tryd.func69, Tryd.ntmps69
  go_wp2_with fail
  exact bodyPost_ret (v := .agg #[.int .i64 0, .int .i64 0, .int .i64 2]) (by simp [results, Tryd.results69, go_sem]) rfl ⟨rfl, (Below.refl _ _).alloc (Nat.le_refl _) _⟩
set_option maxRecDepth 100000 in
set_option maxHeartbeats 8000000 in
theorem rule3 : Rule 3 := by
  intro w
  rw [show ruV 3 = .agg #[.int .i64 0, .int .i64 0, .int .i64 0] from rfl]
  go_enter Tryd.func69, Tryd.ntmps69
  go_wp2_with fail
  exact bodyPost_ret (v := .agg #[.int .i64 0, .int .i64 0, .int .i64 0]) (by simp [results, Tryd.results69, go_sem]) rfl ⟨rfl, (Below.refl _ _).alloc (Nat.le_refl _) _⟩
set_option maxRecDepth 100000 in
set_option maxHeartbeats 8000000 in
theorem rule4 : Rule 4 := by
  intro w
  rw [show ruV 4 = .agg #[.int .i64 0, .int .i64 0, .int .i64 1] from rfl]
  go_enter Tryd.func69, Tryd.ntmps69
  go_wp2_with fail
  exact bodyPost_ret (v := .agg #[.int .i64 0, .int .i64 0, .int .i64 1]) (by simp [results, Tryd.results69, go_sem]) rfl ⟨rfl, (Below.refl _ _).alloc (Nat.le_refl _) _⟩
set_option maxRecDepth 100000 in
set_option maxHeartbeats 8000000 in
theorem rule5 : Rule 5 := by
  intro w
  rw [show ruV 5 = .agg #[.int .i64 0, .int .i64 0, .int .i64 2] from rfl]
  go_enter Tryd.func69, Tryd.ntmps69
  go_wp2_with fail
  exact bodyPost_ret (v := .agg #[.int .i64 0, .int .i64 0, .int .i64 2]) (by simp [results, Tryd.results69, go_sem]) rfl ⟨rfl, (Below.refl _ _).alloc (Nat.le_refl _) _⟩
set_option maxRecDepth 100000 in
set_option maxHeartbeats 8000000 in
theorem rule6 : Rule 6 := by
  intro w
  rw [show ruV 6 = .agg #[.int .i64 0, .int .i64 0, .int .i64 2] from rfl]
  go_enter Tryd.func69, Tryd.ntmps69
  go_wp2_with fail
  exact bodyPost_ret (v := .agg #[.int .i64 0, .int .i64 0, .int .i64 2]) (by simp [results, Tryd.results69, go_sem]) rfl ⟨rfl, (Below.refl _ _).alloc (Nat.le_refl _) _⟩
set_option maxRecDepth 100000 in
set_option maxHeartbeats 8000000 in
theorem rule20 : Rule 20 := by
  intro w
  rw [show ruV 20 = .agg #[.int .i64 1, .int .i64 1, .int .i64 1] from rfl]
  go_enter Tryd.func69, Tryd.ntmps69
  go_wp2_with fail
  exact bodyPost_ret (v := .agg #[.int .i64 1, .int .i64 1, .int .i64 1]) (by simp [results, Tryd.results69, go_sem]) rfl ⟨rfl, (Below.refl _ _).alloc (Nat.le_refl _) _⟩
set_option maxRecDepth 100000 in
set_option maxHeartbeats 8000000 in
theorem rule21 : Rule 21 := by
  intro w
  rw [show ruV 21 = .agg #[.int .i64 1, .int .i64 2, .int .i64 2] from rfl]
  go_enter Tryd.func69, Tryd.ntmps69
  go_wp2_with fail
  exact bodyPost_ret (v := .agg #[.int .i64 1, .int .i64 2, .int .i64 2]) (by simp [results, Tryd.results69, go_sem]) rfl ⟨rfl, (Below.refl _ _).alloc (Nat.le_refl _) _⟩
set_option maxRecDepth 100000 in
set_option maxHeartbeats 8000000 in
theorem rule22 : Rule 22 := by
  intro w
  rw [show ruV 22 = .agg #[.int .i64 1, .int .i64 1, .int .i64 1] from rfl]
  go_enter Tryd.func69, Tryd.ntmps69
  go_wp2_with fail
  exact bodyPost_ret (v := .agg #[.int .i64 1, .int .i64 1, .int .i64 1]) (by simp [results, Tryd.results69, go_sem]) rfl ⟨rfl, (Below.refl _ _).alloc (Nat.le_refl _) _⟩
set_option maxRecDepth 100000 in
set_option maxHeartbeats 8000000 in
theorem rule30 : Rule 30 := by
  intro w
  rw [show ruV 30 = .agg #[.int .i64 2, .int .i64 1, .int .i64 1] from rfl]
  go_enter Tryd.func69, Tryd.ntmps69
  go_wp2_with fail
  exact bodyPost_ret (v := .agg #[.int .i64 2, .int .i64 1, .int .i64 1]) (by simp [results, Tryd.results69, go_sem]) rfl ⟨rfl, (Below.refl _ _).alloc (Nat.le_refl _) _⟩
set_option maxRecDepth 100000 in
set_option maxHeartbeats 8000000 in
theorem rule31 : Rule 31 := by
  intro w
  rw [show ruV 31 = .agg #[.int .i64 2, .int .i64 1, .int .i64 1] from rfl]
  go_enter Tryd.func69, Tryd.ntmps69
  go_wp2_with fail
  exact bodyPost_ret (v := .agg #[.int .i64 2, .int .i64 1, .int .i64 1]) (by simp [results, Tryd.results69, go_sem]) rfl ⟨rfl, (Below.refl _ _).alloc (Nat.le_refl _) _⟩
set_option maxRecDepth 100000 in
set_option maxHeartbeats 8000000 in
theorem rule32 : Rule 32 := by
  intro w
  rw [show ruV 32 = .agg #[.int .i64 2, .int .i64 1, .int .i64 1] from rfl]
  go_enter Tryd.func69, Tryd.ntmps69
  go_wp2_with fail
  exact bodyPost_ret (v := .agg #[.int .i64 2, .int .i64 1, .int .i64 1]) (by simp [results, Tryd.results69, go_sem]) rfl ⟨rfl, (Below.refl _ _).alloc (Nat.le_refl _) _⟩
set_option maxRecDepth 100000 in
set_option maxHeartbeats 8000000 in
theorem rule33 : Rule 33 := by
  intro w
  rw [show ruV 33 = .agg #[.int .i64 2, .int .i64 1, .int .i64 1] from rfl]
  go_enter Tryd.func69, Tryd.ntmps69
  go_wp2_with fail
  exact bodyPost_ret (v := .agg #[.int .i64 2, .int .i64 1, .int .i64 1]) (by simp [results, Tryd.results69, go_sem]) rfl ⟨rfl, (Below.refl _ _).alloc (Nat.le_refl _) _⟩
set_option maxRecDepth 100000 in
set_option maxHeartbeats 8000000 in
theorem rule34 : Rule 34 := by
  intro w
  rw [show ruV 34 = .agg #[.int .i64 2, .int .i64 1, .int .i64 1] from rfl]
  go_enter Tryd.func69, Tryd.ntmps69
  go_wp2_with fail
  exact bodyPost_ret (v := .agg #[.int .i64 2, .int .i64 1, .int .i64 1]) (by simp [results, Tryd.results69, go_sem]) rfl ⟨rfl, (Below.refl _ _).alloc (Nat.le_refl _) _⟩
set_option maxRecDepth 100000 in
set_option maxHeartbeats 8000000 in
theorem rule35 : Rule 35 := by
  intro w
  rw [show ruV 35 = .agg #[.int .i64 2, .int .i64 1, .int .i64 1] from rfl]
  go_enter Tryd.func69, Tryd.ntmps69
  go_wp2_with fail
  exact bodyPost_ret (v := .agg #[.int .i64 2, .int .i64 1, .int .i64 1]) (by simp [results, Tryd.results69, go_sem]) rfl ⟨rfl, (Below.refl _ _).alloc (Nat.le_refl _) _⟩
set_option maxRecDepth 100000 in
set_option maxHeartbeats 8000000 in
theorem rule36 : Rule 36 := by
  intro w
  rw [show ruV 36 = .agg #[.int .i64 2, .int .i64 1, .int .i64 1] from rfl]
  go_enter Tryd.func69, Tryd.ntmps69
  go_wp2_with fail
  exact bodyPost_ret (v := .agg #[.int .i64 2, .int .i64 1, .int .i64 1]) (by simp [results, Tryd.results69, go_sem]) rfl ⟨rfl, (Below.refl _ _).alloc (Nat.le_refl _) _⟩
set_option maxRecDepth 100000 in
set_option maxHeartbeats 8000000 in
theorem rule40 : Rule 40 := by
  intro w
  rw [show ruV 40 = .agg #[.int .i64 2, .int .i64 0, .int .i64 2] from rfl]
  go_enter Tryd.func69, Tryd.ntmps69
  go_wp2_with fail
  exact bodyPost_ret (v := .agg #[.int .i64 2, .int .i64 0, .int .i64 2]) (by simp [results, Tryd.results69, go_sem]) rfl ⟨rfl, (Below.refl _ _).alloc (Nat.le_refl _) _⟩
set_option maxRecDepth 100000 in
set_option maxHeartbeats 8000000 in
theorem rule41 : Rule 41 := by
  intro w
  rw [show ruV 41 = .agg #[.int .i64 2, .int .i64 0, .int .i64 2] from rfl]
  go_enter Tryd.func69, Tryd.ntmps69
  go_wp2_with fail
  exact bodyPost_ret (v := .agg #[.int .i64 2, .int .i64 0, .int .i64 2]) (by simp [results, Tryd.results69, go_sem]) rfl ⟨rfl, (Below.refl _ _).alloc (Nat.le_refl _) _⟩
set_option maxRecDepth 100000 in
set_option maxHeartbeats 8000000 in
theorem rule42 : Rule 42 := by
  intro w
  rw [show ruV 42 = .agg #[.int .i64 2, .int .i64 1, .int .i64 2] from rfl]
  go_enter Tryd.func69, Tryd.ntmps69
  go_wp2_with fail
  exact bodyPost_ret (v := .agg #[.int .i64 2, .int .i64 1, .int .i64 2]) (by simp [results, Tryd.results69, go_sem]) rfl ⟨rfl, (Below.refl _ _).alloc (Nat.le_refl _) _⟩
set_option maxRecDepth 100000 in
set_option maxHeartbeats 8000000 in
theorem rule43 : Rule 43 := by
  intro w
  rw [show ruV 43 = .agg #[.int .i64 2, .int .i64 1, .int .i64 2] from rfl]
  go_enter Tryd.func69, Tryd.ntmps69
  go_wp2_with fail
  exact bodyPost_ret (v := .agg #[.int .i64 2, .int .i64 1, .int .i64 2]) (by simp [results, Tryd.results69, go_sem]) rfl ⟨rfl, (Below.refl _ _).alloc (Nat.le_refl _) _⟩
set_option maxRecDepth 100000 in
set_option maxHeartbeats 8000000 in
theorem rule44 : Rule 44 := by
  intro w
  rw [show ruV 44 = .agg #[.int .i64 2, .int .i64 1, .int .i64 2] from rfl]
  go_enter Tryd.func69, Tryd.ntmps69
  go_wp2_with fail
  exact bodyPost_ret (v := .agg #[.int .i64 2, .int .i64 1, .int .i64 2]) (by simp [results, Tryd.results69, go_sem]) rfl ⟨rfl, (Below.refl _ _).alloc (Nat.le_refl _) _⟩
set_option maxRecDepth 100000 in
set_option maxHeartbeats 8000000 in
theorem rule45 : Rule 45 := by
  intro w
  rw [show ruV 45 = .agg #[.int .i64 2, .int .i64 1, .int .i64 2] from rfl]
  go_enter Tryd.func69, Tryd.ntmps69
  go_wp2_with fail
  exact bodyPost_ret (v := .agg #[.int .i64 2, .int .i64 1, .int .i64 2]) (by simp [results, Tryd.results69, go_sem]) rfl ⟨rfl, (Below.refl _ _).alloc (Nat.le_refl _) _⟩
set_option maxRecDepth 100000 in
set_option maxHeartbeats 8000000 in
theorem rule50 : Rule 50 := by
  intro w
  rw [show ruV 50 = .agg #[.int .i64 2, .int .i64 2, .int .i64 2] from rfl]
  go_enter Tryd.func69, Tryd.ntmps69
  go_wp2_with fail
  exact bodyPost_ret (v := .agg #[.int .i64 2, .int .i64 2, .int .i64 2]) (by simp [results, Tryd.results69, go_sem]) rfl ⟨rfl, (Below.refl _ _).alloc (Nat.le_refl _) _⟩
set_option maxRecDepth 100000 in
set_option maxHeartbeats 8000000 in
theorem rule51 : Rule 51 := by
  intro w
  rw [show ruV 51 = .agg #[.int .i64 2, .int .i64 2, .int .i64 2] from rfl]
  go_enter Tryd.func69, Tryd.ntmps69
  go_wp2_with fail
  exact bodyPost_ret (v := .agg #[.int .i64 2, .int .i64 2, .int .i64 2]) (by simp [results, Tryd.results69, go_sem]) rfl ⟨rfl, (Below.refl _ _).alloc (Nat.le_refl _) _⟩
theorem rule_any (op : Int) (w : World) (h : (op = 1 ∨ op = 2 ∨ op = 3 ∨ op = 4 ∨ op = 5 ∨ op = 6) ∨ opB op) : Calls Tryd.prog 69 #[.int .i64 op] w fun e w' => e = .returned (ruV op) ∧ Below w.heap.size w w' := by
  have h' : op = 1 ∨ op = 2 ∨ op = 3 ∨ op = 4 ∨ op = 5 ∨ op = 6 ∨ op = 20 ∨ op = 21 ∨ op = 22 ∨ op = 30 ∨ op = 31 ∨ op = 32 ∨ op = 33 ∨ op = 34 ∨ op = 35 ∨ op = 36 ∨ op = 40 ∨ op = 41 ∨ op = 42 ∨ op = 43 ∨ op = 44 ∨ op = 45 ∨ op = 50 ∨ op = 51 := by unfold opB at h; omega
  rcases h' with rfl | rfl | rfl | rfl | rfl | rfl | rfl | rfl | rfl | rfl | rfl | rfl | rfl | rfl | rfl | rfl | rfl | rfl | rfl | rfl | rfl | rfl | rfl | rfl
  · exact rule1 w
  · exact rule2 w
  · exact rule3 w
  · exact rule4 w
  · exact rule5 w
  · exact rule6 w
  · exact rule20 w
  · exact rule21 w
  · exact rule22 w
  · exact rule30 w
  · exact rule31 w
  · exact rule32 w
  · exact rule33 w
  · exact rule34 w
  · exact rule35 w
  · exact rule36 w
  · exact rule40 w
  · exact rule41 w
  · exact rule42 w
  · exact rule43 w
  · exact rule44 w
  · exact rule45 w
  · exact rule50 w
  · exact rule51 w
end Go.Proofs.YtnicolaphmffkaaDoor
