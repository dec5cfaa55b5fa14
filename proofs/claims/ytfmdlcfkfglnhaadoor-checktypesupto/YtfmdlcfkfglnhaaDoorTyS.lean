import Derived.Test.YtfmdlcfkfglnhaaDoorTyR
namespace Go.Proofs.YtfmdlcfkfglnhaaDoor
open Go.RowKit
set_option linter.unusedVariables false

set_option maxRecDepth 100000 in
set_option maxHeartbeats 8000000 in
theorem sameS_any (L : List Sy) (v u : Value) (w : World) (h1 : Fl 5 Sy.cs w v L) (h2 : Fl 5 Sy.cs w u L) (hG : L.length ≤ 2932031007317) :
    Calls Tryd.prog 8 #[v, u] w fun e w' => e = .returned (.bool true) ∧ Below w.heap.size w w' := by
  obtain ⟨a1, c1, rfl, k1⟩ := h1.any
  obtain ⟨a3, c3, rfl, k3⟩ := h2.any
  clear h1 h2
  go_enter Tryd.func8, Tryd.ntmps8
  go_wp2_with fail
  go_loopw [5] (fun t wr => ∃ k q : Nat, k ≤ L.length ∧ t = .int .i64 (k : Int) ∧ wr = w.drewN q) (fun t _ => L.length - (intOf t).toNat)
  case atStart => exact ⟨0, 0, by omega, rfl, rfl⟩
  case round =>
    obtain ⟨k, q, hk, rfl, rfl⟩ := hrel
    by_cases hlt : k < L.length
    · obtain ⟨g1, o1, rfl, hg1, P1⟩ := k1.resolve_left (by intro e; rw [e] at hlt; simp at hlt)
      obtain ⟨g3, o3, rfl, hg3, P3⟩ := k3.resolve_left (by intro e; rw [e] at hlt; simp at hlt)
      have p0 := (P1 k hlt 0 _ rfl)
      have p1 := (P1 k hlt 1 _ rfl)
      have p2 := (P1 k hlt 2 _ rfl)
      have p3 := (P1 k hlt 3 _ rfl)
      have p4 := (P1 k hlt 4 _ rfl)
      have r0 := (P3 k hlt 0 _ rfl)
      have r1 := (P3 k hlt 1 _ rfl)
      have r2 := (P3 k hlt 2 _ rfl)
      have r3 := (P3 k hlt 3 _ rfl)
      have r4 := (P3 k hlt 4 _ rfl)
      simp only [Nat.add_zero] at p0 r0
      have t1 : (k : Int) < (L.length : Int) := by omega
      have t0 : (0 : Int) ≤ (k : Int) := by omega
      have t2 : k + 1 ≤ L.length := hlt
      generalize L[k].name = x0 at *
      generalize L[k].kind = x1 at *
      generalize L[k].ix = x2 at *
      generalize L[k].line = x3 at *
      generalize L[k].col = x4 at *
      clear P1 P3 k1 k3
      go_wp2
      go_quiet (fail)
      go_wp2
      go_roundw
      case rel => exact ⟨k + 1, q + nq, by omega, by go_num, rfl⟩
      case measure => simp [intOf]; omega
    · have t1 : ¬ (k : Int) < (L.length : Int) := by omega
      clear k1 k3
      go_wp2
      go_ret
      exact ⟨rfl, below_drewN _ _⟩
set_option maxRecDepth 100000 in
set_option maxHeartbeats 8000000 in
theorem sameN_any (L : List Nd) (v u : Value) (w : World) (h1 : Fl 5 Nd.cs w v L) (h2 : Fl 5 Nd.cs w u L) (hG : L.length ≤ 2932031007317) :
    Calls Tryd.prog 9 #[v, u] w fun e w' => e = .returned (.bool true) ∧ Below w.heap.size w w' := by
  obtain ⟨a1, c1, rfl, k1⟩ := h1.any
  obtain ⟨a3, c3, rfl, k3⟩ := h2.any
  clear h1 h2
  go_enter Tryd.func9, Tryd.ntmps9
  go_wp2_with fail
  go_loopw [5] (fun t wr => ∃ k q : Nat, k ≤ L.length ∧ t = .int .i64 (k : Int) ∧ wr = w.drewN q) (fun t _ => L.length - (intOf t).toNat)
  case atStart => exact ⟨0, 0, by omega, rfl, rfl⟩
  case round =>
    obtain ⟨k, q, hk, rfl, rfl⟩ := hrel
    by_cases hlt : k < L.length
    · obtain ⟨g1, o1, rfl, hg1, P1⟩ := k1.resolve_left (by intro e; rw [e] at hlt; simp at hlt)
      obtain ⟨g3, o3, rfl, hg3, P3⟩ := k3.resolve_left (by intro e; rw [e] at hlt; simp at hlt)
      have p0 := (P1 k hlt 0 _ rfl)
      have p1 := (P1 k hlt 1 _ rfl)
      have p2 := (P1 k hlt 2 _ rfl)
      have p3 := (P1 k hlt 3 _ rfl)
      have p4 := (P1 k hlt 4 _ rfl)
      have r0 := (P3 k hlt 0 _ rfl)
      have r1 := (P3 k hlt 1 _ rfl)
      have r2 := (P3 k hlt 2 _ rfl)
      have r3 := (P3 k hlt 3 _ rfl)
      have r4 := (P3 k hlt 4 _ rfl)
      simp only [Nat.add_zero] at p0 r0
      have t1 : (k : Int) < (L.length : Int) := by omega
      have t0 : (0 : Int) ≤ (k : Int) := by omega
      have t2 : k + 1 ≤ L.length := hlt
      generalize L[k].op = x0 at *
      generalize L[k].val = x1 at *
      generalize L[k].name = x2 at *
      generalize L[k].line = x3 at *
      generalize L[k].col = x4 at *
      clear P1 P3 k1 k3
      go_wp2
      go_quiet (fail)
      go_wp2
      go_roundw
      case rel => exact ⟨k + 1, q + nq, by omega, by go_num, rfl⟩
      case measure => simp [intOf]; omega
    · have t1 : ¬ (k : Int) < (L.length : Int) := by omega
      clear k1 k3
      go_wp2
      go_ret
      exact ⟨rfl, below_drewN _ _⟩
end Go.Proofs.YtfmdlcfkfglnhaaDoor
