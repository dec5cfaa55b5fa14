import Derived.Test.YtbonmajnkbggcabHdA
namespace Go.Proofs.Ytbonmajnkbggcab
open Go.RowKit
set_option linter.unusedVariables false

set_option maxRecDepth 100000 in
set_option maxHeartbeats 4000000 in
theorem headsEqual_any (A I W : List Int) (u1 u2 u3 v1 v2 v3 : Value) (w : World) (h1 : Fl 1 n64 w u1 A) (h2 : Fl 1 n32 w u2 I) (h3 : Fl 1 n32 w u3 W) (g1 : Fl 1 n64 w v1 A) (g2 : Fl 1 n32 w v2 I) (g3 : Fl 1 n32 w v3 W) (lA : A.length ≤ 17592186044000) (lI : I.length ≤ 35184372088000) (lW : W.length ≤ 35184372088000) :
    Calls Try.prog 26 #[.agg #[u1, u2, u3], .agg #[v1, v2, v3]] w fun e w' => e = .returned (.bool true) ∧ Below w.heap.size w w' := by
  obtain ⟨a1, c1, rfl, k1⟩ := h1.nums
  obtain ⟨a2, c2, rfl, k2⟩ := h2.nums
  obtain ⟨a3, c3, rfl, k3⟩ := h3.nums
  obtain ⟨b1, d1, rfl, m1⟩ := g1.nums
  obtain ⟨b2, d2, rfl, m2⟩ := g2.nums
  obtain ⟨b3, d3, rfl, m3⟩ := g3.nums
  clear h1 h2 h3 g1 g2 g3
  go_enter Try.func26, Try.ntmps26
  go_wp2
  have B1 : Has ((w.alloc (.cells #[.slice a1 A.length c1, .slice a2 I.length c2, .slice a3 W.length c3] 29)).alloc (.cells #[.slice b1 A.length d1, .slice b2 I.length d2, .slice b3 W.length d3] 29)) w.heap.size #[.slice a1 A.length c1, .slice a2 I.length c2, .slice a3 W.length c3] := (Has.new _ _ _ rfl).alloc _
  have B2 : Has ((w.alloc (.cells #[.slice a1 A.length c1, .slice a2 I.length c2, .slice a3 W.length c3] 29)).alloc (.cells #[.slice b1 A.length d1, .slice b2 I.length d2, .slice b3 W.length d3] 29)) (w.heap.size + 1) #[.slice b1 A.length d1, .slice b2 I.length d2, .slice b3 W.length d3] := Has.new _ _ _ (by simp)
  have hb0 : Below w.heap.size w ((w.alloc (.cells #[.slice a1 A.length c1, .slice a2 I.length c2, .slice a3 W.length c3] 29)).alloc (.cells #[.slice b1 A.length d1, .slice b2 I.length d2, .slice b3 W.length d3] 29)) := belA
  generalize ((w.alloc (.cells #[.slice a1 A.length c1, .slice a2 I.length c2, .slice a3 W.length c3] 29)).alloc (.cells #[.slice b1 A.length d1, .slice b2 I.length d2, .slice b3 W.length d3] 29)) = W0 at *
  go_loopw [5] (fun t wr => ∃ k q : Nat, k ≤ A.length ∧ t = .int .i64 (k : Int) ∧ wr = W0.drewN q) (fun t _ => A.length - (intOf t).toNat)
  case atStart => exact ⟨0, 0, by omega, rfl, rfl⟩
  case round =>
    obtain ⟨k0, q0, hk0, rfl, rfl⟩ := hrel
    obtain ⟨_, y1, _⟩ := id B1
    obtain ⟨_, y2, _⟩ := id B2
    by_cases hlt : k0 < A.length
    · obtain ⟨g1, o1, rfl, hg1, P1⟩ := k1.resolve_left (by intro e; rw [e] at hlt; simp at hlt)
      obtain ⟨g3, o3, rfl, hg3, P3⟩ := m1.resolve_left (by intro e; rw [e] at hlt; simp at hlt)
      have p0 := (hb0.cell (p := ⟨g1, _, none⟩) hg1).trans (P1 k0 hlt _ rfl)
      have r0 := (hb0.cell (p := ⟨g3, _, none⟩) hg3).trans (P3 k0 hlt _ rfl)
      have t1 : (k0 : Int) < (A.length : Int) := by omega
      have t0 : (0 : Int) ≤ (k0 : Int) := by omega
      have t2 : k0 + 1 ≤ A.length := hlt
      generalize A[k0] = x0 at *
      clear P1 P3 B1 B2
      (try clear k1 m1)
      (try clear k2 m2)
      (try clear k3 m3)
      go_wp2
      go_quiet (fail)
      go_wp2
      go_roundw
      case rel => exact ⟨k0 + 1, q0 + nq, by omega, by go_num, rfl⟩
      case measure => simp [intOf]; omega
    · have t1 : ¬ (k0 : Int) < (A.length : Int) := by omega
      clear k1 m1
      go_wp2
      clear y1 y2 t1
      go_loopw [6] (fun t wr => ∃ k q : Nat, k ≤ I.length ∧ t = .int .i64 (k : Int) ∧ wr = W0.drewN q) (fun t _ => I.length - (intOf t).toNat)
      case atStart => exact ⟨0, q0, by omega, rfl, rfl⟩
      case round =>
        obtain ⟨k1, q1, hk1, rfl, rfl⟩ := hrel
        obtain ⟨_, y1, _⟩ := id B1
        obtain ⟨_, y2, _⟩ := id B2
        by_cases hlt : k1 < I.length
        · obtain ⟨g1, o1, rfl, hg1, P1⟩ := k2.resolve_left (by intro e; rw [e] at hlt; simp at hlt)
          obtain ⟨g3, o3, rfl, hg3, P3⟩ := m2.resolve_left (by intro e; rw [e] at hlt; simp at hlt)
          have p0 := (hb0.cell (p := ⟨g1, _, none⟩) hg1).trans (P1 k1 hlt _ rfl)
          have r0 := (hb0.cell (p := ⟨g3, _, none⟩) hg3).trans (P3 k1 hlt _ rfl)
          have t1 : (k1 : Int) < (I.length : Int) := by omega
          have t0 : (0 : Int) ≤ (k1 : Int) := by omega
          have t2 : k1 + 1 ≤ I.length := hlt
          generalize I[k1] = x0 at *
          clear P1 P3 B1 B2
          (try clear k1 m1)
          (try clear k2 m2)
          (try clear k3 m3)
          go_wp2
          go_quiet (fail)
          go_wp2
          go_roundw
          case rel => exact ⟨k1 + 1, q1 + nq, by omega, by go_num, rfl⟩
          case measure => simp [intOf]; omega
        · have t1 : ¬ (k1 : Int) < (I.length : Int) := by omega
          clear k2 m2
          go_wp2
          clear y1 y2 t1
          go_loopw [7] (fun t wr => ∃ k q : Nat, k ≤ W.length ∧ t = .int .i64 (k : Int) ∧ wr = W0.drewN q) (fun t _ => W.length - (intOf t).toNat)
          case atStart => exact ⟨0, q1, by omega, rfl, rfl⟩
          case round =>
            obtain ⟨k2, q2, hk2, rfl, rfl⟩ := hrel
            obtain ⟨_, y1, _⟩ := id B1
            obtain ⟨_, y2, _⟩ := id B2
            by_cases hlt : k2 < W.length
            · obtain ⟨g1, o1, rfl, hg1, P1⟩ := k3.resolve_left (by intro e; rw [e] at hlt; simp at hlt)
              obtain ⟨g3, o3, rfl, hg3, P3⟩ := m3.resolve_left (by intro e; rw [e] at hlt; simp at hlt)
              have p0 := (hb0.cell (p := ⟨g1, _, none⟩) hg1).trans (P1 k2 hlt _ rfl)
              have r0 := (hb0.cell (p := ⟨g3, _, none⟩) hg3).trans (P3 k2 hlt _ rfl)
              have t1 : (k2 : Int) < (W.length : Int) := by omega
              have t0 : (0 : Int) ≤ (k2 : Int) := by omega
              have t2 : k2 + 1 ≤ W.length := hlt
              generalize W[k2] = x0 at *
              clear P1 P3 B1 B2
              (try clear k1 m1)
              (try clear k2 m2)
              (try clear k3 m3)
              go_wp2
              go_quiet (fail)
              go_wp2
              go_roundw
              case rel => exact ⟨k2 + 1, q2 + nq, by omega, by go_num, rfl⟩
              case measure => simp [intOf]; omega
            · have t1 : ¬ (k2 : Int) < (W.length : Int) := by omega
              clear k3 m3
              go_wp2
              go_ret
              exact ⟨rfl, bel_drewN hb0⟩
end Go.Proofs.Ytbonmajnkbggcab
