import Derived.Test.YtiaklfjpmmifjaaTabA
namespace Go.Proofs.Ytiaklfjpmmifjaa
open Go.RowKit
set_option linter.unusedVariables false


theorem belA {w : World} {o1 o2 : Obj} : Below w.heap.size w ((w.alloc o1).alloc o2) := ((Below.refl _ _).alloc (Nat.le_refl _) _).alloc (by simp) _
set_option maxRecDepth 100000 in
set_option maxHeartbeats 4000000 in
theorem sameTables_any (G : List Gp) (C : List Cf) (vg vc ug uc : Value) (w : World) (h1 : Fl 5 Gp.cs w vg G) (h2 : Fl 4 Cf.cs w vc C) (h3 : Fl 5 Gp.cs w ug G) (h4 : Fl 4 Cf.cs w uc C) (hG : G.length ≤ 2932031007317) (hC : C.length ≤ 4398046511000) :
    Calls Try.prog 10 #[.agg #[vg, vc], .agg #[ug, uc]] w fun e w' => e = .returned (.bool true) ∧ Below w.heap.size w w' := by
  obtain ⟨a1, c1, rfl, k1⟩ := h1.any
  obtain ⟨a2, c2, rfl, k2⟩ := h2.any
  obtain ⟨a3, c3, rfl, k3⟩ := h3.any
  obtain ⟨a4, c4, rfl, k4⟩ := h4.any
  clear h1 h2 h3 h4
  go_enter Try.func10, Try.ntmps10
  go_wp2
  have B1 : Has ((w.alloc (.cells #[.slice a1 G.length c1, .slice a2 C.length c2] 25)).alloc (.cells #[.slice a3 G.length c3, .slice a4 C.length c4] 25)) w.heap.size #[.slice a1 G.length c1, .slice a2 C.length c2] := (Has.new _ _ _ rfl).alloc _
  have B2 : Has ((w.alloc (.cells #[.slice a1 G.length c1, .slice a2 C.length c2] 25)).alloc (.cells #[.slice a3 G.length c3, .slice a4 C.length c4] 25)) (w.heap.size + 1) #[.slice a3 G.length c3, .slice a4 C.length c4] := Has.new _ _ _ (by simp)
  have hb0 : Below w.heap.size w ((w.alloc (.cells #[.slice a1 G.length c1, .slice a2 C.length c2] 25)).alloc (.cells #[.slice a3 G.length c3, .slice a4 C.length c4] 25)) := belA
  generalize ((w.alloc (.cells #[.slice a1 G.length c1, .slice a2 C.length c2] 25)).alloc (.cells #[.slice a3 G.length c3, .slice a4 C.length c4] 25)) = W0 at *
  go_loopw [5] (fun t wr => ∃ k q : Nat, k ≤ G.length ∧ t = .int .i64 (k : Int) ∧ wr = W0.drewN q) (fun t _ => G.length - (intOf t).toNat)
  case atStart => exact ⟨0, 0, by omega, rfl, rfl⟩
  case round =>
    obtain ⟨k, q, hk, rfl, rfl⟩ := hrel
    obtain ⟨_, b1, _⟩ := id B1
    obtain ⟨_, b2, _⟩ := id B2
    by_cases hlt : k < G.length
    · obtain ⟨g1, o1, rfl, hg1, P1⟩ := k1.resolve_left (by intro e; rw [e] at hlt; simp at hlt)
      obtain ⟨g3, o3, rfl, hg3, P3⟩ := k3.resolve_left (by intro e; rw [e] at hlt; simp at hlt)
      have p0 := (hb0.cell (p := ⟨g1, _, none⟩) hg1).trans (P1 k hlt 0 _ rfl)
      have p1 := (hb0.cell (p := ⟨g1, _, none⟩) hg1).trans (P1 k hlt 1 _ rfl)
      have p2 := (hb0.cell (p := ⟨g1, _, none⟩) hg1).trans (P1 k hlt 2 _ rfl)
      have p3 := (hb0.cell (p := ⟨g1, _, none⟩) hg1).trans (P1 k hlt 3 _ rfl)
      have p4 := (hb0.cell (p := ⟨g1, _, none⟩) hg1).trans (P1 k hlt 4 _ rfl)
      have r0 := (hb0.cell (p := ⟨g3, _, none⟩) hg3).trans (P3 k hlt 0 _ rfl)
      have r1 := (hb0.cell (p := ⟨g3, _, none⟩) hg3).trans (P3 k hlt 1 _ rfl)
      have r2 := (hb0.cell (p := ⟨g3, _, none⟩) hg3).trans (P3 k hlt 2 _ rfl)
      have r3 := (hb0.cell (p := ⟨g3, _, none⟩) hg3).trans (P3 k hlt 3 _ rfl)
      have r4 := (hb0.cell (p := ⟨g3, _, none⟩) hg3).trans (P3 k hlt 4 _ rfl)
      simp only [Nat.add_zero] at p0 r0
      have t1 : (k : Int) < (G.length : Int) := by omega
      have t0 : (0 : Int) ≤ (k : Int) := by omega
      have t2 : k + 1 ≤ G.length := hlt
      generalize G[k].name = x0 at *
      generalize G[k].sort = x1 at *
      generalize G[k].min = x2 at *
      generalize G[k].amber = x3 at *
      generalize G[k].lead = x4 at *
      clear P1 P3 k1 k2 k3 k4 B1 B2
      go_wp2
      go_quiet (fail)
      go_wp2
      go_roundw
      case rel => exact ⟨k + 1, q + nq, by omega, by go_num, rfl⟩
      case measure => simp [intOf]; omega
    · have t1 : ¬ (k : Int) < (G.length : Int) := by omega
      clear k1 k3
      go_wp2
      go_loopw [6] (fun t wr => ∃ k q : Nat, k ≤ C.length ∧ t = .int .i64 (k : Int) ∧ wr = W0.drewN q) (fun t _ => C.length - (intOf t).toNat)
      case atStart => exact ⟨0, q, by omega, rfl, rfl⟩
      case round =>
        clear b1 b2
        obtain ⟨m, r, hm, rfl, rfl⟩ := hrel
        obtain ⟨_, b1, _⟩ := id B1
        obtain ⟨_, b2, _⟩ := id B2
        by_cases hlt : m < C.length
        · obtain ⟨g1, o1, rfl, hg1, P1⟩ := k2.resolve_left (by intro e; rw [e] at hlt; simp at hlt)
          obtain ⟨g3, o3, rfl, hg3, P3⟩ := k4.resolve_left (by intro e; rw [e] at hlt; simp at hlt)
          have p0 := (hb0.cell (p := ⟨g1, _, none⟩) hg1).trans (P1 m hlt 0 _ rfl)
          have p1 := (hb0.cell (p := ⟨g1, _, none⟩) hg1).trans (P1 m hlt 1 _ rfl)
          have p2 := (hb0.cell (p := ⟨g1, _, none⟩) hg1).trans (P1 m hlt 2 _ rfl)
          have p3 := (hb0.cell (p := ⟨g1, _, none⟩) hg1).trans (P1 m hlt 3 _ rfl)
          have r0 := (hb0.cell (p := ⟨g3, _, none⟩) hg3).trans (P3 m hlt 0 _ rfl)
          have r1 := (hb0.cell (p := ⟨g3, _, none⟩) hg3).trans (P3 m hlt 1 _ rfl)
          have r2 := (hb0.cell (p := ⟨g3, _, none⟩) hg3).trans (P3 m hlt 2 _ rfl)
          have r3 := (hb0.cell (p := ⟨g3, _, none⟩) hg3).trans (P3 m hlt 3 _ rfl)
          simp only [Nat.add_zero] at p0 r0
          have s1 : (m : Int) < (C.length : Int) := by omega
          have s0 : (0 : Int) ≤ (m : Int) := by omega
          have s2 : m + 1 ≤ C.length := hlt
          generalize C[m].a = x0 at *
          generalize C[m].b = x1 at *
          generalize C[m].ab = x2 at *
          generalize C[m].ba = x3 at *
          clear P1 P3 k2 k4 B1 B2 t1
          go_wp2
          go_quiet (fail)
          go_wp2
          go_roundw
          case rel => exact ⟨m + 1, r + nq, by omega, by go_num, rfl⟩
          case measure => simp [intOf]; omega
        · have s1 : ¬ (m : Int) < (C.length : Int) := by omega
          clear k2 k4
          go_wp2
          go_ret
          exact ⟨rfl, bel_drewN hb0⟩
end Go.Proofs.Ytiaklfjpmmifjaa
