import Derived.Test.YtiaklfjpmmifjaaTabA
namespace Go.Proofs.Ytiaklfjpmmifjaa
open Go.RowKit
set_option linter.unusedVariables false


set_option maxRecDepth 100000 in
set_option maxHeartbeats 4000000 in
theorem refInter_any (C : List Cf) (vg vc : Value) (a b : Int) (w : World) (h : Fl 4 Cf.cs w vc C) (hl : C.length ≤ 4398046511000) :
    Calls Try.prog 9 #[.agg #[vg, vc], .int .i64 a, .int .i64 b] w fun e w' => e = .returned (.tuple #[.int .i64 (interF C a b).1, .bool (interF C a b).2]) ∧ Below w.heap.size w w' := by
  obtain ⟨va, cap, rfl, hk⟩ := h.any
  clear h
  generalize hA : interF C a b = A
  go_enter Try.func9, Try.ntmps9
  go_wp2
  have B0 : Has (w.alloc (.cells #[vg, .slice va C.length cap] 25)) w.heap.size #[vg, .slice va C.length cap] := Has.new _ _ _ rfl
  have hb0 : Below w.heap.size w (w.alloc (.cells #[vg, .slice va C.length cap] 25)) := (Below.refl _ _).alloc (Nat.le_refl _) _
  generalize (w.alloc (.cells #[vg, .slice va C.length cap] 25)) = W0 at *
  go_loopw [8] (fun t wr => ∃ k : Nat, k ≤ C.length ∧ t = .int .i64 (k : Int) ∧ Hid (interF (C.drop k) a b = A) ∧ Hid (Has wr w.heap.size #[vg, .slice va C.length cap]) ∧ Hid (Below w.heap.size w wr)) (fun t _ => C.length - (intOf t).toNat)
  case atStart => exact ⟨0, by omega, rfl, hA, B0, hb0⟩
  case round =>
    clear B0 hb0
    obtain ⟨k, hkl, rfl, hs, B, hb⟩ := hrel
    obtain ⟨_, b1, _⟩ := id B.out
    by_cases hlt : k < C.length
    · obtain ⟨g, o, rfl, hg, P⟩ := hk.resolve_left (by intro e; rw [e] at hlt; simp at hlt)
      have p0 := (hb.out.cell (p := ⟨g, _, none⟩) hg).trans (P k hlt 0 _ rfl)
      have p1 := (hb.out.cell (p := ⟨g, _, none⟩) hg).trans (P k hlt 1 _ rfl)
      have p2 := (hb.out.cell (p := ⟨g, _, none⟩) hg).trans (P k hlt 2 _ rfl)
      have p3 := (hb.out.cell (p := ⟨g, _, none⟩) hg).trans (P k hlt 3 _ rfl)
      simp only [Nat.add_zero] at p0
      have hstep := interF_step C a b k hlt
      rw [hs.out] at hstep
      generalize C[k].a = xa at *
      generalize C[k].b = xb at *
      generalize C[k].ab = xab at *
      generalize C[k].ba = xba at *
      have t1 : (k : Int) < (C.length : Int) := by omega
      have t0 : (0 : Int) ≤ (k : Int) := by omega
      have t2 : k + 1 ≤ C.length := hlt
      clear P hk hs
      have hbN : Below w.heap.size w (wr.alloc (.cells #[.int .i64 xa, .int .i64 xb, .int .i64 xab, .int .i64 xba] 47)) := hb.out.alloc hb.out.size _
      by_cases e1 : xa = a ∧ xb = b
      · rw [if_pos e1] at hstep
        obtain ⟨rfl, rfl⟩ := e1
        subst hstep
        go_wp2
        skip
        go_wp2
        exact bodyPost_ret (v := .tuple #[.int .i64 xab, .bool true]) (by simp [results, Try.results9, go_sem]) rfl ⟨rfl, hbN⟩
      · rw [if_neg e1] at hstep
        have e1' : (xa == a && xb == b) = false := by simpa using e1
        by_cases e2 : xa = b ∧ xb = a
        · rw [if_pos e2] at hstep
          obtain ⟨rfl, rfl⟩ := e2
          subst hstep
          have f : ¬ xa = xb := fun h => e1 ⟨h, h.symm⟩
          go_wp2
          exact bodyPost_ret (v := .tuple #[.int .i64 xba, .bool true]) (by simp [results, Try.results9, go_sem]) rfl ⟨rfl, hbN⟩
        · rw [if_neg e2] at hstep
          have e2' : (xa == b && xb == a) = false := by simpa using e2
          have BN := B.out.alloc (.cells #[.int .i64 xa, .int .i64 xb, .int .i64 xab, .int .i64 xba] 47)
          have hs' : Hid (interF (C.drop (k + 1)) a b = A) := hstep.symm
          clear e1' e2' hstep
          by_cases f1 : xa = a
          · have f2 : ¬ xb = b := fun h => e1 ⟨f1, h⟩
            by_cases f3 : xa = b
            · have f4 : ¬ xb = a := fun h => e2 ⟨f3, h⟩
              clear e1 e2
              subst f1
              subst f3
              go_wp2
              go_roundw
              case rel => exact ⟨k + 1, by omega, by go_num, hs', BN, hbN⟩
              case measure => simp [intOf]; omega
            · clear e1 e2
              subst f1
              go_wp2
              go_roundw
              case rel => exact ⟨k + 1, by omega, by go_num, hs', BN, hbN⟩
              case measure => simp [intOf]; omega
          · by_cases f3 : xa = b
            · have f4 : ¬ xb = a := fun h => e2 ⟨f3, h⟩
              clear e1 e2
              subst f3
              go_wp2
              go_roundw
              case rel => exact ⟨k + 1, by omega, by go_num, hs', BN, hbN⟩
              case measure => simp [intOf]; omega
            · clear e1 e2
              go_wp2
              go_roundw
              case rel => exact ⟨k + 1, by omega, by go_num, hs', BN, hbN⟩
              case measure => simp [intOf]; omega

    · have t1 : ¬ (k : Int) < (C.length : Int) := by omega
      have hA' : A = (0, false) := by rw [← hs.out]; exact interF_end C a b k (by omega)
      subst hA'
      clear hs
      go_wp2
      exact bodyPost_ret (v := .tuple #[.int .i64 0, .bool false]) (by simp [results, Try.results9, go_sem]) rfl ⟨rfl, hb.out⟩
end Go.Proofs.Ytiaklfjpmmifjaa
