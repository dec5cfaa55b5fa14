import Derived.Test.YthjdflcakngpiaaDoorFmC
namespace Go.Proofs.YthjdflcakngpiaaDoor
open Go.RowKit
set_option linter.unusedVariables false

theorem bel1 {w : World} (o : Obj) : Below w.heap.size w (w.alloc o) := (Below.refl _ _).alloc (Nat.le_refl _) o
set_option maxRecDepth 100000 in
set_option maxHeartbeats 4000000 in
theorem stmt_any (x : St) (v : Value) (w : World) (hN' : Nds w v x.expr) (hl : x.expr.length ≤ 2932031007317) (hs : Sm x.name) (hse : SmE x.expr) (t : Tb w) :
    Calls Tryd.prog 56 #[.agg #[.int .i64 x.kind, .string x.name, .int .i64 x.ix, v, .int .i64 x.line, .int .i64 x.col]] w fun e w' => e = .returned (.bool (fSt x)) ∧ Below w.heap.size w w' := by
  obtain ⟨kd, nm, ix, L, ln, cl⟩ := x
  simp only at *
  have hN := fun (X : World) (tX : Tb X) => isName_any nm X hs tX
  have hE := fun (X : World) (hX : Below w.heap.size w X) => expr_any L v X (hN'.below hX) hl hse (t.below hX)
  obtain ⟨a, c, rfl, -⟩ := hN'
  clear hs hse
  by_cases i0 : ix = 0
  case neg =>
    have D0 : (ix == 0) = false := by simpa using i0
    have D1 : (ix != 0) = true := by simpa using i0
    have hF : fSt ⟨kd, nm, ix, L, ln, cl⟩ = false := by clear hN hE t; unfold fSt emB; simp_all
    rw [hF]
    clear hF
    go_enter Tryd.func56, Tryd.ntmps56
    go_wp2_with fail
    go_ret
    exact ⟨rfl, bel1 _⟩
  subst i0
  by_cases k1 : kd = 1
  · subst k1
    cases hn : nmB nm with
    | false =>
      rw [hn] at hN
      have hF : fSt ⟨1, nm, 0, L, ln, cl⟩ = false := by clear hN hE t; unfold fSt emB; simp_all
      rw [hF]
      clear hF
      go_enter Tryd.func56, Tryd.ntmps56
      go_wp2_with (go_at_call 16; (with_reducible refine Calls.mono (hN _ (t.alloc _)) ?_); rintro e w1 ⟨rfl, hb1⟩; have hbM := bel_after (bel1 _) (by simp) hb1; have K1 := Has.below (Has.new w _ 66 rfl) hb1; obtain ⟨_, c1, _⟩ := id K1)
      go_ret
      exact ⟨rfl, hbM⟩
    | true =>
      rw [hn] at hN
      have hF : fSt ⟨1, nm, 0, L, ln, cl⟩ = fEx L := by clear hN hE t; unfold fSt emB; simp_all
      rw [hF]
      clear hF
      go_enter Tryd.func56, Tryd.ntmps56
      go_wp2_with (first | (go_at_call 16; (with_reducible refine Calls.mono (hN _ (t.alloc _)) ?_); rintro e w1 ⟨rfl, hb1⟩; have hbM := bel_after (bel1 _) (by simp) hb1; have K1 := Has.below (Has.new w _ 66 rfl) hb1; obtain ⟨_, c1, _⟩ := id K1) | (go_at_call 7; (with_reducible refine Calls.mono (hE _ (by exact hbM)) ?_); rintro e w2 ⟨rfl, hb2⟩; have hbN := bel_after hbM hbM.size hb2))
      go_ret
      exact ⟨rfl, hbN⟩
  by_cases k2 : kd = 2
  · subst k2
    cases hn : nmB nm with
    | false =>
      rw [hn] at hN
      have hF : fSt ⟨2, nm, 0, L, ln, cl⟩ = false := by clear hN hE t; unfold fSt emB; simp_all
      rw [hF]
      clear hF
      go_enter Tryd.func56, Tryd.ntmps56
      go_wp2_with (go_at_call 16; (with_reducible refine Calls.mono (hN _ (t.alloc _)) ?_); rintro e w1 ⟨rfl, hb1⟩; have hbM := bel_after (bel1 _) (by simp) hb1; have K1 := Has.below (Has.new w _ 66 rfl) hb1; obtain ⟨_, c1, _⟩ := id K1)
      go_ret
      exact ⟨rfl, hbM⟩
    | true =>
      rw [hn] at hN
      by_cases l0 : L.length = 0
      · obtain rfl : L = [] := List.length_eq_zero_iff.1 l0
        have hF : fSt ⟨2, nm, 0, [], ln, cl⟩ = true := by clear hN hE t; unfold fSt emB; simp_all
        rw [hF]
        clear hF
        go_enter Tryd.func56, Tryd.ntmps56
        go_wp2_with (go_at_call 16; (with_reducible refine Calls.mono (hN _ (t.alloc _)) ?_); rintro e w1 ⟨rfl, hb1⟩; have hbM := bel_after (bel1 _) (by simp) hb1; have K1 := Has.below (Has.new w _ 66 rfl) hb1; obtain ⟨_, c1, _⟩ := id K1)
        go_ret
        exact ⟨rfl, hbM⟩
      · have D2 : ((L.length : Int) == 0) = false := by simp; intro e; rw [e] at l0; exact l0 rfl
        have hF : fSt ⟨2, nm, 0, L, ln, cl⟩ = false := by clear hN hE t; unfold fSt emB; simp_all
        rw [hF]
        clear hF
        go_enter Tryd.func56, Tryd.ntmps56
        go_wp2_with (go_at_call 16; (with_reducible refine Calls.mono (hN _ (t.alloc _)) ?_); rintro e w1 ⟨rfl, hb1⟩; have hbM := bel_after (bel1 _) (by simp) hb1; have K1 := Has.below (Has.new w _ 66 rfl) hb1; obtain ⟨_, c1, _⟩ := id K1)
        go_ret
        exact ⟨rfl, hbM⟩
  by_cases k3 : kd = 3
  · subst k3
    cases hn : nmB nm with
    | false =>
      rw [hn] at hN
      have hF : fSt ⟨3, nm, 0, L, ln, cl⟩ = false := by clear hN hE t; unfold fSt emB; simp_all
      rw [hF]
      clear hF
      go_enter Tryd.func56, Tryd.ntmps56
      go_wp2_with (go_at_call 16; (with_reducible refine Calls.mono (hN _ (t.alloc _)) ?_); rintro e w1 ⟨rfl, hb1⟩; have hbM := bel_after (bel1 _) (by simp) hb1; have K1 := Has.below (Has.new w _ 66 rfl) hb1; obtain ⟨_, c1, _⟩ := id K1)
      go_ret
      exact ⟨rfl, hbM⟩
    | true =>
      rw [hn] at hN
      by_cases l0 : L.length = 0
      · obtain rfl : L = [] := List.length_eq_zero_iff.1 l0
        have hF : fSt ⟨3, nm, 0, [], ln, cl⟩ = true := by clear hN hE t; unfold fSt emB; simp_all
        rw [hF]
        clear hF
        go_enter Tryd.func56, Tryd.ntmps56
        go_wp2_with (go_at_call 16; (with_reducible refine Calls.mono (hN _ (t.alloc _)) ?_); rintro e w1 ⟨rfl, hb1⟩; have hbM := bel_after (bel1 _) (by simp) hb1; have K1 := Has.below (Has.new w _ 66 rfl) hb1; obtain ⟨_, c1, _⟩ := id K1)
        go_ret
        exact ⟨rfl, hbM⟩
      · have D2 : ((L.length : Int) == 0) = false := by simp; intro e; rw [e] at l0; exact l0 rfl
        have hF : fSt ⟨3, nm, 0, L, ln, cl⟩ = false := by clear hN hE t; unfold fSt emB; simp_all
        rw [hF]
        clear hF
        go_enter Tryd.func56, Tryd.ntmps56
        go_wp2_with (go_at_call 16; (with_reducible refine Calls.mono (hN _ (t.alloc _)) ?_); rintro e w1 ⟨rfl, hb1⟩; have hbM := bel_after (bel1 _) (by simp) hb1; have K1 := Has.below (Has.new w _ 66 rfl) hb1; obtain ⟨_, c1, _⟩ := id K1)
        go_ret
        exact ⟨rfl, hbM⟩
  by_cases k4 : kd = 4
  · subst k4
    cases hn : nmB nm with
    | false =>
      rw [hn] at hN
      have hF : fSt ⟨4, nm, 0, L, ln, cl⟩ = false := by clear hN hE t; unfold fSt emB; simp_all
      rw [hF]
      clear hF
      go_enter Tryd.func56, Tryd.ntmps56
      go_wp2_with (go_at_call 16; (with_reducible refine Calls.mono (hN _ (t.alloc _)) ?_); rintro e w1 ⟨rfl, hb1⟩; have hbM := bel_after (bel1 _) (by simp) hb1; have K1 := Has.below (Has.new w _ 66 rfl) hb1; obtain ⟨_, c1, _⟩ := id K1)
      go_ret
      exact ⟨rfl, hbM⟩
    | true =>
      rw [hn] at hN
      by_cases l0 : L.length = 0
      · obtain rfl : L = [] := List.length_eq_zero_iff.1 l0
        have hF : fSt ⟨4, nm, 0, [], ln, cl⟩ = true := by clear hN hE t; unfold fSt emB; simp_all
        rw [hF]
        clear hF
        go_enter Tryd.func56, Tryd.ntmps56
        go_wp2_with (go_at_call 16; (with_reducible refine Calls.mono (hN _ (t.alloc _)) ?_); rintro e w1 ⟨rfl, hb1⟩; have hbM := bel_after (bel1 _) (by simp) hb1; have K1 := Has.below (Has.new w _ 66 rfl) hb1; obtain ⟨_, c1, _⟩ := id K1)
        go_ret
        exact ⟨rfl, hbM⟩
      · have D2 : ((L.length : Int) == 0) = false := by simp; intro e; rw [e] at l0; exact l0 rfl
        have hF : fSt ⟨4, nm, 0, L, ln, cl⟩ = false := by clear hN hE t; unfold fSt emB; simp_all
        rw [hF]
        clear hF
        go_enter Tryd.func56, Tryd.ntmps56
        go_wp2_with (go_at_call 16; (with_reducible refine Calls.mono (hN _ (t.alloc _)) ?_); rintro e w1 ⟨rfl, hb1⟩; have hbM := bel_after (bel1 _) (by simp) hb1; have K1 := Has.below (Has.new w _ 66 rfl) hb1; obtain ⟨_, c1, _⟩ := id K1)
        go_ret
        exact ⟨rfl, hbM⟩
  by_cases k5 : kd = 5
  · subst k5
    cases hn : nmB nm with
    | false =>
      rw [hn] at hN
      have hF : fSt ⟨5, nm, 0, L, ln, cl⟩ = false := by clear hN hE t; unfold fSt emB; simp_all
      rw [hF]
      clear hF
      go_enter Tryd.func56, Tryd.ntmps56
      go_wp2_with (go_at_call 16; (with_reducible refine Calls.mono (hN _ (t.alloc _)) ?_); rintro e w1 ⟨rfl, hb1⟩; have hbM := bel_after (bel1 _) (by simp) hb1; have K1 := Has.below (Has.new w _ 66 rfl) hb1; obtain ⟨_, c1, _⟩ := id K1)
      go_ret
      exact ⟨rfl, hbM⟩
    | true =>
      rw [hn] at hN
      by_cases l0 : L.length = 0
      · obtain rfl : L = [] := List.length_eq_zero_iff.1 l0
        have hF : fSt ⟨5, nm, 0, [], ln, cl⟩ = true := by clear hN hE t; unfold fSt emB; simp_all
        rw [hF]
        clear hF
        go_enter Tryd.func56, Tryd.ntmps56
        go_wp2_with (go_at_call 16; (with_reducible refine Calls.mono (hN _ (t.alloc _)) ?_); rintro e w1 ⟨rfl, hb1⟩; have hbM := bel_after (bel1 _) (by simp) hb1; have K1 := Has.below (Has.new w _ 66 rfl) hb1; obtain ⟨_, c1, _⟩ := id K1)
        go_ret
        exact ⟨rfl, hbM⟩
      · have D2 : ((L.length : Int) == 0) = false := by simp; intro e; rw [e] at l0; exact l0 rfl
        have hF : fSt ⟨5, nm, 0, L, ln, cl⟩ = false := by clear hN hE t; unfold fSt emB; simp_all
        rw [hF]
        clear hF
        go_enter Tryd.func56, Tryd.ntmps56
        go_wp2_with (go_at_call 16; (with_reducible refine Calls.mono (hN _ (t.alloc _)) ?_); rintro e w1 ⟨rfl, hb1⟩; have hbM := bel_after (bel1 _) (by simp) hb1; have K1 := Has.below (Has.new w _ 66 rfl) hb1; obtain ⟨_, c1, _⟩ := id K1)
        go_ret
        exact ⟨rfl, hbM⟩
  by_cases k6 : kd = 6
  · subst k6
    cases hn : nmB nm with
    | false =>
      rw [hn] at hN
      have hF : fSt ⟨6, nm, 0, L, ln, cl⟩ = false := by clear hN hE t; unfold fSt emB; simp_all
      rw [hF]
      clear hF
      go_enter Tryd.func56, Tryd.ntmps56
      go_wp2_with (go_at_call 16; (with_reducible refine Calls.mono (hN _ (t.alloc _)) ?_); rintro e w1 ⟨rfl, hb1⟩; have hbM := bel_after (bel1 _) (by simp) hb1; have K1 := Has.below (Has.new w _ 66 rfl) hb1; obtain ⟨_, c1, _⟩ := id K1)
      go_ret
      exact ⟨rfl, hbM⟩
    | true =>
      rw [hn] at hN
      by_cases l0 : L.length = 0
      · obtain rfl : L = [] := List.length_eq_zero_iff.1 l0
        have hF : fSt ⟨6, nm, 0, [], ln, cl⟩ = true := by clear hN hE t; unfold fSt emB; simp_all
        rw [hF]
        clear hF
        go_enter Tryd.func56, Tryd.ntmps56
        go_wp2_with (go_at_call 16; (with_reducible refine Calls.mono (hN _ (t.alloc _)) ?_); rintro e w1 ⟨rfl, hb1⟩; have hbM := bel_after (bel1 _) (by simp) hb1; have K1 := Has.below (Has.new w _ 66 rfl) hb1; obtain ⟨_, c1, _⟩ := id K1)
        go_ret
        exact ⟨rfl, hbM⟩
      · have D2 : ((L.length : Int) == 0) = false := by simp; intro e; rw [e] at l0; exact l0 rfl
        have hF : fSt ⟨6, nm, 0, L, ln, cl⟩ = false := by clear hN hE t; unfold fSt emB; simp_all
        rw [hF]
        clear hF
        go_enter Tryd.func56, Tryd.ntmps56
        go_wp2_with (go_at_call 16; (with_reducible refine Calls.mono (hN _ (t.alloc _)) ?_); rintro e w1 ⟨rfl, hb1⟩; have hbM := bel_after (bel1 _) (by simp) hb1; have K1 := Has.below (Has.new w _ 66 rfl) hb1; obtain ⟨_, c1, _⟩ := id K1)
        go_ret
        exact ⟨rfl, hbM⟩
  by_cases k7 : kd = 7
  · subst k7
    cases hn : nm.toList.isEmpty with
    | false =>
      have hF : fSt ⟨7, nm, 0, L, ln, cl⟩ = false := by clear hN hE t; unfold fSt emB; simp_all
      rw [hF]
      clear hF
      go_enter Tryd.func56, Tryd.ntmps56
      go_wp2_with fail
      go_ret
      exact ⟨rfl, bel1 _⟩
    | true =>
      have hF : fSt ⟨7, nm, 0, L, ln, cl⟩ = fEx L := by clear hN hE t; unfold fSt emB; simp_all
      rw [hF]
      clear hF
      go_enter Tryd.func56, Tryd.ntmps56
      go_wp2_with (go_at_call 7; (with_reducible refine Calls.mono (hE _ (by exact bel1 _)) ?_); rintro e w2 ⟨rfl, hb2⟩; have hbN := bel_after (bel1 _) (by simp) hb2)
      go_ret
      exact ⟨rfl, hbN⟩
  by_cases k8 : kd = 8
  · subst k8
    cases hn : nm.toList.isEmpty with
    | false =>
      have hF : fSt ⟨8, nm, 0, L, ln, cl⟩ = false := by clear hN hE t; unfold fSt emB; simp_all
      rw [hF]
      clear hF
      go_enter Tryd.func56, Tryd.ntmps56
      go_wp2_with fail
      go_ret
      exact ⟨rfl, bel1 _⟩
    | true =>
      by_cases l0 : L.length = 0
      · obtain rfl : L = [] := List.length_eq_zero_iff.1 l0
        have hF : fSt ⟨8, nm, 0, [], ln, cl⟩ = true := by clear hN hE t; unfold fSt emB; simp_all
        rw [hF]
        clear hF
        go_enter Tryd.func56, Tryd.ntmps56
        go_wp2_with fail
        go_ret
        exact ⟨rfl, bel1 _⟩
      · have D2 : ((L.length : Int) == 0) = false := by simp; intro e; rw [e] at l0; exact l0 rfl
        have hF : fSt ⟨8, nm, 0, L, ln, cl⟩ = false := by clear hN hE t; unfold fSt emB; simp_all
        rw [hF]
        clear hF
        go_enter Tryd.func56, Tryd.ntmps56
        go_wp2_with fail
        go_ret
        exact ⟨rfl, bel1 _⟩
  by_cases k9 : kd = 9
  · subst k9
    cases hn : nm.toList.isEmpty with
    | false =>
      have hF : fSt ⟨9, nm, 0, L, ln, cl⟩ = false := by clear hN hE t; unfold fSt emB; simp_all
      rw [hF]
      clear hF
      go_enter Tryd.func56, Tryd.ntmps56
      go_wp2_with fail
      go_ret
      exact ⟨rfl, bel1 _⟩
    | true =>
      by_cases l0 : L.length = 0
      · obtain rfl : L = [] := List.length_eq_zero_iff.1 l0
        have hF : fSt ⟨9, nm, 0, [], ln, cl⟩ = true := by clear hN hE t; unfold fSt emB; simp_all
        rw [hF]
        clear hF
        go_enter Tryd.func56, Tryd.ntmps56
        go_wp2_with fail
        go_ret
        exact ⟨rfl, bel1 _⟩
      · have D2 : ((L.length : Int) == 0) = false := by simp; intro e; rw [e] at l0; exact l0 rfl
        have hF : fSt ⟨9, nm, 0, L, ln, cl⟩ = false := by clear hN hE t; unfold fSt emB; simp_all
        rw [hF]
        clear hF
        go_enter Tryd.func56, Tryd.ntmps56
        go_wp2_with fail
        go_ret
        exact ⟨rfl, bel1 _⟩
  have E1 : (kd == 1) = false := by simpa using k1
  have E2 : (kd == 2) = false := by simpa using k2
  have E3 : (kd == 3) = false := by simpa using k3
  have E4 : (kd == 4) = false := by simpa using k4
  have E5 : (kd == 5) = false := by simpa using k5
  have E6 : (kd == 6) = false := by simpa using k6
  have E7 : (kd == 7) = false := by simpa using k7
  have E8 : (kd == 8) = false := by simpa using k8
  have E9 : (kd == 9) = false := by simpa using k9
  have hF : fSt ⟨kd, nm, 0, L, ln, cl⟩ = false := by clear hN hE t; unfold fSt emB; simp_all
  rw [hF]
  clear hF
  go_enter Tryd.func56, Tryd.ntmps56
  go_wp2_with fail
  go_ret
  exact ⟨rfl, bel1 _⟩
set_option maxRecDepth 100000 in
set_option maxHeartbeats 4000000 in
theorem refStmt_any (x : St) (v : Value) (w : World) (hN' : Nds w v x.expr) (hl : x.expr.length ≤ 2932031007317) (hs : Sm x.name) (hse : SmE x.expr) (t : Tb w) :
    Calls Tryd.prog 60 #[.agg #[.int .i64 x.kind, .string x.name, .int .i64 x.ix, v, .int .i64 x.line, .int .i64 x.col]] w fun e w' => e = .returned (.bool (fSt x)) ∧ Below w.heap.size w w' := by
  obtain ⟨kd, nm, ix, L, ln, cl⟩ := x
  simp only at *
  have hN := fun (X : World) (tX : Tb X) => refName_any nm X hs tX
  have hE := fun (X : World) (hX : Below w.heap.size w X) => refExpr_any L v X (hN'.below hX) hl hse (t.below hX)
  obtain ⟨a, c, rfl, -⟩ := hN'
  clear hs hse
  by_cases i0 : ix = 0
  case neg =>
    have D0 : (ix == 0) = false := by simpa using i0
    have D1 : (ix != 0) = true := by simpa using i0
    have hF : fSt ⟨kd, nm, ix, L, ln, cl⟩ = false := by clear hN hE t; unfold fSt emB; simp_all
    rw [hF]
    clear hF
    go_enter Tryd.func60, Tryd.ntmps60
    go_wp2_with fail
    go_ret
    exact ⟨rfl, bel1 _⟩
  subst i0
  by_cases k1 : kd = 1
  · subst k1
    cases hn : nmB nm with
    | false =>
      rw [hn] at hN
      have hF : fSt ⟨1, nm, 0, L, ln, cl⟩ = false := by clear hN hE t; unfold fSt emB; simp_all
      rw [hF]
      clear hF
      go_enter Tryd.func60, Tryd.ntmps60
      go_wp2_with (go_at_call 20; (with_reducible refine Calls.mono (hN _ (t.alloc _)) ?_); rintro e w1 ⟨rfl, hb1⟩; have hbM := bel_after (bel1 _) (by simp) hb1; have K1 := Has.below (Has.new w _ 66 rfl) hb1; obtain ⟨_, c1, _⟩ := id K1)
      go_ret
      exact ⟨rfl, hbM⟩
    | true =>
      rw [hn] at hN
      have hF : fSt ⟨1, nm, 0, L, ln, cl⟩ = fEx L := by clear hN hE t; unfold fSt emB; simp_all
      rw [hF]
      clear hF
      go_enter Tryd.func60, Tryd.ntmps60
      go_wp2_with (first | (go_at_call 20; (with_reducible refine Calls.mono (hN _ (t.alloc _)) ?_); rintro e w1 ⟨rfl, hb1⟩; have hbM := bel_after (bel1 _) (by simp) hb1; have K1 := Has.below (Has.new w _ 66 rfl) hb1; obtain ⟨_, c1, _⟩ := id K1) | (go_at_call 9; (with_reducible refine Calls.mono (hE _ (by exact hbM)) ?_); rintro e w2 ⟨rfl, hb2⟩; have hbN := bel_after hbM hbM.size hb2))
      go_ret
      exact ⟨rfl, hbN⟩
  by_cases k2 : kd = 2
  · subst k2
    cases hn : nmB nm with
    | false =>
      rw [hn] at hN
      have hF : fSt ⟨2, nm, 0, L, ln, cl⟩ = false := by clear hN hE t; unfold fSt emB; simp_all
      rw [hF]
      clear hF
      go_enter Tryd.func60, Tryd.ntmps60
      go_wp2_with (go_at_call 20; (with_reducible refine Calls.mono (hN _ (t.alloc _)) ?_); rintro e w1 ⟨rfl, hb1⟩; have hbM := bel_after (bel1 _) (by simp) hb1; have K1 := Has.below (Has.new w _ 66 rfl) hb1; obtain ⟨_, c1, _⟩ := id K1)
      go_ret
      exact ⟨rfl, hbM⟩
    | true =>
      rw [hn] at hN
      by_cases l0 : L.length = 0
      · obtain rfl : L = [] := List.length_eq_zero_iff.1 l0
        have hF : fSt ⟨2, nm, 0, [], ln, cl⟩ = true := by clear hN hE t; unfold fSt emB; simp_all
        rw [hF]
        clear hF
        go_enter Tryd.func60, Tryd.ntmps60
        go_wp2_with (go_at_call 20; (with_reducible refine Calls.mono (hN _ (t.alloc _)) ?_); rintro e w1 ⟨rfl, hb1⟩; have hbM := bel_after (bel1 _) (by simp) hb1; have K1 := Has.below (Has.new w _ 66 rfl) hb1; obtain ⟨_, c1, _⟩ := id K1)
        go_ret
        exact ⟨rfl, hbM⟩
      · have D2 : ((L.length : Int) == 0) = false := by simp; intro e; rw [e] at l0; exact l0 rfl
        have hF : fSt ⟨2, nm, 0, L, ln, cl⟩ = false := by clear hN hE t; unfold fSt emB; simp_all
        rw [hF]
        clear hF
        go_enter Tryd.func60, Tryd.ntmps60
        go_wp2_with (go_at_call 20; (with_reducible refine Calls.mono (hN _ (t.alloc _)) ?_); rintro e w1 ⟨rfl, hb1⟩; have hbM := bel_after (bel1 _) (by simp) hb1; have K1 := Has.below (Has.new w _ 66 rfl) hb1; obtain ⟨_, c1, _⟩ := id K1)
        go_ret
        exact ⟨rfl, hbM⟩
  by_cases k3 : kd = 3
  · subst k3
    cases hn : nmB nm with
    | false =>
      rw [hn] at hN
      have hF : fSt ⟨3, nm, 0, L, ln, cl⟩ = false := by clear hN hE t; unfold fSt emB; simp_all
      rw [hF]
      clear hF
      go_enter Tryd.func60, Tryd.ntmps60
      go_wp2_with (go_at_call 20; (with_reducible refine Calls.mono (hN _ (t.alloc _)) ?_); rintro e w1 ⟨rfl, hb1⟩; have hbM := bel_after (bel1 _) (by simp) hb1; have K1 := Has.below (Has.new w _ 66 rfl) hb1; obtain ⟨_, c1, _⟩ := id K1)
      go_ret
      exact ⟨rfl, hbM⟩
    | true =>
      rw [hn] at hN
      by_cases l0 : L.length = 0
      · obtain rfl : L = [] := List.length_eq_zero_iff.1 l0
        have hF : fSt ⟨3, nm, 0, [], ln, cl⟩ = true := by clear hN hE t; unfold fSt emB; simp_all
        rw [hF]
        clear hF
        go_enter Tryd.func60, Tryd.ntmps60
        go_wp2_with (go_at_call 20; (with_reducible refine Calls.mono (hN _ (t.alloc _)) ?_); rintro e w1 ⟨rfl, hb1⟩; have hbM := bel_after (bel1 _) (by simp) hb1; have K1 := Has.below (Has.new w _ 66 rfl) hb1; obtain ⟨_, c1, _⟩ := id K1)
        go_ret
        exact ⟨rfl, hbM⟩
      · have D2 : ((L.length : Int) == 0) = false := by simp; intro e; rw [e] at l0; exact l0 rfl
        have hF : fSt ⟨3, nm, 0, L, ln, cl⟩ = false := by clear hN hE t; unfold fSt emB; simp_all
        rw [hF]
        clear hF
        go_enter Tryd.func60, Tryd.ntmps60
        go_wp2_with (go_at_call 20; (with_reducible refine Calls.mono (hN _ (t.alloc _)) ?_); rintro e w1 ⟨rfl, hb1⟩; have hbM := bel_after (bel1 _) (by simp) hb1; have K1 := Has.below (Has.new w _ 66 rfl) hb1; obtain ⟨_, c1, _⟩ := id K1)
        go_ret
        exact ⟨rfl, hbM⟩
  by_cases k4 : kd = 4
  · subst k4
    cases hn : nmB nm with
    | false =>
      rw [hn] at hN
      have hF : fSt ⟨4, nm, 0, L, ln, cl⟩ = false := by clear hN hE t; unfold fSt emB; simp_all
      rw [hF]
      clear hF
      go_enter Tryd.func60, Tryd.ntmps60
      go_wp2_with (go_at_call 20; (with_reducible refine Calls.mono (hN _ (t.alloc _)) ?_); rintro e w1 ⟨rfl, hb1⟩; have hbM := bel_after (bel1 _) (by simp) hb1; have K1 := Has.below (Has.new w _ 66 rfl) hb1; obtain ⟨_, c1, _⟩ := id K1)
      go_ret
      exact ⟨rfl, hbM⟩
    | true =>
      rw [hn] at hN
      by_cases l0 : L.length = 0
      · obtain rfl : L = [] := List.length_eq_zero_iff.1 l0
        have hF : fSt ⟨4, nm, 0, [], ln, cl⟩ = true := by clear hN hE t; unfold fSt emB; simp_all
        rw [hF]
        clear hF
        go_enter Tryd.func60, Tryd.ntmps60
        go_wp2_with (go_at_call 20; (with_reducible refine Calls.mono (hN _ (t.alloc _)) ?_); rintro e w1 ⟨rfl, hb1⟩; have hbM := bel_after (bel1 _) (by simp) hb1; have K1 := Has.below (Has.new w _ 66 rfl) hb1; obtain ⟨_, c1, _⟩ := id K1)
        go_ret
        exact ⟨rfl, hbM⟩
      · have D2 : ((L.length : Int) == 0) = false := by simp; intro e; rw [e] at l0; exact l0 rfl
        have hF : fSt ⟨4, nm, 0, L, ln, cl⟩ = false := by clear hN hE t; unfold fSt emB; simp_all
        rw [hF]
        clear hF
        go_enter Tryd.func60, Tryd.ntmps60
        go_wp2_with (go_at_call 20; (with_reducible refine Calls.mono (hN _ (t.alloc _)) ?_); rintro e w1 ⟨rfl, hb1⟩; have hbM := bel_after (bel1 _) (by simp) hb1; have K1 := Has.below (Has.new w _ 66 rfl) hb1; obtain ⟨_, c1, _⟩ := id K1)
        go_ret
        exact ⟨rfl, hbM⟩
  by_cases k5 : kd = 5
  · subst k5
    cases hn : nmB nm with
    | false =>
      rw [hn] at hN
      have hF : fSt ⟨5, nm, 0, L, ln, cl⟩ = false := by clear hN hE t; unfold fSt emB; simp_all
      rw [hF]
      clear hF
      go_enter Tryd.func60, Tryd.ntmps60
      go_wp2_with (go_at_call 20; (with_reducible refine Calls.mono (hN _ (t.alloc _)) ?_); rintro e w1 ⟨rfl, hb1⟩; have hbM := bel_after (bel1 _) (by simp) hb1; have K1 := Has.below (Has.new w _ 66 rfl) hb1; obtain ⟨_, c1, _⟩ := id K1)
      go_ret
      exact ⟨rfl, hbM⟩
    | true =>
      rw [hn] at hN
      by_cases l0 : L.length = 0
      · obtain rfl : L = [] := List.length_eq_zero_iff.1 l0
        have hF : fSt ⟨5, nm, 0, [], ln, cl⟩ = true := by clear hN hE t; unfold fSt emB; simp_all
        rw [hF]
        clear hF
        go_enter Tryd.func60, Tryd.ntmps60
        go_wp2_with (go_at_call 20; (with_reducible refine Calls.mono (hN _ (t.alloc _)) ?_); rintro e w1 ⟨rfl, hb1⟩; have hbM := bel_after (bel1 _) (by simp) hb1; have K1 := Has.below (Has.new w _ 66 rfl) hb1; obtain ⟨_, c1, _⟩ := id K1)
        go_ret
        exact ⟨rfl, hbM⟩
      · have D2 : ((L.length : Int) == 0) = false := by simp; intro e; rw [e] at l0; exact l0 rfl
        have hF : fSt ⟨5, nm, 0, L, ln, cl⟩ = false := by clear hN hE t; unfold fSt emB; simp_all
        rw [hF]
        clear hF
        go_enter Tryd.func60, Tryd.ntmps60
        go_wp2_with (go_at_call 20; (with_reducible refine Calls.mono (hN _ (t.alloc _)) ?_); rintro e w1 ⟨rfl, hb1⟩; have hbM := bel_after (bel1 _) (by simp) hb1; have K1 := Has.below (Has.new w _ 66 rfl) hb1; obtain ⟨_, c1, _⟩ := id K1)
        go_ret
        exact ⟨rfl, hbM⟩
  by_cases k6 : kd = 6
  · subst k6
    cases hn : nmB nm with
    | false =>
      rw [hn] at hN
      have hF : fSt ⟨6, nm, 0, L, ln, cl⟩ = false := by clear hN hE t; unfold fSt emB; simp_all
      rw [hF]
      clear hF
      go_enter Tryd.func60, Tryd.ntmps60
      go_wp2_with (go_at_call 20; (with_reducible refine Calls.mono (hN _ (t.alloc _)) ?_); rintro e w1 ⟨rfl, hb1⟩; have hbM := bel_after (bel1 _) (by simp) hb1; have K1 := Has.below (Has.new w _ 66 rfl) hb1; obtain ⟨_, c1, _⟩ := id K1)
      go_ret
      exact ⟨rfl, hbM⟩
    | true =>
      rw [hn] at hN
      by_cases l0 : L.length = 0
      · obtain rfl : L = [] := List.length_eq_zero_iff.1 l0
        have hF : fSt ⟨6, nm, 0, [], ln, cl⟩ = true := by clear hN hE t; unfold fSt emB; simp_all
        rw [hF]
        clear hF
        go_enter Tryd.func60, Tryd.ntmps60
        go_wp2_with (go_at_call 20; (with_reducible refine Calls.mono (hN _ (t.alloc _)) ?_); rintro e w1 ⟨rfl, hb1⟩; have hbM := bel_after (bel1 _) (by simp) hb1; have K1 := Has.below (Has.new w _ 66 rfl) hb1; obtain ⟨_, c1, _⟩ := id K1)
        go_ret
        exact ⟨rfl, hbM⟩
      · have D2 : ((L.length : Int) == 0) = false := by simp; intro e; rw [e] at l0; exact l0 rfl
        have hF : fSt ⟨6, nm, 0, L, ln, cl⟩ = false := by clear hN hE t; unfold fSt emB; simp_all
        rw [hF]
        clear hF
        go_enter Tryd.func60, Tryd.ntmps60
        go_wp2_with (go_at_call 20; (with_reducible refine Calls.mono (hN _ (t.alloc _)) ?_); rintro e w1 ⟨rfl, hb1⟩; have hbM := bel_after (bel1 _) (by simp) hb1; have K1 := Has.below (Has.new w _ 66 rfl) hb1; obtain ⟨_, c1, _⟩ := id K1)
        go_ret
        exact ⟨rfl, hbM⟩
  by_cases k7 : kd = 7
  · subst k7
    cases hn : nm.toList.isEmpty with
    | false =>
      have hF : fSt ⟨7, nm, 0, L, ln, cl⟩ = false := by clear hN hE t; unfold fSt emB; simp_all
      rw [hF]
      clear hF
      go_enter Tryd.func60, Tryd.ntmps60
      go_wp2_with fail
      go_ret
      exact ⟨rfl, bel1 _⟩
    | true =>
      have hF : fSt ⟨7, nm, 0, L, ln, cl⟩ = fEx L := by clear hN hE t; unfold fSt emB; simp_all
      rw [hF]
      clear hF
      go_enter Tryd.func60, Tryd.ntmps60
      go_wp2_with (go_at_call 9; (with_reducible refine Calls.mono (hE _ (by exact bel1 _)) ?_); rintro e w2 ⟨rfl, hb2⟩; have hbN := bel_after (bel1 _) (by simp) hb2)
      go_ret
      exact ⟨rfl, hbN⟩
  by_cases k8 : kd = 8
  · subst k8
    cases hn : nm.toList.isEmpty with
    | false =>
      have hF : fSt ⟨8, nm, 0, L, ln, cl⟩ = false := by clear hN hE t; unfold fSt emB; simp_all
      rw [hF]
      clear hF
      go_enter Tryd.func60, Tryd.ntmps60
      go_wp2_with fail
      go_ret
      exact ⟨rfl, bel1 _⟩
    | true =>
      by_cases l0 : L.length = 0
      · obtain rfl : L = [] := List.length_eq_zero_iff.1 l0
        have hF : fSt ⟨8, nm, 0, [], ln, cl⟩ = true := by clear hN hE t; unfold fSt emB; simp_all
        rw [hF]
        clear hF
        go_enter Tryd.func60, Tryd.ntmps60
        go_wp2_with fail
        go_ret
        exact ⟨rfl, bel1 _⟩
      · have D2 : ((L.length : Int) == 0) = false := by simp; intro e; rw [e] at l0; exact l0 rfl
        have hF : fSt ⟨8, nm, 0, L, ln, cl⟩ = false := by clear hN hE t; unfold fSt emB; simp_all
        rw [hF]
        clear hF
        go_enter Tryd.func60, Tryd.ntmps60
        go_wp2_with fail
        go_ret
        exact ⟨rfl, bel1 _⟩
  by_cases k9 : kd = 9
  · subst k9
    cases hn : nm.toList.isEmpty with
    | false =>
      have hF : fSt ⟨9, nm, 0, L, ln, cl⟩ = false := by clear hN hE t; unfold fSt emB; simp_all
      rw [hF]
      clear hF
      go_enter Tryd.func60, Tryd.ntmps60
      go_wp2_with fail
      go_ret
      exact ⟨rfl, bel1 _⟩
    | true =>
      by_cases l0 : L.length = 0
      · obtain rfl : L = [] := List.length_eq_zero_iff.1 l0
        have hF : fSt ⟨9, nm, 0, [], ln, cl⟩ = true := by clear hN hE t; unfold fSt emB; simp_all
        rw [hF]
        clear hF
        go_enter Tryd.func60, Tryd.ntmps60
        go_wp2_with fail
        go_ret
        exact ⟨rfl, bel1 _⟩
      · have D2 : ((L.length : Int) == 0) = false := by simp; intro e; rw [e] at l0; exact l0 rfl
        have hF : fSt ⟨9, nm, 0, L, ln, cl⟩ = false := by clear hN hE t; unfold fSt emB; simp_all
        rw [hF]
        clear hF
        go_enter Tryd.func60, Tryd.ntmps60
        go_wp2_with fail
        go_ret
        exact ⟨rfl, bel1 _⟩
  have E1 : (kd == 1) = false := by simpa using k1
  have E2 : (kd == 2) = false := by simpa using k2
  have E3 : (kd == 3) = false := by simpa using k3
  have E4 : (kd == 4) = false := by simpa using k4
  have E5 : (kd == 5) = false := by simpa using k5
  have E6 : (kd == 6) = false := by simpa using k6
  have E7 : (kd == 7) = false := by simpa using k7
  have E8 : (kd == 8) = false := by simpa using k8
  have E9 : (kd == 9) = false := by simpa using k9
  have hF : fSt ⟨kd, nm, 0, L, ln, cl⟩ = false := by clear hN hE t; unfold fSt emB; simp_all
  rw [hF]
  clear hF
  go_enter Tryd.func60, Tryd.ntmps60
  go_wp2_with fail
  go_ret
  exact ⟨rfl, bel1 _⟩
end Go.Proofs.YthjdflcakngpiaaDoor
