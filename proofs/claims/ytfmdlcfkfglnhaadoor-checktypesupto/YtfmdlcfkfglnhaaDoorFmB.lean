import Derived.Test.YtfmdlcfkfglnhaaDoorFmA
import Derived.Test.YtfmdlcfkfglnhaaDoorNesA
namespace Go.Proofs.YtfmdlcfkfglnhaaDoor
open Go.RowKit
set_option linter.unusedVariables false

set_option maxRecDepth 100000 in
set_option maxHeartbeats 4000000 in
theorem node_any (x : Nd) (w : World) (hs : Sm x.name) (t : Tb w) :
    Calls Tryd.prog 19 #[.agg #[.int .i64 x.op, .int .i32 x.val, .string x.name, .int .i64 x.line, .int .i64 x.col]] w fun e w' => e = .returned (.bool (fNd x)) ∧ Below w.heap.size w w' := by
  obtain ⟨op, val, nm, ln, cl⟩ := x
  simp only at *
  have hN := fun (X : World) (tX : Tb X) => isName_any nm X hs tX
  by_cases o1 : op = 1
  · subst o1
    by_cases v0 : 0 ≤ val
    · have v0' : val ≥ 0 := v0
      go_enter Tryd.func19, Tryd.ntmps19
      go_wp2_with (go_at_call 31; (with_reducible refine Calls.mono (hN _ (t.alloc _)) ?_); rintro e w1 ⟨rfl, hb1⟩; have hbM := bel_after ((Below.refl _ _).alloc (Nat.le_refl _) _) (by simp) hb1)
      go_ret
      exact ⟨by simp [fNd, emB, v0], by first | exact hbM | exact (Below.refl _ _).alloc (Nat.le_refl _) _⟩
    · have v0' : ¬ val ≥ 0 := v0
      go_enter Tryd.func19, Tryd.ntmps19
      go_wp2_with (go_at_call 31; (with_reducible refine Calls.mono (hN _ (t.alloc _)) ?_); rintro e w1 ⟨rfl, hb1⟩; have hbM := bel_after ((Below.refl _ _).alloc (Nat.le_refl _) _) (by simp) hb1)
      go_ret
      exact ⟨by have n0 : ¬ 0 ≤ val := (by omega); simp [fNd, n0], by first | exact hbM | exact (Below.refl _ _).alloc (Nat.le_refl _) _⟩
  by_cases o2 : op = 2
  · subst o2
    by_cases v0 : val = 0
    · subst v0
      go_enter Tryd.func19, Tryd.ntmps19
      go_wp2_with (go_at_call 31; (with_reducible refine Calls.mono (hN _ (t.alloc _)) ?_); rintro e w1 ⟨rfl, hb1⟩; have hbM := bel_after ((Below.refl _ _).alloc (Nat.le_refl _) _) (by simp) hb1)
      go_ret
      exact ⟨by simp [fNd, emB], by first | exact hbM | exact (Below.refl _ _).alloc (Nat.le_refl _) _⟩
    · have D0 : (val == 0) = false := by simpa using v0
      by_cases v1 : val = 1
      · subst v1
        go_enter Tryd.func19, Tryd.ntmps19
        go_wp2_with (go_at_call 31; (with_reducible refine Calls.mono (hN _ (t.alloc _)) ?_); rintro e w1 ⟨rfl, hb1⟩; have hbM := bel_after ((Below.refl _ _).alloc (Nat.le_refl _) _) (by simp) hb1)
        go_ret
        exact ⟨by simp [fNd, emB], by first | exact hbM | exact (Below.refl _ _).alloc (Nat.le_refl _) _⟩
      · have D1 : (val == 1) = false := by simpa using v1
        go_enter Tryd.func19, Tryd.ntmps19
        go_wp2_with (go_at_call 31; (with_reducible refine Calls.mono (hN _ (t.alloc _)) ?_); rintro e w1 ⟨rfl, hb1⟩; have hbM := bel_after ((Below.refl _ _).alloc (Nat.le_refl _) _) (by simp) hb1)
        go_ret
        exact ⟨by simp [fNd, v0, v1], by first | exact hbM | exact (Below.refl _ _).alloc (Nat.le_refl _) _⟩
  by_cases o3 : op = 3
  · subst o3
    by_cases v0 : val = 0
    · subst v0
      go_enter Tryd.func19, Tryd.ntmps19
      go_wp2_with (go_at_call 31; (with_reducible refine Calls.mono (hN _ (t.alloc _)) ?_); rintro e w1 ⟨rfl, hb1⟩; have hbM := bel_after ((Below.refl _ _).alloc (Nat.le_refl _) _) (by simp) hb1)
      go_ret
      exact ⟨by simp [fNd], by first | exact hbM | exact (Below.refl _ _).alloc (Nat.le_refl _) _⟩
    · have D0 : (val == 0) = false := by simpa using v0
      go_enter Tryd.func19, Tryd.ntmps19
      go_wp2_with (go_at_call 31; (with_reducible refine Calls.mono (hN _ (t.alloc _)) ?_); rintro e w1 ⟨rfl, hb1⟩; have hbM := bel_after ((Below.refl _ _).alloc (Nat.le_refl _) _) (by simp) hb1)
      go_ret
      exact ⟨by simp [fNd, v0], by first | exact hbM | exact (Below.refl _ _).alloc (Nat.le_refl _) _⟩
  by_cases o5 : op = 5
  · subst o5
    by_cases v0 : val = 0
    · subst v0
      go_enter Tryd.func19, Tryd.ntmps19
      go_wp2_with (go_at_call 31; (with_reducible refine Calls.mono (hN _ (t.alloc _)) ?_); rintro e w1 ⟨rfl, hb1⟩; have hbM := bel_after ((Below.refl _ _).alloc (Nat.le_refl _) _) (by simp) hb1)
      go_ret
      exact ⟨by simp [fNd], by first | exact hbM | exact (Below.refl _ _).alloc (Nat.le_refl _) _⟩
    · have D0 : (val == 0) = false := by simpa using v0
      go_enter Tryd.func19, Tryd.ntmps19
      go_wp2_with (go_at_call 31; (with_reducible refine Calls.mono (hN _ (t.alloc _)) ?_); rintro e w1 ⟨rfl, hb1⟩; have hbM := bel_after ((Below.refl _ _).alloc (Nat.le_refl _) _) (by simp) hb1)
      go_ret
      exact ⟨by simp [fNd, v0], by first | exact hbM | exact (Below.refl _ _).alloc (Nat.le_refl _) _⟩
  by_cases o6 : op = 6
  · subst o6
    by_cases v0 : val = 0
    · subst v0
      go_enter Tryd.func19, Tryd.ntmps19
      go_wp2_with (go_at_call 31; (with_reducible refine Calls.mono (hN _ (t.alloc _)) ?_); rintro e w1 ⟨rfl, hb1⟩; have hbM := bel_after ((Below.refl _ _).alloc (Nat.le_refl _) _) (by simp) hb1)
      go_ret
      exact ⟨by simp [fNd], by first | exact hbM | exact (Below.refl _ _).alloc (Nat.le_refl _) _⟩
    · have D0 : (val == 0) = false := by simpa using v0
      go_enter Tryd.func19, Tryd.ntmps19
      go_wp2_with (go_at_call 31; (with_reducible refine Calls.mono (hN _ (t.alloc _)) ?_); rintro e w1 ⟨rfl, hb1⟩; have hbM := bel_after ((Below.refl _ _).alloc (Nat.le_refl _) _) (by simp) hb1)
      go_ret
      exact ⟨by simp [fNd, v0], by first | exact hbM | exact (Below.refl _ _).alloc (Nat.le_refl _) _⟩
  by_cases o7 : op = 7
  · subst o7
    go_enter Tryd.func19, Tryd.ntmps19
    go_wp2_with (go_at_call 31; (with_reducible refine Calls.mono (hN _ (t.alloc _)) ?_); rintro e w1 ⟨rfl, hb1⟩; have hbM := bel_after ((Below.refl _ _).alloc (Nat.le_refl _) _) (by simp) hb1)
    go_ret
    exact ⟨by simp [fNd], by first | exact hbM | exact (Below.refl _ _).alloc (Nat.le_refl _) _⟩
  by_cases o8 : op = 8
  · subst o8
    go_enter Tryd.func19, Tryd.ntmps19
    go_wp2_with (go_at_call 31; (with_reducible refine Calls.mono (hN _ (t.alloc _)) ?_); rintro e w1 ⟨rfl, hb1⟩; have hbM := bel_after ((Below.refl _ _).alloc (Nat.le_refl _) _) (by simp) hb1)
    go_ret
    exact ⟨by simp [fNd], by first | exact hbM | exact (Below.refl _ _).alloc (Nat.le_refl _) _⟩
  by_cases o9 : op = 9
  · subst o9
    go_enter Tryd.func19, Tryd.ntmps19
    go_wp2_with (go_at_call 31; (with_reducible refine Calls.mono (hN _ (t.alloc _)) ?_); rintro e w1 ⟨rfl, hb1⟩; have hbM := bel_after ((Below.refl _ _).alloc (Nat.le_refl _) _) (by simp) hb1)
    go_ret
    exact ⟨by simp [fNd], by first | exact hbM | exact (Below.refl _ _).alloc (Nat.le_refl _) _⟩
  by_cases o10 : op = 10
  · subst o10
    go_enter Tryd.func19, Tryd.ntmps19
    go_wp2_with (go_at_call 31; (with_reducible refine Calls.mono (hN _ (t.alloc _)) ?_); rintro e w1 ⟨rfl, hb1⟩; have hbM := bel_after ((Below.refl _ _).alloc (Nat.le_refl _) _) (by simp) hb1)
    go_ret
    exact ⟨by simp [fNd], by first | exact hbM | exact (Below.refl _ _).alloc (Nat.le_refl _) _⟩
  have E1 : (op == 1) = false := by simpa using o1
  have E2 : (op == 2) = false := by simpa using o2
  have E3 : (op == 3) = false := by simpa using o3
  have E5 : (op == 5) = false := by simpa using o5
  have E6 : (op == 6) = false := by simpa using o6
  have E7 : (op == 7) = false := by simpa using o7
  have E8 : (op == 8) = false := by simpa using o8
  have E9 : (op == 9) = false := by simpa using o9
  have E10 : (op == 10) = false := by simpa using o10
  by_cases v0 : val = 0
  · subst v0
    go_enter Tryd.func19, Tryd.ntmps19
    go_wp2_with (go_at_call 31; (with_reducible refine Calls.mono (hN _ (t.alloc _)) ?_); rintro e w1 ⟨rfl, hb1⟩; have hbM := bel_after ((Below.refl _ _).alloc (Nat.le_refl _) _) (by simp) hb1)
    go_ret
    exact ⟨by simp [fNd, emB, o1, o2, o3, o5, o6, o7, o8, o9, o10], by first | exact hbM | exact (Below.refl _ _).alloc (Nat.le_refl _) _⟩
  · have D0 : (val == 0) = false := by simpa using v0
    go_enter Tryd.func19, Tryd.ntmps19
    go_wp2_with (go_at_call 31; (with_reducible refine Calls.mono (hN _ (t.alloc _)) ?_); rintro e w1 ⟨rfl, hb1⟩; have hbM := bel_after ((Below.refl _ _).alloc (Nat.le_refl _) _) (by simp) hb1)
    go_ret
    exact ⟨by simp [fNd, o1, o2, o3, o5, o6, o7, o8, o9, o10, v0], by first | exact hbM | exact (Below.refl _ _).alloc (Nat.le_refl _) _⟩
set_option maxRecDepth 100000 in
set_option maxHeartbeats 4000000 in
theorem refNode_any (x : Nd) (w : World) (hs : Sm x.name) (t : Tb w) (har : arF x.op ≠ -1) :
    Calls Tryd.prog 24 #[.agg #[.int .i64 x.op, .int .i32 x.val, .string x.name, .int .i64 x.line, .int .i64 x.col]] w fun e w' => e = .returned (.bool (fNd x)) ∧ Below w.heap.size w w' := by
  obtain ⟨op, val, nm, ln, cl⟩ := x
  simp only at *
  have hN := fun (X : World) (tX : Tb X) => refName_any nm X hs tX
  have hAr := fun (X : World) => refArity_any op X
  have ha0 : 0 ≤ arF op := by unfold arF at har ⊢; split <;> (try split) <;> (try split) <;> simp_all
  have ha1 : arF op ≥ 0 := ha0
  by_cases o1 : op = 1
  · subst o1
    by_cases v0 : 0 ≤ val
    · have v0' : val ≥ 0 := v0
      go_enter Tryd.func24, Tryd.ntmps24
      go_wp2_with (first | (go_at_call 40; (with_reducible refine Calls.mono (hN _ (t.alloc _)) ?_); rintro e w1 ⟨rfl, hb1⟩; have hbM := bel_after ((Below.refl _ _).alloc (Nat.le_refl _) _) (by simp) hb1) | (go_at_call 37; (with_reducible refine Calls.mono (hAr _) ?_); rintro e w1 ⟨rfl, rfl⟩))
      go_ret
      exact ⟨by simp [fNd, emB, v0], by first | exact hbM | exact (Below.refl _ _).alloc (Nat.le_refl _) _⟩
    · have v0' : ¬ val ≥ 0 := v0
      go_enter Tryd.func24, Tryd.ntmps24
      go_wp2_with (first | (go_at_call 40; (with_reducible refine Calls.mono (hN _ (t.alloc _)) ?_); rintro e w1 ⟨rfl, hb1⟩; have hbM := bel_after ((Below.refl _ _).alloc (Nat.le_refl _) _) (by simp) hb1) | (go_at_call 37; (with_reducible refine Calls.mono (hAr _) ?_); rintro e w1 ⟨rfl, rfl⟩))
      go_ret
      exact ⟨by have n0 : ¬ 0 ≤ val := (by omega); simp [fNd, n0], by first | exact hbM | exact (Below.refl _ _).alloc (Nat.le_refl _) _⟩
  by_cases o2 : op = 2
  · subst o2
    by_cases v0 : val = 0
    · subst v0
      go_enter Tryd.func24, Tryd.ntmps24
      go_wp2_with (first | (go_at_call 40; (with_reducible refine Calls.mono (hN _ (t.alloc _)) ?_); rintro e w1 ⟨rfl, hb1⟩; have hbM := bel_after ((Below.refl _ _).alloc (Nat.le_refl _) _) (by simp) hb1) | (go_at_call 37; (with_reducible refine Calls.mono (hAr _) ?_); rintro e w1 ⟨rfl, rfl⟩))
      go_ret
      exact ⟨by simp [fNd, emB], by first | exact hbM | exact (Below.refl _ _).alloc (Nat.le_refl _) _⟩
    · have D0 : (val == 0) = false := by simpa using v0
      by_cases v1 : val = 1
      · subst v1
        go_enter Tryd.func24, Tryd.ntmps24
        go_wp2_with (first | (go_at_call 40; (with_reducible refine Calls.mono (hN _ (t.alloc _)) ?_); rintro e w1 ⟨rfl, hb1⟩; have hbM := bel_after ((Below.refl _ _).alloc (Nat.le_refl _) _) (by simp) hb1) | (go_at_call 37; (with_reducible refine Calls.mono (hAr _) ?_); rintro e w1 ⟨rfl, rfl⟩))
        go_ret
        exact ⟨by simp [fNd, emB], by first | exact hbM | exact (Below.refl _ _).alloc (Nat.le_refl _) _⟩
      · have D1 : (val == 1) = false := by simpa using v1
        go_enter Tryd.func24, Tryd.ntmps24
        go_wp2_with (first | (go_at_call 40; (with_reducible refine Calls.mono (hN _ (t.alloc _)) ?_); rintro e w1 ⟨rfl, hb1⟩; have hbM := bel_after ((Below.refl _ _).alloc (Nat.le_refl _) _) (by simp) hb1) | (go_at_call 37; (with_reducible refine Calls.mono (hAr _) ?_); rintro e w1 ⟨rfl, rfl⟩))
        go_ret
        exact ⟨by simp [fNd, v0, v1], by first | exact hbM | exact (Below.refl _ _).alloc (Nat.le_refl _) _⟩
  by_cases o3 : op = 3
  · subst o3
    by_cases v0 : val = 0
    · subst v0
      go_enter Tryd.func24, Tryd.ntmps24
      go_wp2_with (first | (go_at_call 40; (with_reducible refine Calls.mono (hN _ (t.alloc _)) ?_); rintro e w1 ⟨rfl, hb1⟩; have hbM := bel_after ((Below.refl _ _).alloc (Nat.le_refl _) _) (by simp) hb1) | (go_at_call 37; (with_reducible refine Calls.mono (hAr _) ?_); rintro e w1 ⟨rfl, rfl⟩))
      go_ret
      exact ⟨by simp [fNd], by first | exact hbM | exact (Below.refl _ _).alloc (Nat.le_refl _) _⟩
    · have D0 : (val == 0) = false := by simpa using v0
      go_enter Tryd.func24, Tryd.ntmps24
      go_wp2_with (first | (go_at_call 40; (with_reducible refine Calls.mono (hN _ (t.alloc _)) ?_); rintro e w1 ⟨rfl, hb1⟩; have hbM := bel_after ((Below.refl _ _).alloc (Nat.le_refl _) _) (by simp) hb1) | (go_at_call 37; (with_reducible refine Calls.mono (hAr _) ?_); rintro e w1 ⟨rfl, rfl⟩))
      go_ret
      exact ⟨by simp [fNd, v0], by first | exact hbM | exact (Below.refl _ _).alloc (Nat.le_refl _) _⟩
  by_cases o5 : op = 5
  · subst o5
    by_cases v0 : val = 0
    · subst v0
      go_enter Tryd.func24, Tryd.ntmps24
      go_wp2_with (first | (go_at_call 40; (with_reducible refine Calls.mono (hN _ (t.alloc _)) ?_); rintro e w1 ⟨rfl, hb1⟩; have hbM := bel_after ((Below.refl _ _).alloc (Nat.le_refl _) _) (by simp) hb1) | (go_at_call 37; (with_reducible refine Calls.mono (hAr _) ?_); rintro e w1 ⟨rfl, rfl⟩))
      go_ret
      exact ⟨by simp [fNd], by first | exact hbM | exact (Below.refl _ _).alloc (Nat.le_refl _) _⟩
    · have D0 : (val == 0) = false := by simpa using v0
      go_enter Tryd.func24, Tryd.ntmps24
      go_wp2_with (first | (go_at_call 40; (with_reducible refine Calls.mono (hN _ (t.alloc _)) ?_); rintro e w1 ⟨rfl, hb1⟩; have hbM := bel_after ((Below.refl _ _).alloc (Nat.le_refl _) _) (by simp) hb1) | (go_at_call 37; (with_reducible refine Calls.mono (hAr _) ?_); rintro e w1 ⟨rfl, rfl⟩))
      go_ret
      exact ⟨by simp [fNd, v0], by first | exact hbM | exact (Below.refl _ _).alloc (Nat.le_refl _) _⟩
  by_cases o6 : op = 6
  · subst o6
    by_cases v0 : val = 0
    · subst v0
      go_enter Tryd.func24, Tryd.ntmps24
      go_wp2_with (first | (go_at_call 40; (with_reducible refine Calls.mono (hN _ (t.alloc _)) ?_); rintro e w1 ⟨rfl, hb1⟩; have hbM := bel_after ((Below.refl _ _).alloc (Nat.le_refl _) _) (by simp) hb1) | (go_at_call 37; (with_reducible refine Calls.mono (hAr _) ?_); rintro e w1 ⟨rfl, rfl⟩))
      go_ret
      exact ⟨by simp [fNd], by first | exact hbM | exact (Below.refl _ _).alloc (Nat.le_refl _) _⟩
    · have D0 : (val == 0) = false := by simpa using v0
      go_enter Tryd.func24, Tryd.ntmps24
      go_wp2_with (first | (go_at_call 40; (with_reducible refine Calls.mono (hN _ (t.alloc _)) ?_); rintro e w1 ⟨rfl, hb1⟩; have hbM := bel_after ((Below.refl _ _).alloc (Nat.le_refl _) _) (by simp) hb1) | (go_at_call 37; (with_reducible refine Calls.mono (hAr _) ?_); rintro e w1 ⟨rfl, rfl⟩))
      go_ret
      exact ⟨by simp [fNd, v0], by first | exact hbM | exact (Below.refl _ _).alloc (Nat.le_refl _) _⟩
  by_cases o7 : op = 7
  · subst o7
    go_enter Tryd.func24, Tryd.ntmps24
    go_wp2_with (first | (go_at_call 40; (with_reducible refine Calls.mono (hN _ (t.alloc _)) ?_); rintro e w1 ⟨rfl, hb1⟩; have hbM := bel_after ((Below.refl _ _).alloc (Nat.le_refl _) _) (by simp) hb1) | (go_at_call 37; (with_reducible refine Calls.mono (hAr _) ?_); rintro e w1 ⟨rfl, rfl⟩))
    go_ret
    exact ⟨by simp [fNd], by first | exact hbM | exact (Below.refl _ _).alloc (Nat.le_refl _) _⟩
  by_cases o8 : op = 8
  · subst o8
    go_enter Tryd.func24, Tryd.ntmps24
    go_wp2_with (first | (go_at_call 40; (with_reducible refine Calls.mono (hN _ (t.alloc _)) ?_); rintro e w1 ⟨rfl, hb1⟩; have hbM := bel_after ((Below.refl _ _).alloc (Nat.le_refl _) _) (by simp) hb1) | (go_at_call 37; (with_reducible refine Calls.mono (hAr _) ?_); rintro e w1 ⟨rfl, rfl⟩))
    go_ret
    exact ⟨by simp [fNd], by first | exact hbM | exact (Below.refl _ _).alloc (Nat.le_refl _) _⟩
  by_cases o9 : op = 9
  · subst o9
    go_enter Tryd.func24, Tryd.ntmps24
    go_wp2_with (first | (go_at_call 40; (with_reducible refine Calls.mono (hN _ (t.alloc _)) ?_); rintro e w1 ⟨rfl, hb1⟩; have hbM := bel_after ((Below.refl _ _).alloc (Nat.le_refl _) _) (by simp) hb1) | (go_at_call 37; (with_reducible refine Calls.mono (hAr _) ?_); rintro e w1 ⟨rfl, rfl⟩))
    go_ret
    exact ⟨by simp [fNd], by first | exact hbM | exact (Below.refl _ _).alloc (Nat.le_refl _) _⟩
  by_cases o10 : op = 10
  · subst o10
    go_enter Tryd.func24, Tryd.ntmps24
    go_wp2_with (first | (go_at_call 40; (with_reducible refine Calls.mono (hN _ (t.alloc _)) ?_); rintro e w1 ⟨rfl, hb1⟩; have hbM := bel_after ((Below.refl _ _).alloc (Nat.le_refl _) _) (by simp) hb1) | (go_at_call 37; (with_reducible refine Calls.mono (hAr _) ?_); rintro e w1 ⟨rfl, rfl⟩))
    go_ret
    exact ⟨by simp [fNd], by first | exact hbM | exact (Below.refl _ _).alloc (Nat.le_refl _) _⟩
  have E1 : (op == 1) = false := by simpa using o1
  have E2 : (op == 2) = false := by simpa using o2
  have E3 : (op == 3) = false := by simpa using o3
  have E5 : (op == 5) = false := by simpa using o5
  have E6 : (op == 6) = false := by simpa using o6
  have E7 : (op == 7) = false := by simpa using o7
  have E8 : (op == 8) = false := by simpa using o8
  have E9 : (op == 9) = false := by simpa using o9
  have E10 : (op == 10) = false := by simpa using o10
  generalize arF op = ar at *
  by_cases v0 : val = 0
  · subst v0
    go_enter Tryd.func24, Tryd.ntmps24
    go_wp2_with (first | (go_at_call 40; (with_reducible refine Calls.mono (hN _ (t.alloc _)) ?_); rintro e w1 ⟨rfl, hb1⟩; have hbM := bel_after ((Below.refl _ _).alloc (Nat.le_refl _) _) (by simp) hb1) | (go_at_call 37; (with_reducible refine Calls.mono (hAr _) ?_); rintro e w1 ⟨rfl, rfl⟩))
    go_ret
    exact ⟨by simp [fNd, emB, o1, o2, o3, o5, o6, o7, o8, o9, o10], by first | exact hbM | exact (Below.refl _ _).alloc (Nat.le_refl _) _⟩
  · have D0 : (val == 0) = false := by simpa using v0
    go_enter Tryd.func24, Tryd.ntmps24
    go_wp2_with (first | (go_at_call 40; (with_reducible refine Calls.mono (hN _ (t.alloc _)) ?_); rintro e w1 ⟨rfl, hb1⟩; have hbM := bel_after ((Below.refl _ _).alloc (Nat.le_refl _) _) (by simp) hb1) | (go_at_call 37; (with_reducible refine Calls.mono (hAr _) ?_); rintro e w1 ⟨rfl, rfl⟩))
    go_ret
    exact ⟨by simp [fNd, o1, o2, o3, o5, o6, o7, o8, o9, o10, v0], by first | exact hbM | exact (Below.refl _ _).alloc (Nat.le_refl _) _⟩
end Go.Proofs.YtfmdlcfkfglnhaaDoor
