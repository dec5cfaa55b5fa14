import Derived.Test.YtddphepgcihdbaaTbN
import Derived.Test.YtddphepgcihdbaaTbAI
namespace Go.Proofs.Ytddphepgcihdbaa
open Go.RowKit
set_option linter.unusedVariables false
set_option linter.unusedSimpArgs false

set_option maxRecDepth 100000 in
set_option maxHeartbeats 4000000 in
theorem isPlus_any (n : Int) (w : World) : Calls Try.prog 60 #[.int .i64 n] w fun e w' => e = .returned (.bool (inB n (-720) 840)) ∧ w = w' := by
  by_cases h0 : (-720) ≤ n
  · have e : inB n (-720) 840 = decide (n ≤ 840) := by simp [inB, dayB, h0]
    rw [e]
    go_enter Try.func60, Try.ntmps60
    go_wp2
    go_ret
    exact ⟨rfl, rfl⟩
  · have e : inB n (-720) 840 = false := by simp [inB, dayB, h0]
    rw [e]
    go_enter Try.func60, Try.ntmps60
    go_wp2
    go_ret
    exact ⟨rfl, rfl⟩
set_option maxRecDepth 100000 in
set_option maxHeartbeats 4000000 in
theorem isDay_any (n : Int) (w : World) : Calls Try.prog 63 #[.int .i64 n] w fun e w' => e = .returned (.bool (dayB n)) ∧ w = w' := by
  by_cases h0 : 0 ≤ n
  · have e : dayB n = decide (n ≤ 146096) := by simp [inB, dayB, h0]
    rw [e]
    go_enter Try.func63, Try.ntmps63
    go_wp2
    go_ret
    exact ⟨rfl, rfl⟩
  · have e : dayB n = false := by simp [inB, dayB, h0]
    rw [e]
    go_enter Try.func63, Try.ntmps63
    go_wp2
    go_ret
    exact ⟨rfl, rfl⟩
set_option maxRecDepth 100000 in
set_option maxHeartbeats 4000000 in
theorem k67 (x : Sh) (w : World) : Calls Try.prog 59 #[.agg #[.int .i64 x.m, .int .i64 x.plus]] w fun e w' => e = .returned (.bool (inB x.plus (-720) 840)) ∧ Below w.heap.size w w' := by
  have c := fun W => isPlus_any x.plus W
  generalize inB x.plus (-720) 840 = R at *
  obtain ⟨m, p⟩ := x
  dsimp only at *
  go_enter Try.func59, Try.ntmps59
  go_wp2_with (go_at_call 60; (with_reducible refine (c _).mono ?_); rintro e w' ⟨rfl, rfl⟩)
  go_ret
  exact ⟨rfl, bel1⟩
set_option maxRecDepth 100000 in
set_option maxHeartbeats 4000000 in
theorem k73 (x : Ex) (w : World) : Calls Try.prog 65 #[.agg #[.int .i64 x.day, .int .i64 x.kind]] w fun e w' => e = .returned (.bool (dayB x.day)) ∧ Below w.heap.size w w' := by
  have c := fun W => isDay_any x.day W
  generalize dayB x.day = R at *
  obtain ⟨m, p⟩ := x
  dsimp only at *
  go_enter Try.func65, Try.ntmps65
  go_wp2_with (go_at_call 63; (with_reducible refine (c _).mono ?_); rintro e w' ⟨rfl, rfl⟩)
  go_ret
  exact ⟨rfl, bel1⟩
set_option maxRecDepth 100000 in
set_option maxHeartbeats 4000000 in
theorem k74 (x : Sh) (w : World) : Calls Try.prog 66 #[.agg #[.int .i64 x.m, .int .i64 x.plus]] w fun e w' => e = .returned (.bool (inB x.m 0 210379679)) ∧ Below w.heap.size w w' := by
  obtain ⟨m, p⟩ := x
  dsimp only
  by_cases h0 : 0 ≤ m
  · have e : inB m 0 210379679 = decide (m ≤ 210379679) := by simp [inB, h0]
    rw [e]
    go_enter Try.func66, Try.ntmps66
    go_wp2
    go_ret
    exact ⟨rfl, bel1⟩
  · have e : inB m 0 210379679 = false := by simp [inB, h0]
    rw [e]
    go_enter Try.func66, Try.ntmps66
    go_wp2
    go_ret
    exact ⟨rfl, bel1⟩
set_option maxRecDepth 100000 in
set_option maxHeartbeats 4000000 in
theorem k70 (x : Sn) (w : World) : Calls Try.prog 62 #[.agg #[.int .i64 x.fr, .int .i64 x.till, .int .i64 x.w0, .int .i64 x.w1, .int .i64 x.w2, .int .i64 x.w3, .int .i64 x.w4, .int .i64 x.w5, .int .i64 x.w6]] w fun e w' => e = .returned (.bool (snB x)) ∧ Below w.heap.size w w' := by
  have c1 := fun W => isDay_any x.fr W
  have c2 := fun W => isDay_any x.till W
  unfold snB
  generalize dayB x.fr = a at *
  generalize dayB x.till = b at *
  obtain ⟨f, l, x0, x1, x2, x3, x4, x5, x6⟩ := x
  dsimp only at *
  cases a <;> cases b <;>
  ( go_enter Try.func62, Try.ntmps62
    go_wp2_with (first | (go_at_call 63; (with_reducible refine (c1 _).mono ?_); rintro e w' ⟨rfl, rfl⟩) | (go_at_call 63; (with_reducible refine (c2 _).mono ?_); rintro e w' ⟨rfl, rfl⟩))
    go_ret
    exact ⟨rfl, bel1⟩)
set_option maxRecDepth 100000 in
set_option maxHeartbeats 4000000 in
theorem k65 (x : Rw) (w : World) : Calls Try.prog 57 #[.agg #[.int .i64 x.m, .int .i64 x.s]] w fun e w' => e = .returned (.bool (rwB x)) ∧ Below w.heap.size w w' := by
  obtain ⟨m, s⟩ := x
  obtain ⟨R, hR⟩ : ∃ R, R = rwB ⟨m, s⟩ := ⟨_, rfl⟩
  rw [← hR]
  have q : (¬ 0 ≤ m ∧ R = false) ∨ (0 ≤ m ∧ ¬ m < 1440 ∧ R = false) ∨ (0 ≤ m ∧ m < 1440 ∧ (s == -1) = true ∧ R = true) ∨ (0 ≤ m ∧ m < 1440 ∧ (s == -1) = false ∧ ¬ 0 ≤ s ∧ R = false) ∨ (0 ≤ m ∧ m < 1440 ∧ (s == -1) = false ∧ 0 ≤ s ∧ ¬ s ≤ 7 ∧ R = false) ∨ (0 ≤ m ∧ m < 1440 ∧ (s == -1) = false ∧ 0 ≤ s ∧ s ≤ 7 ∧ R = true) := by
    simp only [beq_iff_eq, beq_eq_false_iff_ne]
    have hR' := hR.symm
    cases R
    · simp only [rwB, inB, Bool.and_eq_false_iff, decide_eq_false_iff_not] at hR'
      simp; omega
    · simp only [rwB, inB, Bool.and_eq_true, decide_eq_true_eq] at hR'
      simp; omega
  clear hR
  rcases q with ⟨q1, rfl⟩ | ⟨q1, q2, rfl⟩ | ⟨q1, q2, q3, rfl⟩ | ⟨q1, q2, q3, q4, rfl⟩ | ⟨q1, q2, q3, q4, q5, rfl⟩ | ⟨q1, q2, q3, q4, q5, rfl⟩ <;>
  ( go_enter Try.func57, Try.ntmps57
    go_wp2
    go_ret
    exact ⟨rfl, bel1⟩)
set_option maxRecDepth 100000 in
set_option maxHeartbeats 4000000 in
theorem k56 (x : Dk) (w : World) (hs : x.name.size ≤ 140737488355328) : Calls Try.prog 48 #[.agg #[.string x.name, x.rv]] w fun e w' => e = .returned (.bool (nmB x.name)) ∧ Below w.heap.size w w' := by
  have c := fun W => isName_any x.name W hs
  generalize nmB x.name = R at *
  obtain ⟨m, p, r⟩ := x
  dsimp only at *
  go_enter Try.func48, Try.ntmps48
  go_wp2_with (go_at_call 46; (with_reducible refine (c _).mono ?_); rintro e w' ⟨rfl, rfl⟩)
  go_ret
  exact ⟨rfl, bel1⟩
set_option maxRecDepth 100000 in
set_option maxHeartbeats 4000000 in
theorem k57 (x : Dk) (w : World) (hr : Fl 2 Rw.cs w x.rv x.rows) (hl : x.rows.length ≤ 8796093021952) : Calls Try.prog 49 #[.agg #[.string x.name, x.rv]] w fun e w' => e = .returned (.bool (decide (x.rows.length ≤ 48))) ∧ Below w.heap.size w w' := by
  obtain ⟨m, p, r⟩ := x
  dsimp only at *
  obtain ⟨a, c, rfl, _⟩ := hr.any
  have e : decide (r.length ≤ 48) = decide ((r.length : Int) ≤ 48) := by simp only [decide_eq_decide]; omega
  have e' : Hid (decide (r.length ≤ 48) = decide ((r.length : Int) ≤ 48)) := e
  clear e
  go_enter Try.func49, Try.ntmps49
  go_wp2
  go_ret
  first | exact ⟨rfl, bel1⟩ | exact ⟨ret_bool e'.out.symm, bel1⟩
set_option maxRecDepth 100000 in
set_option maxHeartbeats 4000000 in
theorem k58 (x : Dk) (w : World) (hr : Fl 2 Rw.cs w x.rv x.rows) (hl : x.rows.length ≤ 8796093021952) : Calls Try.prog 50 #[.agg #[.string x.name, x.rv]] w fun e w' => e = .returned (.bool (decide (0 < x.rows.length))) ∧ Below w.heap.size w w' := by
  obtain ⟨m, p, r⟩ := x
  dsimp only at *
  obtain ⟨a, c, rfl, _⟩ := hr.any
  have e : decide (0 < r.length) = decide (0 < (r.length : Int)) := by simp only [decide_eq_decide]; omega
  have e' : Hid (decide (0 < r.length) = decide (0 < (r.length : Int))) := e
  clear e
  go_enter Try.func50, Try.ntmps50
  go_wp2
  go_ret
  first | exact ⟨rfl, bel1⟩ | exact ⟨ret_bool e'.out.symm, bel1⟩
set_option maxRecDepth 100000 in
set_option maxHeartbeats 4000000 in
theorem k63 (x : Dk) (w : World) (hr : Fl 2 Rw.cs w x.rv x.rows) (hl : x.rows.length ≤ 8796093021952) : Calls Try.prog 55 #[.agg #[.string x.name, x.rv]] w fun e w' => e = .returned (.bool (x.rows.all rwB)) ∧ Below w.heap.size w w' := by
  obtain ⟨m, p, r⟩ := x
  dsimp only at *
  obtain ⟨a, c, rfl, k⟩ := (hr.below (bel1 (o := .cells #[.string m, p] 72))).any
  have c1 := allR65 r a c rwB (w.alloc (.cells #[.string m, .slice a r.length c] 72)) k hl (fun W _ i hi => k65 r[i] W)
  clear k hr
  generalize r.all rwB = R at *
  go_enter Try.func55, Try.ntmps55
  go_wp2_with (go_at_call 56; (with_reducible refine c1.mono ?_); rintro e w1 ⟨rfl, hb⟩)
  go_ret
  exact ⟨rfl, belT bel1 hb⟩
set_option maxRecDepth 100000 in
set_option maxHeartbeats 4000000 in
theorem k75 (n : Nat) (a : Option Addr) (c q : Nat) (k : Int) (w : World) (h1 : w.cell? ⟨q, 1, none⟩ = some (.slice a n c)) (hn : n ≤ 3518437208781) : Calls Try.prog 67 #[.int .i64 k, .pointer (some ⟨q, 0, none⟩)] w fun e w' => e = .returned (.bool (kdB n k)) ∧ Below w.heap.size w w' := by
  by_cases h0 : 0 ≤ k
  · have e : kdB n k = decide (k < (n : Int)) := by simp [kdB, h0]
    rw [e]
    go_enter Try.func67, Try.ntmps67
    go_wp2
    go_ret
    exact ⟨rfl, Below.refl _ _⟩
  · have e : kdB n k = false := by simp [kdB, h0]
    rw [e]
    go_enter Try.func67, Try.ntmps67
    go_wp2
    go_ret
    exact ⟨rfl, Below.refl _ _⟩
end Go.Proofs.Ytddphepgcihdbaa
