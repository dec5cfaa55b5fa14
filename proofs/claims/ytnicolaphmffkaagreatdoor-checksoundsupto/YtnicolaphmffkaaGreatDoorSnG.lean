import Derived.Test.YtnicolaphmffkaaGreatDoorSnF
namespace Go.Proofs.YtnicolaphmffkaaGreatDoor
open Go.RowKit
set_option linter.unusedVariables false
set_option linter.unusedSimpArgs false

set_option maxRecDepth 100000 in
set_option maxHeartbeats 8000000 in
theorem rExpr_any (z : Sz) (pn : ByteArray) (ga ca da ta ka va sa : Option Addr) (gc nC cc dc tc kc vc nS sc : Nat) (stt : Int) (L : List Nd) (vn : Value) (typ : Int) (w : World) (hN : Nds w vn L) (hl : L.length ≤ 2932031007317) (hr : ∀ x ∈ L, vOk x.val) :
    Calls Tryz.prog 13 #[(.agg #[.string pn, .slice ga z.g gc, .slice ca nC cc, .slice da z.d dc, .slice ta z.t tc, .slice ka z.c kc, .slice va z.v vc, .slice sa nS sc, .int .i64 stt]), vn, .int .i64 typ] w fun e w' => e = .returned (.bool (sxB z L typ)) ∧ Below w.heap.size w w' := by
  have hb0 : Below w.heap.size w (w.alloc (.cells #[.string pn, .slice ga z.g gc, .slice ca nC cc, .slice da z.d dc, .slice ta z.t tc, .slice ka z.c kc, .slice va z.v vc, .slice sa nS sc, .int .i64 stt] 31)) := bel1 _
  have K0 : Has (w.alloc (.cells #[.string pn, .slice ga z.g gc, .slice ca nC cc, .slice da z.d dc, .slice ta z.t tc, .slice ka z.c kc, .slice va z.v vc, .slice sa nS sc, .int .i64 stt] 31)) w.heap.size #[.string pn, .slice ga z.g gc, .slice ca nC cc, .slice da z.d dc, .slice ta z.t tc, .slice ka z.c kc, .slice va z.v vc, .slice sa nS sc, .int .i64 stt] := Has.new _ _ _ rfl
  have kS := fun (X : World) (hX : Below w.heap.size w X) => refSpan_any L vn ((L.length : Int) - 1) X (hN.below hX) (by omega) (by omega) (by omega)
  have kN := fun (X : World) (hX : Below w.heap.size w X) => refNest_any L vn X (hN.below hX) hl
  have kT := fun (ht : trB L = true) (X : World) (hX : Below w.heap.size w X) => typed_any z pn ga ca da ta ka va sa gc nC cc dc tc kc vc nS sc stt L vn X (hN.below hX) ht hr
  have hno : trB L = false → sxB z L typ = false := fun h => by unfold sxB; rw [h]; rfl
  obtain ⟨na, nc, rfl, -⟩ := hN
  by_cases g1 : 1 ≤ L.length
  case neg =>
    have e0 : L.length = 0 := by omega
    rw [hno (by
      have hs : ¬ spanF L ((L.length : Int) - 1) = 0 := by unfold spanF; rw [if_neg (by omega)]; omega
      unfold trB nestF; rw [if_neg hs]; simp)]
    have s1 : (L.length : Int) < 1 := by omega
    go_enter Tryz.func13, Tryz.ntmps13
    go_wp2_with fail
    go_ret
    exact ⟨rfl, hb0⟩
  have s1 : ¬ (L.length : Int) < 1 := by omega
  by_cases g2 : L.length ≤ 256
  case neg =>
    rw [hno (by unfold trB; rw [decide_eq_false g2]; rfl)]
    have s2 : (L.length : Int) > 256 := by omega
    go_enter Tryz.func13, Tryz.ntmps13
    go_wp2_with fail
    go_ret
    exact ⟨rfl, hb0⟩
  have s2 : ¬ (L.length : Int) > 256 := by omega
  by_cases g3 : spanF L ((L.length : Int) - 1) = 0
  case neg =>
    rw [hno (by unfold trB nestF; rw [if_neg g3]; simp)]
    have n0 : (spanF L ((L.length : Int) - 1) == 0) = false := by simpa using g3
    have n1 : (spanF L ((L.length : Int) - 1) != 0) = true := by simpa using g3
    generalize spanF L ((L.length : Int) - 1) = sv at *
    go_enter Tryz.func13, Tryz.ntmps13
    go_wp2_with (go_at_call 42; (with_reducible refine Calls.mono (kS _ (by exact hb0)) ?_); rintro e w1 ⟨rfl, h1⟩; have hb1 := bel_after hb0 hb0.size h1; have K1 := K0.below h1; obtain ⟨_, q1, _⟩ := id K1)
    go_ret
    exact ⟨rfl, hb1⟩
  by_cases g4 : nestF L ≤ 64
  case neg =>
    rw [hno (by unfold trB; rw [decide_eq_false g4]; simp)]
    rw [g3] at kS
    have s4 : nestF L > 64 := by omega
    generalize nestF L = nv at *
    go_enter Tryz.func13, Tryz.ntmps13
    go_wp2_with (first | (go_at_call 42; (with_reducible refine Calls.mono (kS _ (by exact hb0)) ?_); rintro e w1 ⟨rfl, h1⟩; have hb1 := bel_after hb0 hb0.size h1; have K1 := K0.below h1; obtain ⟨_, q1, _⟩ := id K1) | (go_at_call 43; (with_reducible refine Calls.mono (kN _ (by exact hb1)) ?_); rintro e w2 ⟨rfl, h2⟩; have hb2 := bel_after hb1 hb1.size h2; have K2 := K1.below h2; obtain ⟨_, q3, _⟩ := id K2))
    go_ret
    exact ⟨rfl, hb2⟩
  have htr : trB L = true := by unfold trB; rw [decide_eq_true g2, decide_eq_true (nest_pos L g3), decide_eq_true g4]; rfl
  rw [sx_ref z L typ htr]
  have kT' := kT htr
  rw [g3] at kS
  have s4 : ¬ nestF L > 64 := by omega
  generalize nestF L = nv at *
  generalize tdF z [] L = A at *
  clear kT hno htr
  by_cases a0 : A = 0
  · subst a0
    go_enter Tryz.func13, Tryz.ntmps13
    go_wp2_with (first | (go_at_call 42; (with_reducible refine Calls.mono (kS _ (by exact hb0)) ?_); rintro e w1 ⟨rfl, h1⟩; have hb1 := bel_after hb0 hb0.size h1; have K1 := K0.below h1; obtain ⟨_, q1, _⟩ := id K1) | (go_at_call 43; (with_reducible refine Calls.mono (kN _ (by exact hb1)) ?_); rintro e w2 ⟨rfl, h2⟩; have hb2 := bel_after hb1 hb1.size h2; have K2 := K1.below h2; obtain ⟨_, q3, _⟩ := id K2) | (go_at_call 44; (with_reducible refine Calls.mono (kT' _ (by exact hb2)) ?_); rintro e w3 ⟨rfl, h3⟩; have hb3 := bel_after hb2 hb2.size h3))
    go_ret
    exact ⟨by simp, hb3⟩
  · have n0 : (A == 0) = false := by simpa using a0
    have n1 : (A != 0) = true := by simpa using a0
    by_cases a1 : A = typ
    · subst a1
      go_enter Tryz.func13, Tryz.ntmps13
      go_wp2_with (first | (go_at_call 42; (with_reducible refine Calls.mono (kS _ (by exact hb0)) ?_); rintro e w1 ⟨rfl, h1⟩; have hb1 := bel_after hb0 hb0.size h1; have K1 := K0.below h1; obtain ⟨_, q1, _⟩ := id K1) | (go_at_call 43; (with_reducible refine Calls.mono (kN _ (by exact hb1)) ?_); rintro e w2 ⟨rfl, h2⟩; have hb2 := bel_after hb1 hb1.size h2; have K2 := K1.below h2; obtain ⟨_, q3, _⟩ := id K2) | (go_at_call 44; (with_reducible refine Calls.mono (kT' _ (by exact hb2)) ?_); rintro e w3 ⟨rfl, h3⟩; have hb3 := bel_after hb2 hb2.size h3))
      go_ret
      exact ⟨by simp [a0], hb3⟩
    · have n2 : (A == typ) = false := by simpa using a1
      go_enter Tryz.func13, Tryz.ntmps13
      go_wp2_with (first | (go_at_call 42; (with_reducible refine Calls.mono (kS _ (by exact hb0)) ?_); rintro e w1 ⟨rfl, h1⟩; have hb1 := bel_after hb0 hb0.size h1; have K1 := K0.below h1; obtain ⟨_, q1, _⟩ := id K1) | (go_at_call 43; (with_reducible refine Calls.mono (kN _ (by exact hb1)) ?_); rintro e w2 ⟨rfl, h2⟩; have hb2 := bel_after hb1 hb1.size h2; have K2 := K1.below h2; obtain ⟨_, q3, _⟩ := id K2) | (go_at_call 44; (with_reducible refine Calls.mono (kT' _ (by exact hb2)) ?_); rintro e w3 ⟨rfl, h3⟩; have hb3 := bel_after hb2 hb2.size h3))
      go_ret
      exact ⟨by simp [a1], hb3⟩
set_option maxRecDepth 100000 in
set_option maxHeartbeats 8000000 in
theorem ix1 (z : Sz) (nm : ByteArray) (ix : Int) (ea : Option Addr) (eL ec : Nat) (ln cl : Int) (w : World) : Calls Tryz.prog 113 #[(.agg #[.int .i64 (z.g : Int), .int .i64 (z.d : Int), .int .i64 (z.t : Int), .int .i64 (z.c : Int), .int .i64 (z.v : Int)]), .agg #[.int .i64 1, .string nm, .int .i64 ix, .slice ea eL ec, .int .i64 ln, .int .i64 cl]] w fun e w' => e = .returned (.bool (ixB z 1 ix)) ∧ Below w.heap.size w w' := by
  have hb : Below w.heap.size w ((w.alloc (.cells #[.int .i64 (z.g : Int), .int .i64 (z.d : Int), .int .i64 (z.t : Int), .int .i64 (z.c : Int), .int .i64 (z.v : Int)] 104)).alloc (.cells #[.int .i64 1, .string nm, .int .i64 ix, .slice ea eL ec, .int .i64 ln, .int .i64 cl] 133)) := ((Below.refl _ _).alloc (Nat.le_refl _) _).alloc (by simp) _
  have kP := fun X => place_any ix (z.v : Int) X
  go_enter Tryz.func113, Tryz.ntmps113
  go_wp2_with (go_at_call 35; (with_reducible refine Calls.mono (kP _) ?_); rintro e wx ⟨rfl, hwx⟩; have hwy := hwx.symm; clear hwx; subst hwy)
  go_ret
  exact ⟨by simp [ixB, plB], hb⟩
set_option maxRecDepth 100000 in
set_option maxHeartbeats 8000000 in
theorem ix2 (z : Sz) (nm : ByteArray) (ix : Int) (ea : Option Addr) (eL ec : Nat) (ln cl : Int) (w : World) : Calls Tryz.prog 113 #[(.agg #[.int .i64 (z.g : Int), .int .i64 (z.d : Int), .int .i64 (z.t : Int), .int .i64 (z.c : Int), .int .i64 (z.v : Int)]), .agg #[.int .i64 2, .string nm, .int .i64 ix, .slice ea eL ec, .int .i64 ln, .int .i64 cl]] w fun e w' => e = .returned (.bool (ixB z 2 ix)) ∧ Below w.heap.size w w' := by
  have hb : Below w.heap.size w ((w.alloc (.cells #[.int .i64 (z.g : Int), .int .i64 (z.d : Int), .int .i64 (z.t : Int), .int .i64 (z.c : Int), .int .i64 (z.v : Int)] 104)).alloc (.cells #[.int .i64 2, .string nm, .int .i64 ix, .slice ea eL ec, .int .i64 ln, .int .i64 cl] 133)) := ((Below.refl _ _).alloc (Nat.le_refl _) _).alloc (by simp) _
  have kP := fun X => place_any ix (z.t : Int) X
  go_enter Tryz.func113, Tryz.ntmps113
  go_wp2_with (go_at_call 35; (with_reducible refine Calls.mono (kP _) ?_); rintro e wx ⟨rfl, hwx⟩; have hwy := hwx.symm; clear hwx; subst hwy)
  go_ret
  exact ⟨by simp [ixB, plB], hb⟩
set_option maxRecDepth 100000 in
set_option maxHeartbeats 8000000 in
theorem ix3 (z : Sz) (nm : ByteArray) (ix : Int) (ea : Option Addr) (eL ec : Nat) (ln cl : Int) (w : World) : Calls Tryz.prog 113 #[(.agg #[.int .i64 (z.g : Int), .int .i64 (z.d : Int), .int .i64 (z.t : Int), .int .i64 (z.c : Int), .int .i64 (z.v : Int)]), .agg #[.int .i64 3, .string nm, .int .i64 ix, .slice ea eL ec, .int .i64 ln, .int .i64 cl]] w fun e w' => e = .returned (.bool (ixB z 3 ix)) ∧ Below w.heap.size w w' := by
  have hb : Below w.heap.size w ((w.alloc (.cells #[.int .i64 (z.g : Int), .int .i64 (z.d : Int), .int .i64 (z.t : Int), .int .i64 (z.c : Int), .int .i64 (z.v : Int)] 104)).alloc (.cells #[.int .i64 3, .string nm, .int .i64 ix, .slice ea eL ec, .int .i64 ln, .int .i64 cl] 133)) := ((Below.refl _ _).alloc (Nat.le_refl _) _).alloc (by simp) _
  have kP := fun X => place_any ix (z.t : Int) X
  go_enter Tryz.func113, Tryz.ntmps113
  go_wp2_with (go_at_call 35; (with_reducible refine Calls.mono (kP _) ?_); rintro e wx ⟨rfl, hwx⟩; have hwy := hwx.symm; clear hwx; subst hwy)
  go_ret
  exact ⟨by simp [ixB, plB], hb⟩
set_option maxRecDepth 100000 in
set_option maxHeartbeats 8000000 in
theorem ix4 (z : Sz) (nm : ByteArray) (ix : Int) (ea : Option Addr) (eL ec : Nat) (ln cl : Int) (w : World) : Calls Tryz.prog 113 #[(.agg #[.int .i64 (z.g : Int), .int .i64 (z.d : Int), .int .i64 (z.t : Int), .int .i64 (z.c : Int), .int .i64 (z.v : Int)]), .agg #[.int .i64 4, .string nm, .int .i64 ix, .slice ea eL ec, .int .i64 ln, .int .i64 cl]] w fun e w' => e = .returned (.bool (ixB z 4 ix)) ∧ Below w.heap.size w w' := by
  have hb : Below w.heap.size w ((w.alloc (.cells #[.int .i64 (z.g : Int), .int .i64 (z.d : Int), .int .i64 (z.t : Int), .int .i64 (z.c : Int), .int .i64 (z.v : Int)] 104)).alloc (.cells #[.int .i64 4, .string nm, .int .i64 ix, .slice ea eL ec, .int .i64 ln, .int .i64 cl] 133)) := ((Below.refl _ _).alloc (Nat.le_refl _) _).alloc (by simp) _
  have kP := fun X => place_any ix (z.t : Int) X
  go_enter Tryz.func113, Tryz.ntmps113
  go_wp2_with (go_at_call 35; (with_reducible refine Calls.mono (kP _) ?_); rintro e wx ⟨rfl, hwx⟩; have hwy := hwx.symm; clear hwx; subst hwy)
  go_ret
  exact ⟨by simp [ixB, plB], hb⟩
set_option maxRecDepth 100000 in
set_option maxHeartbeats 8000000 in
theorem ix5 (z : Sz) (nm : ByteArray) (ix : Int) (ea : Option Addr) (eL ec : Nat) (ln cl : Int) (w : World) : Calls Tryz.prog 113 #[(.agg #[.int .i64 (z.g : Int), .int .i64 (z.d : Int), .int .i64 (z.t : Int), .int .i64 (z.c : Int), .int .i64 (z.v : Int)]), .agg #[.int .i64 5, .string nm, .int .i64 ix, .slice ea eL ec, .int .i64 ln, .int .i64 cl]] w fun e w' => e = .returned (.bool (ixB z 5 ix)) ∧ Below w.heap.size w w' := by
  have hb : Below w.heap.size w ((w.alloc (.cells #[.int .i64 (z.g : Int), .int .i64 (z.d : Int), .int .i64 (z.t : Int), .int .i64 (z.c : Int), .int .i64 (z.v : Int)] 104)).alloc (.cells #[.int .i64 5, .string nm, .int .i64 ix, .slice ea eL ec, .int .i64 ln, .int .i64 cl] 133)) := ((Below.refl _ _).alloc (Nat.le_refl _) _).alloc (by simp) _
  have kP := fun X => place_any ix (z.c : Int) X
  go_enter Tryz.func113, Tryz.ntmps113
  go_wp2_with (go_at_call 35; (with_reducible refine Calls.mono (kP _) ?_); rintro e wx ⟨rfl, hwx⟩; have hwy := hwx.symm; clear hwx; subst hwy)
  go_ret
  exact ⟨by simp [ixB, plB], hb⟩
set_option maxRecDepth 100000 in
set_option maxHeartbeats 8000000 in
theorem ix6 (z : Sz) (nm : ByteArray) (ix : Int) (ea : Option Addr) (eL ec : Nat) (ln cl : Int) (w : World) : Calls Tryz.prog 113 #[(.agg #[.int .i64 (z.g : Int), .int .i64 (z.d : Int), .int .i64 (z.t : Int), .int .i64 (z.c : Int), .int .i64 (z.v : Int)]), .agg #[.int .i64 6, .string nm, .int .i64 ix, .slice ea eL ec, .int .i64 ln, .int .i64 cl]] w fun e w' => e = .returned (.bool (ixB z 6 ix)) ∧ Below w.heap.size w w' := by
  have hb : Below w.heap.size w ((w.alloc (.cells #[.int .i64 (z.g : Int), .int .i64 (z.d : Int), .int .i64 (z.t : Int), .int .i64 (z.c : Int), .int .i64 (z.v : Int)] 104)).alloc (.cells #[.int .i64 6, .string nm, .int .i64 ix, .slice ea eL ec, .int .i64 ln, .int .i64 cl] 133)) := ((Below.refl _ _).alloc (Nat.le_refl _) _).alloc (by simp) _
  have kP := fun X => place_any ix (z.d : Int) X
  go_enter Tryz.func113, Tryz.ntmps113
  go_wp2_with (go_at_call 35; (with_reducible refine Calls.mono (kP _) ?_); rintro e wx ⟨rfl, hwx⟩; have hwy := hwx.symm; clear hwx; subst hwy)
  go_ret
  exact ⟨by simp [ixB, plB], hb⟩
set_option maxRecDepth 100000 in
set_option maxHeartbeats 8000000 in
theorem ix7 (z : Sz) (nm : ByteArray) (ix : Int) (ea : Option Addr) (eL ec : Nat) (ln cl : Int) (w : World) : Calls Tryz.prog 113 #[(.agg #[.int .i64 (z.g : Int), .int .i64 (z.d : Int), .int .i64 (z.t : Int), .int .i64 (z.c : Int), .int .i64 (z.v : Int)]), .agg #[.int .i64 7, .string nm, .int .i64 ix, .slice ea eL ec, .int .i64 ln, .int .i64 cl]] w fun e w' => e = .returned (.bool (ixB z 7 ix)) ∧ Below w.heap.size w w' := by
  have hb : Below w.heap.size w ((w.alloc (.cells #[.int .i64 (z.g : Int), .int .i64 (z.d : Int), .int .i64 (z.t : Int), .int .i64 (z.c : Int), .int .i64 (z.v : Int)] 104)).alloc (.cells #[.int .i64 7, .string nm, .int .i64 ix, .slice ea eL ec, .int .i64 ln, .int .i64 cl] 133)) := ((Below.refl _ _).alloc (Nat.le_refl _) _).alloc (by simp) _
  by_cases v0 : ix = 0
  · subst v0
    go_enter Tryz.func113, Tryz.ntmps113
    go_wp2_with fail
    go_ret
    exact ⟨by simp [ixB], hb⟩
  · have n0 : (ix == 0) = false := by simpa using v0
    go_enter Tryz.func113, Tryz.ntmps113
    go_wp2_with fail
    go_ret
    exact ⟨by simp [ixB, v0], hb⟩
set_option maxRecDepth 100000 in
set_option maxHeartbeats 8000000 in
theorem ix8 (z : Sz) (nm : ByteArray) (ix : Int) (ea : Option Addr) (eL ec : Nat) (ln cl : Int) (w : World) : Calls Tryz.prog 113 #[(.agg #[.int .i64 (z.g : Int), .int .i64 (z.d : Int), .int .i64 (z.t : Int), .int .i64 (z.c : Int), .int .i64 (z.v : Int)]), .agg #[.int .i64 8, .string nm, .int .i64 ix, .slice ea eL ec, .int .i64 ln, .int .i64 cl]] w fun e w' => e = .returned (.bool (ixB z 8 ix)) ∧ Below w.heap.size w w' := by
  have hb : Below w.heap.size w ((w.alloc (.cells #[.int .i64 (z.g : Int), .int .i64 (z.d : Int), .int .i64 (z.t : Int), .int .i64 (z.c : Int), .int .i64 (z.v : Int)] 104)).alloc (.cells #[.int .i64 8, .string nm, .int .i64 ix, .slice ea eL ec, .int .i64 ln, .int .i64 cl] 133)) := ((Below.refl _ _).alloc (Nat.le_refl _) _).alloc (by simp) _
  by_cases v0 : ix = 0
  · subst v0
    go_enter Tryz.func113, Tryz.ntmps113
    go_wp2_with fail
    go_ret
    exact ⟨by simp [ixB], hb⟩
  · have n0 : (ix == 0) = false := by simpa using v0
    go_enter Tryz.func113, Tryz.ntmps113
    go_wp2_with fail
    go_ret
    exact ⟨by simp [ixB, v0], hb⟩
set_option maxRecDepth 100000 in
set_option maxHeartbeats 8000000 in
theorem ix9 (z : Sz) (nm : ByteArray) (ix : Int) (ea : Option Addr) (eL ec : Nat) (ln cl : Int) (w : World) : Calls Tryz.prog 113 #[(.agg #[.int .i64 (z.g : Int), .int .i64 (z.d : Int), .int .i64 (z.t : Int), .int .i64 (z.c : Int), .int .i64 (z.v : Int)]), .agg #[.int .i64 9, .string nm, .int .i64 ix, .slice ea eL ec, .int .i64 ln, .int .i64 cl]] w fun e w' => e = .returned (.bool (ixB z 9 ix)) ∧ Below w.heap.size w w' := by
  have hb : Below w.heap.size w ((w.alloc (.cells #[.int .i64 (z.g : Int), .int .i64 (z.d : Int), .int .i64 (z.t : Int), .int .i64 (z.c : Int), .int .i64 (z.v : Int)] 104)).alloc (.cells #[.int .i64 9, .string nm, .int .i64 ix, .slice ea eL ec, .int .i64 ln, .int .i64 cl] 133)) := ((Below.refl _ _).alloc (Nat.le_refl _) _).alloc (by simp) _
  by_cases v0 : ix = 0
  · subst v0
    go_enter Tryz.func113, Tryz.ntmps113
    go_wp2_with fail
    go_ret
    exact ⟨by simp [ixB], hb⟩
  · have n0 : (ix == 0) = false := by simpa using v0
    go_enter Tryz.func113, Tryz.ntmps113
    go_wp2_with fail
    go_ret
    exact ⟨by simp [ixB, v0], hb⟩
set_option maxRecDepth 100000 in
set_option maxHeartbeats 8000000 in
theorem ix10 (z : Sz) (nm : ByteArray) (ix : Int) (ea : Option Addr) (eL ec : Nat) (ln cl : Int) (w : World) : Calls Tryz.prog 113 #[(.agg #[.int .i64 (z.g : Int), .int .i64 (z.d : Int), .int .i64 (z.t : Int), .int .i64 (z.c : Int), .int .i64 (z.v : Int)]), .agg #[.int .i64 10, .string nm, .int .i64 ix, .slice ea eL ec, .int .i64 ln, .int .i64 cl]] w fun e w' => e = .returned (.bool (ixB z 10 ix)) ∧ Below w.heap.size w w' := by
  have hb : Below w.heap.size w ((w.alloc (.cells #[.int .i64 (z.g : Int), .int .i64 (z.d : Int), .int .i64 (z.t : Int), .int .i64 (z.c : Int), .int .i64 (z.v : Int)] 104)).alloc (.cells #[.int .i64 10, .string nm, .int .i64 ix, .slice ea eL ec, .int .i64 ln, .int .i64 cl] 133)) := ((Below.refl _ _).alloc (Nat.le_refl _) _).alloc (by simp) _
  have kP := fun X => place_any ix (z.c : Int) X
  go_enter Tryz.func113, Tryz.ntmps113
  go_wp2_with (go_at_call 35; (with_reducible refine Calls.mono (kP _) ?_); rintro e wx ⟨rfl, hwx⟩; have hwy := hwx.symm; clear hwx; subst hwy)
  go_ret
  exact ⟨by simp [ixB, plB], hb⟩
set_option maxRecDepth 100000 in
set_option maxHeartbeats 8000000 in
theorem ixO (z : Sz) (kind : Int) (nm : ByteArray) (ix : Int) (ea : Option Addr) (eL ec : Nat) (ln cl : Int) (w : World) (o1 : ¬ kind = 1) (o2 : ¬ kind = 2) (o3 : ¬ kind = 3) (o4 : ¬ kind = 4) (o5 : ¬ kind = 5) (o6 : ¬ kind = 6) (o7 : ¬ kind = 7) (o8 : ¬ kind = 8) (o9 : ¬ kind = 9) (o10 : ¬ kind = 10) : Calls Tryz.prog 113 #[(.agg #[.int .i64 (z.g : Int), .int .i64 (z.d : Int), .int .i64 (z.t : Int), .int .i64 (z.c : Int), .int .i64 (z.v : Int)]), .agg #[.int .i64 kind, .string nm, .int .i64 ix, .slice ea eL ec, .int .i64 ln, .int .i64 cl]] w fun e w' => e = .returned (.bool (ixB z kind ix)) ∧ Below w.heap.size w w' := by
  have hb : Below w.heap.size w ((w.alloc (.cells #[.int .i64 (z.g : Int), .int .i64 (z.d : Int), .int .i64 (z.t : Int), .int .i64 (z.c : Int), .int .i64 (z.v : Int)] 104)).alloc (.cells #[.int .i64 kind, .string nm, .int .i64 ix, .slice ea eL ec, .int .i64 ln, .int .i64 cl] 133)) := ((Below.refl _ _).alloc (Nat.le_refl _) _).alloc (by simp) _
  have n1 : (kind == 1) = false := by simpa using o1
  have n2 : (kind == 2) = false := by simpa using o2
  have n3 : (kind == 3) = false := by simpa using o3
  have n4 : (kind == 4) = false := by simpa using o4
  have n5 : (kind == 5) = false := by simpa using o5
  have n6 : (kind == 6) = false := by simpa using o6
  have n7 : (kind == 7) = false := by simpa using o7
  have n8 : (kind == 8) = false := by simpa using o8
  have n9 : (kind == 9) = false := by simpa using o9
  have n10 : (kind == 10) = false := by simpa using o10
  go_enter Tryz.func113, Tryz.ntmps113
  go_wp2_with fail
  go_ret
  exact ⟨by simp [ixB, o1, o2, o3, o4, o5, o6, o7, o8, o9, o10], hb⟩
theorem ix_any (z : Sz) (kind : Int) (nm : ByteArray) (ix : Int) (ea : Option Addr) (eL ec : Nat) (ln cl : Int) (w : World) : Calls Tryz.prog 113 #[(.agg #[.int .i64 (z.g : Int), .int .i64 (z.d : Int), .int .i64 (z.t : Int), .int .i64 (z.c : Int), .int .i64 (z.v : Int)]), .agg #[.int .i64 kind, .string nm, .int .i64 ix, .slice ea eL ec, .int .i64 ln, .int .i64 cl]] w fun e w' => e = .returned (.bool (ixB z kind ix)) ∧ Below w.heap.size w w' := by
  by_cases q : kind = 1 ∨ kind = 2 ∨ kind = 3 ∨ kind = 4 ∨ kind = 5 ∨ kind = 6 ∨ kind = 7 ∨ kind = 8 ∨ kind = 9 ∨ kind = 10
  · rcases q with rfl | rfl | rfl | rfl | rfl | rfl | rfl | rfl | rfl | rfl
    · exact ix1 z nm ix ea eL ec ln cl w
    · exact ix2 z nm ix ea eL ec ln cl w
    · exact ix3 z nm ix ea eL ec ln cl w
    · exact ix4 z nm ix ea eL ec ln cl w
    · exact ix5 z nm ix ea eL ec ln cl w
    · exact ix6 z nm ix ea eL ec ln cl w
    · exact ix7 z nm ix ea eL ec ln cl w
    · exact ix8 z nm ix ea eL ec ln cl w
    · exact ix9 z nm ix ea eL ec ln cl w
    · exact ix10 z nm ix ea eL ec ln cl w
  · exact ixO z kind nm ix ea eL ec ln cl w (by omega) (by omega) (by omega) (by omega) (by omega) (by omega) (by omega) (by omega) (by omega) (by omega)
/-- The type of the expression of a statement of that kind. -/
def tyK (kind : Int) : Int := if kind = 1 then 1 else if kind = 7 then 2 else 0
set_option maxRecDepth 100000 in
set_option maxHeartbeats 8000000 in
theorem typeIn_any (kind : Int) (w : World) : Calls Tryz.prog 114 #[.int .i64 kind] w fun e w' => e = .returned (.int .i64 (tyK kind)) ∧ w' = w := by
  by_cases k1 : kind = 1
  · subst k1
    go_enter Tryz.func114, Tryz.ntmps114
    go_wp2_with fail
    go_ret
    exact ⟨by simp [tyK], rfl⟩
  · have n1 : (kind == 1) = false := by simpa using k1
    by_cases k7 : kind = 7
    · subst k7
      go_enter Tryz.func114, Tryz.ntmps114
      go_wp2_with fail
      go_ret
      exact ⟨by simp [tyK], rfl⟩
    · have n7 : (kind == 7) = false := by simpa using k7
      go_enter Tryz.func114, Tryz.ntmps114
      go_wp2_with fail
      go_ret
      exact ⟨by simp [tyK, k1, k7], rfl⟩
end Go.Proofs.YtnicolaphmffkaaGreatDoor
