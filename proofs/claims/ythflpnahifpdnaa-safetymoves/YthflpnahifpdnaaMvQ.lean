import Derived.Test.YthflpnahifpdnaaTmQ
import Derived.Test.YthflpnahifpdnaaGrE
import Derived.Test.YthflpnahifpdnaaGaM
import Derived.Test.YthflpnahifpdnaaSdA
import Derived.Deep.RegionHeld3
namespace Go.Proofs.Ythflpnahifpdnaa
open Go.RowKit
set_option linter.unusedVariables false

theorem setF_iff {M n : Nat} {f : Nat → Int} : setF M 0 (lst64 n f) = true ↔ ∀ j, j < n → f j = if M.testBit j = true then 2 else 0 := by
  have key : ∀ m, m ≤ n → (setF M (n - m) ((lst64 n f).drop (n - m)) = true ↔ ∀ j, n - m ≤ j → j < n → f j = if M.testBit j = true then 2 else 0) := by
    intro m
    induction m with
    | zero =>
      intro _
      rw [setF_end M _ _ (by rw [lst_len]; omega)]
      exact ⟨fun _ j h1 h2 => by omega, fun _ => rfl⟩
    | succ m ih =>
      intro hm
      rw [setF_step M _ (n - (m + 1)) (by rw [lst_len]; omega), show n - (m + 1) + 1 = n - m by omega, Bool.and_eq_true, decide_eq_true_eq, ih (by omega), lst_get]
      constructor
      · rintro ⟨a, b⟩ j h1 h2
        by_cases e : j = n - (m + 1)
        · subst e; exact a
        · exact b j (by omega) h2
      · intro h
        exact ⟨h _ (by omega) (by omega), fun j h1 h2 => h j (by omega) h2⟩
  have := key n (Nat.le_refl _)
  rw [Nat.sub_self, List.drop_zero] at this
  rw [this]
  exact ⟨fun h j hj => h j (by omega) hj, fun h j _ hj => h j hj⟩
theorem okf_rest {G : List Gp} {C : List Cf} {F : Nat} (hg : gridB G C = true) (hf : fitM C F) : Okf G C (rsF F) := by
  have rng := grid_cfm hg
  refine ⟨?_, ?_, ?_⟩
  · unfold fitsB
    simp only [Bool.and_eq_true, decide_eq_true_eq, lst_len, true_and]
    constructor
    · refine fitsF_of (lst_len _ _) (lst_len _ _) (lst_len _ _) fun k hk => ?_
      rw [lst_get, lst_get, lst_get]
      unfold rsF fitB
      cases e : F.testBit k <;> simp [e]
    · refine clearF_of fun c hc => ?_
      have b := rng c hc
      unfold atI
      rw [lst_getD (by omega), lst_getD (by omega)]
      unfold rsF
      cases e1 : F.testBit c.a.toNat with
      | false => left; simp [e1]
      | true =>
        cases e2 : F.testBit c.b.toNat with
        | false => right; simp [e2]
        | true => exact absurd ⟨e1, e2⟩ (hf c hc)
  · intro x hx
    unfold lst64 at hx
    obtain ⟨k, hk, rfl⟩ := List.mem_map.1 hx
    unfold inI32 rsF; simp
  · intro x hx
    unfold lst64 at hx
    obtain ⟨k, hk, rfl⟩ := List.mem_map.1 hx
    unfold inI32 rsF
    cases e : F.testBit k <;> simp [e]
theorem rst_rest {G : List Gp} {C : List Cf} {F T : Nat} (hg : gridB G C = true) : Rst G F T (rsF F) :=
  ⟨fun j hj => rfl, fun j hj _ _ => by have := grid_g hg hj; show _ ≤ (10000 : Int); omega⟩
set_option maxRecDepth 100000 in
set_option maxHeartbeats 4000000 in
theorem times_bad (G : List Gp) (C : List Cf) (vg vc : Value) (F T : Nat) (w : World) (hF : F < 18446744073709551616) (hT : T < 18446744073709551616) (h1 : Fl 5 Gp.cs w vg G) (h2 : Fl 4 Cf.cs w vc C) (lG : G.length ≤ 2932031007317) (lC : C.length ≤ 4398046511000) (ok : ∀ (i : Nat) (h : i < C.length), C[i].ok) (eg : gridB G C = false) :
    Calls Try.prog 3 #[.agg #[vg, vc], .int .u64 (F : Int), .int .u64 (T : Int)] w fun e w' => e = .returned (.bool true) ∧ Below w.heap.size w w' := by
  have kA := fun (X : World) (hX : Below w.heap.size w X) => alive_any X
  have kS := fun (X : World) (hX : Below w.heap.size w X) => span_any G C vg vc F T X hF hT (h1.below hX) (h2.below hX) lG lC ok
  have kG := fun (X : World) (hX : Below w.heap.size w X) => refGrid_any G C vg vc X (h1.below hX) (h2.below hX) lG lC
  have eV : spanV G C F T false = (0, 70) := by simp [spanV, eg]
  rw [eV] at kS
  rw [eg] at kG
  obtain ⟨va, cg, rfl, -⟩ := h1.any
  obtain ⟨vb, cc, rfl, -⟩ := h2.any
  have E0 : Has (w.alloc (.cells #[.slice va G.length cg, .slice vb C.length cc] 25)) w.heap.size #[.slice va G.length cg, .slice vb C.length cc] := Has.new _ _ _ rfl
  have b0 : Below w.heap.size w (w.alloc (.cells #[.slice va G.length cg, .slice vb C.length cc] 25)) := belN1
  clear h1 h2 ok eV
  go_enter Try.func3, Try.ntmps3
  go_wp2_with (first
    | (go_at_call 9; (with_reducible refine Calls.mono (kA _ (by exact b0)) ?_); rintro e y1 ⟨rfl, hy1⟩; have b1 := bel_after b0 b0.size hy1; have E1 := E0.below hy1; obtain ⟨_, cy1, _⟩ := id E1; clear hy1)
    | (go_at_call 10; (with_reducible refine Calls.mono (kS _ (by exact b1)) ?_); rintro e y2 ⟨rfl, hy2⟩; have b2 := bel_after b1 b1.size hy2; have E2 := E1.below hy2; obtain ⟨_, cy2, _⟩ := id E2; clear hy2)
    | (go_at_call 11; (with_reducible refine Calls.mono (kG _ (by exact b2)) ?_); rintro e y3 ⟨rfl, hy3⟩; have b3 := bel_after b2 b2.size hy3; have E3 := E2.below hy3; obtain ⟨_, cy3, _⟩ := id E3; clear hy3))
  go_ret
  exact ⟨rfl, b3⟩
set_option maxRecDepth 100000 in
set_option maxHeartbeats 4000000 in
theorem times_clash (G : List Gp) (C : List Cf) (vg vc : Value) (F T : Nat) (w : World) (hF : F < 18446744073709551616) (hT : T < 18446744073709551616) (h1 : Fl 5 Gp.cs w vg G) (h2 : Fl 4 Cf.cs w vc C) (lG : G.length ≤ 2932031007317) (lC : C.length ≤ 4398046511000) (ok : ∀ (i : Nat) (h : i < C.length), C[i].ok) (eg : gridB G C = true) (ec : ((clashF G.length F C).2.2 || (clashF G.length T C).2.2) = true) :
    Calls Try.prog 3 #[.agg #[vg, vc], .int .u64 (F : Int), .int .u64 (T : Int)] w fun e w' => e = .returned (.bool true) ∧ Below w.heap.size w w' := by
  have kA := fun (X : World) (hX : Below w.heap.size w X) => alive_any X
  have kS := fun (X : World) (hX : Below w.heap.size w X) => span_any G C vg vc F T X hF hT (h1.below hX) (h2.below hX) lG lC ok
  have kG := fun (X : World) (hX : Below w.heap.size w X) => refGrid_any G C vg vc X (h1.below hX) (h2.below hX) lG lC
  have eV : spanV G C F T false = (0, 60) := by simp only [spanV, eg, ec]; rfl
  rw [eV] at kS
  rw [eg] at kG
  obtain ⟨va, cg, rfl, -⟩ := h1.any
  have kC := fun (M : Nat) (hM : M < 18446744073709551616) (X : World) (hX : Below w.heap.size w X) => clash_any G.length M C va cg vc X hM lG (h2.below hX) lC ok
  obtain ⟨vb, cc, rfl, -⟩ := h2.any
  have kF := kC F hF
  have kT := kC T hT
  have E0 : Has (w.alloc (.cells #[.slice va G.length cg, .slice vb C.length cc] 25)) w.heap.size #[.slice va G.length cg, .slice vb C.length cc] := Has.new _ _ _ rfl
  have b0 : Below w.heap.size w (w.alloc (.cells #[.slice va G.length cg, .slice vb C.length cc] 25)) := belN1
  clear h1 h2 ok eV kC
  generalize hcF : clashF G.length F C = cF at *
  generalize hcT : clashF G.length T C = cT at *
  obtain ⟨f1, f2, f3⟩ := cF
  obtain ⟨g1, g2, g3⟩ := cT
  simp only at ec kF kT
  cases f3 with
  | true =>
    go_enter Try.func3, Try.ntmps3
    go_upto_region 8 with (first
      | (go_at_call 9; (with_reducible refine Calls.mono (kA _ (by exact b0)) ?_); rintro e y1 ⟨rfl, hy1⟩; have b1 := bel_after b0 b0.size hy1; have E1 := E0.below hy1; obtain ⟨_, cy1, _⟩ := id E1; clear hy1)
      | (go_at_call 10; (with_reducible refine Calls.mono (kS _ (by exact b1)) ?_); rintro e y2 ⟨rfl, hy2⟩; have b2 := bel_after b1 b1.size hy2; have E2 := E1.below hy2; obtain ⟨_, cy2, _⟩ := id E2; clear hy2)
      | (go_at_call 11; (with_reducible refine Calls.mono (kG _ (by exact b2)) ?_); rintro e y3 ⟨rfl, hy3⟩; have b3 := bel_after b2 b2.size hy3; have E3 := E2.below hy3; obtain ⟨_, cy3, _⟩ := id E3; clear hy3)
      | (go_at_call 12; (with_reducible refine Calls.mono (kF _ (by exact b3)) ?_); rintro e y4 ⟨rfl, hy4⟩; have b4 := bel_after b3 b3.size hy4; have E4 := E3.below hy4; obtain ⟨_, cy4, _⟩ := id E4; clear hy4))
    go_wp2_with (go_at_call 12; (with_reducible refine Calls.mono (kT _ (by exact b4)) ?_); rintro e y5 ⟨rfl, hy5⟩; have b5 := bel_after b4 b4.size hy5; have E5 := E4.below hy5; obtain ⟨_, cy5, _⟩ := id E5; clear hy5)
    go_ret
    exact ⟨rfl, b5⟩
  | false =>
    obtain rfl : g3 = true := by simpa using ec
    go_enter Try.func3, Try.ntmps3
    go_upto_region 8 with (first
      | (go_at_call 9; (with_reducible refine Calls.mono (kA _ (by exact b0)) ?_); rintro e y1 ⟨rfl, hy1⟩; have b1 := bel_after b0 b0.size hy1; have E1 := E0.below hy1; obtain ⟨_, cy1, _⟩ := id E1; clear hy1)
      | (go_at_call 10; (with_reducible refine Calls.mono (kS _ (by exact b1)) ?_); rintro e y2 ⟨rfl, hy2⟩; have b2 := bel_after b1 b1.size hy2; have E2 := E1.below hy2; obtain ⟨_, cy2, _⟩ := id E2; clear hy2)
      | (go_at_call 11; (with_reducible refine Calls.mono (kG _ (by exact b2)) ?_); rintro e y3 ⟨rfl, hy3⟩; have b3 := bel_after b2 b2.size hy3; have E3 := E2.below hy3; obtain ⟨_, cy3, _⟩ := id E3; clear hy3)
      | (go_at_call 12; (with_reducible refine Calls.mono (kF _ (by exact b3)) ?_); rintro e y4 ⟨rfl, hy4⟩; have b4 := bel_after b3 b3.size hy4; have E4 := E3.below hy4; obtain ⟨_, cy4, _⟩ := id E4; clear hy4))
    go_wp2_with (go_at_call 12; (with_reducible refine Calls.mono (kT _ (by exact b4)) ?_); rintro e y5 ⟨rfl, hy5⟩; have b5 := bel_after b4 b4.size hy5; have E5 := E4.below hy5; obtain ⟨_, cy5, _⟩ := id E5; clear hy5)
    go_ret
    exact ⟨rfl, b5⟩
set_option maxRecDepth 100000 in
set_option maxHeartbeats 4000000 in
theorem times_ok (G : List Gp) (C : List Cf) (vg vc : Value) (F T : Nat) (w : World) (hF : F < 18446744073709551616) (hT : T < 18446744073709551616) (h1 : Fl 5 Gp.cs w vg G) (h2 : Fl 4 Cf.cs w vc C) (lG : G.length ≤ 2932031007317) (lC : C.length ≤ 4398046511000) (ok : ∀ (i : Nat) (h : i < C.length), C[i].ok) (eg : gridB G C = true) (ec : ((clashF G.length F C).2.2 || (clashF G.length T C).2.2) = false) :
    Calls Try.prog 3 #[.agg #[vg, vc], .int .u64 (F : Int), .int .u64 (T : Int)] w fun e w' => e = .returned (.bool true) ∧ Below w.heap.size w w' := by
  have h64 := grid_len eg
  have kA := fun (X : World) (hX : Below w.heap.size w X) => alive_any X
  have kS := fun (X : World) (hX : Below w.heap.size w X) => span_any G C vg vc F T X hF hT (h1.below hX) (h2.below hX) lG lC ok
  have kG := fun (X : World) (hX : Below w.heap.size w X) => refGrid_any G C vg vc X (h1.below hX) (h2.below hX) lG lC
  have eV : spanV G C F T false = (mvF G C F T false G 0 0, 0) := by simp only [spanV, eg, ec]; rfl
  rw [eV] at kS
  rw [eg] at kG
  rw [Bool.or_eq_false_iff] at ec
  have fF := fit_clash eg ec.1
  have fT := fit_clash eg ec.2
  have okR := okf_rest eg fF
  have rs := rst_rest (F := F) (T := T) eg
  have mv0 := (mv_parts G C F T false).1
  have mvl := mv_le (F := F) (T := T) (all := false) eg
  obtain ⟨K, eK⟩ : ∃ K : Nat, mvF G C F T false G 0 0 = (K : Int) := ⟨(mvF G C F T false G 0 0).toNat, by omega⟩
  have no : ∀ k, k < K → setF T 0 (lst64 G.length (stF G C T (rsF F) k).a) = false := fun k hk => by
    cases e : setF T 0 (lst64 G.length (stF G C T (rsF F) k).a) with
    | false => rfl
    | true =>
      have := move_exact (F := F) eg okR rs (k := k) (by omega) (setF_iff.1 e)
      omega
  have yes : setF T 0 (lst64 G.length (stF G C T (rsF F) K).a) = true := setF_iff.2 (move_upto (F := F) (all := false) eg fT okR rs (fun o _ ho => .inr (by show _ ≤ (if F.testBit o = true then (0 : Int) else 10000); rw [ho]; decide)) (by omega) (by omega))
  have sS : setB G C (lst64 G.length (rsF F).a) (lst64 G.length (rsF F).i) (lst64 G.length (rsF F).w) F = true := by
    unfold setB soundB
    rw [eg, okR.1, (setF_iff (f := (rsF F).a)).2 (fun j hj => rfl)]
    rfl
  have la := lst_len G.length (rsF F).a
  have li := lst_len G.length (rsF F).i
  have lw := lst_len G.length (rsF F).w
  have kE := fun (X : World) (hX : Below w.heap.size w X) (u1 u2 u3 : Value) (f1 : Fl 1 n64 X u1 (lst64 G.length (rsF F).a)) (f2 : Fl 1 n32 X u2 (lst64 G.length (rsF F).i)) (f3 : Fl 1 n32 X u3 (lst64 G.length (rsF F).w)) => settled_any G C _ _ _ vg vc u1 u2 u3 F X (h1.below hX) (h2.below hX) f1 f2 f3 lG lC (by omega) (by omega) (by omega) okR.2.1 hF
  rw [sS] at kE
  have kN := fun (X : World) (hX : Below w.heap.size w X) (u1 u2 u3 : Value) (f1 : Fl 1 n64 X u1 (lst64 G.length (rsF F).a)) (f2 : Fl 1 n32 X u2 (lst64 G.length (rsF F).i)) (f3 : Fl 1 n32 X u3 (lst64 G.length (rsF F).w)) => steps_ok G C (rsF F) vg vc u1 u2 u3 T K K X (h1.below hX) (h2.below hX) f1 f2 f3 lC hT eg okR (Nat.le_refl _) (by omega) no yes
  rw [eK] at kS
  obtain ⟨va, cg, rfl, -⟩ := h1.any
  obtain ⟨vb, cc, rfl, -⟩ := h2.any
  have kR := fun (X : World) (hX : Below w.heap.size w X) => rested_any G.length va cg (.slice vb C.length cc) F X hF h64
  have E0 : Has (w.alloc (.cells #[.slice va G.length cg, .slice vb C.length cc] 25)) w.heap.size #[.slice va G.length cg, .slice vb C.length cc] := Has.new _ _ _ rfl
  have b0 : Below w.heap.size w (w.alloc (.cells #[.slice va G.length cg, .slice vb C.length cc] 25)) := belN1
  have k4 : ¬ (K : Int) > 4000 := by omega
  have k0 : ¬ (K : Int) < 0 := by omega
  clear h1 h2 ok eV no yes mv0 mvl eK sS rs fF fT okR
  go_enter Try.func3, Try.ntmps3
  go_upto_region 11 with (first
    | (go_at_call 9; (with_reducible refine Calls.mono (kA _ (by exact b0)) ?_); rintro e y1 ⟨rfl, hy1⟩; have b1 := bel_after b0 b0.size hy1; have E1 := E0.below hy1; obtain ⟨_, cy1, _⟩ := id E1; clear hy1)
    | (go_at_call 10; (with_reducible refine Calls.mono (kS _ (by exact b1)) ?_); rintro e y2 ⟨rfl, hy2⟩; have b2 := bel_after b1 b1.size hy2; have E2 := E1.below hy2; obtain ⟨_, cy2, _⟩ := id E2; clear hy2)
    | (go_at_call 11; (with_reducible refine Calls.mono (kG _ (by exact b2)) ?_); rintro e y3 ⟨rfl, hy3⟩; have b3 := bel_after b2 b2.size hy3; have E3 := E2.below hy3; obtain ⟨_, cy3, _⟩ := id E3; clear hy3)
    | (go_at_call 13; (with_reducible refine Calls.mono (kR _ (by exact b3)) ?_); rintro e y4 ⟨⟨u1, u2, u3, rfl, p1, p2, p3⟩, hy4⟩; have b4 := bel_after b3 b3.size hy4; have E4 := E3.below hy4; obtain ⟨_, cy4, _⟩ := id E4; obtain ⟨aA, dA, rfl, -⟩ := p1.any; obtain ⟨aI, dI, rfl, -⟩ := p2.any; obtain ⟨aW, dW, rfl, -⟩ := p3.any; clear hy4))
  rw [la] at p1
  rw [li] at p2
  rw [lw] at p3
  have N5 : Has (y4.alloc (.cells #[.slice aA G.length dA, .slice aI G.length dI, .slice aW G.length dW] 37)) y4.heap.size #[.slice aA G.length dA, .slice aI G.length dI, .slice aW G.length dW] := Has.new _ _ _ rfl
  have E5 := E4.alloc (.cells #[.slice aA G.length dA, .slice aI G.length dI, .slice aW G.length dW] 37)
  have b5 := b4.alloc b4.size (.cells #[.slice aA G.length dA, .slice aI G.length dI, .slice aW G.length dW] 37)
  have q1 := p1.below (belN1 : Below y4.heap.size y4 (y4.alloc (.cells #[.slice aA G.length dA, .slice aI G.length dI, .slice aW G.length dW] 37)))
  have q2 := p2.below (belN1 : Below y4.heap.size y4 (y4.alloc (.cells #[.slice aA G.length dA, .slice aI G.length dI, .slice aW G.length dW] 37)))
  have q3 := p3.below (belN1 : Below y4.heap.size y4 (y4.alloc (.cells #[.slice aA G.length dA, .slice aI G.length dI, .slice aW G.length dW] 37)))
  generalize (y4.alloc (.cells #[.slice aA G.length dA, .slice aI G.length dI, .slice aW G.length dW] 37)) = Y at *
  generalize y4.heap.size = P at *
  clear p1 p2 p3 E0 E1 E2 E3 E4 b0 b1 b2 b3 b4 cy1 cy2 cy3 cy4 kA kS kG kR
  have cE := kE Y b5 _ _ _ q1 q2 q3
  obtain ⟨_, n5, _⟩ := id N5
  obtain ⟨_, e5, _⟩ := id E5
  go_upto_region 13 with (go_at_call 14; (with_reducible refine Calls.mono cE ?_); rintro e y6 ⟨rfl, hy6⟩; have b6 := bel_after b5 b5.size hy6; have E6 := E5.below hy6; have N6 := N5.below hy6)
  have cN := kN y6 b6 _ _ _ (q1.below hy6) (q2.below hy6) (q3.below hy6)
  clear n5 e5 cE kE kN q1 q2 q3 E5 N5 b5
  obtain ⟨_, n6, _⟩ := id N6
  obtain ⟨_, e6, _⟩ := id E6
  go_wp2_with (go_at_call 15; (with_reducible refine Calls.mono cN ?_); rintro e y7 ⟨⟨u1, u2, u3, rfl, r1, r2, r3⟩, hy7⟩; have b7 := bel_after b6 b6.size hy7; obtain ⟨xA, zA, rfl, -⟩ := r1.any; obtain ⟨xI, zI, rfl, -⟩ := r2.any; obtain ⟨xW, zW, rfl, -⟩ := r3.any)
  go_ret
  exact ⟨rfl, b7.alloc b7.size _⟩
end Go.Proofs.Ythflpnahifpdnaa
namespace Go.Proofs.Ythflpnahifpdnaa
open Go.RowKit
set_option linter.unusedVariables false

/-- What is settled on a mask and has it wanted stays so, and grows old. -/
theorem stay_all {G : List Gp} {C : List Cf} {M : Nat} {h : F3} (hg : gridB G C = true) (ok : Okf G C h) (hs : ∀ j, j < G.length → h.a j = if M.testBit j = true then 2 else 0) : ∀ k j, j < G.length → (stF G C M h k).a j = (if M.testBit j = true then 2 else 0) ∧ (h.i j + (k : Int) ≤ (stF G C M h k).i j ∨ 2147483647 ≤ (stF G C M h k).i j) := by
  intro k
  induction k with
  | zero =>
    intro j hj
    exact ⟨hs j hj, .inl (by show h.i j + ((0 : Nat) : Int) ≤ h.i j; omega)⟩
  | succ k ih =>
    intro j hj
    have o := okf_at (okf_st (M := M) hg ok k) hj
    obtain ⟨a1, a2⟩ := ih j hj
    show (F3.next G C (stF G C M h k) M).a j = _ ∧ (_ ≤ (F3.next G C (stF G C M h k) M).i j ∨ _ ≤ (F3.next G C (stF G C M h k) M).i j)
    have e : (F3.next G C (stF G C M h k) M).a j = (stF G C M h k).a j := by
      cases hm : M.testBit j with
      | true =>
        rw [hm, if_pos rfl] at a1
        rw [next_on (C := C) hj hm (by omega), a1]
        unfold aloneF
        simp
      | false =>
        rw [hm, if_neg (by decide)] at a1
        rw [next_off (C := C) hj hm, a1]
        exact alone_red
    refine ⟨e.trans a1, ?_⟩
    rw [next_i hj, if_pos e]
    have u := upF_at (x := (stF G C M h k).i j) (by omega)
    by_cases q : (stF G C M h k).i j < 2147483647
    · have := u.1 q; omega
    · exact .inr (u.2.1 (by omega))
theorem gateF_iff {M n : Nat} {G : List Gp} {f g : Nat → Int} (hn : G.length = n) : gateF M 0 G (lst64 n f) (lst64 n g) = true ↔ ∀ j, j < n → f j = 2 → M.testBit j = false → (G.getD j gp0).min ≤ g j := by
  have key : ∀ m, m ≤ n → (gateF M (n - m) (G.drop (n - m)) ((lst64 n f).drop (n - m)) ((lst64 n g).drop (n - m)) = true ↔ ∀ j, n - m ≤ j → j < n → f j = 2 → M.testBit j = false → (G.getD j gp0).min ≤ g j) := by
    intro m
    induction m with
    | zero =>
      intro _
      rw [gateF_end M _ _ _ _ (by omega)]
      exact ⟨fun _ j h1 h2 => by omega, fun _ => rfl⟩
    | succ m ih =>
      intro hm
      rw [gateF_step M _ _ _ (n - (m + 1)) (by omega) (by rw [lst_len]; omega) (by rw [lst_len]; omega), show n - (m + 1) + 1 = n - m by omega, Bool.and_eq_true, ih (by omega), lst_get, lst_get]
      rw [← gd (show n - (m + 1) < G.length by omega)]
      constructor
      · rintro ⟨a, b⟩ j h1 h2 h3 h4
        by_cases e : j = n - (m + 1)
        · subst e
          generalize (G.getD (n - (m + 1)) gp0).min = z at a ⊢
          rw [h3, h4] at a
          simp at a
          omega
        · exact b j (by omega) h2 h3 h4
      · intro h
        refine ⟨?_, fun j h1 h2 => h j (by omega) h2⟩
        have := h (n - (m + 1)) (by omega) (by omega)
        by_cases e1 : f (n - (m + 1)) = 2
        · cases e2 : M.testBit (n - (m + 1)) with
          | true => simp
          | false =>
            have := this e1 e2
            generalize (G.getD (n - (m + 1)) gp0).min = z at this ⊢
            simp
            exact .inr this
        · simp [e1]
  have := key n (Nat.le_refl _)
  rw [Nat.sub_self] at this
  simp only [List.drop_zero] at this
  rw [this]
  exact ⟨fun h j hj => h j (by omega) hj, fun h j _ hj => h j hj⟩
theorem hold_parts (G : List Gp) (F T : Nat) (h64 : G.length ≤ 64) : 0 ≤ holdF F T G 0 0 ∧ (∀ j (hj : j < G.length), F.testBit j = true → T.testBit j = false → G[j].min - 1 ≤ holdF F T G 0 0) ∧ (holdF F T G 0 0 = 0 ∨ ∃ (j : Nat) (hj : j < G.length), G[j].min - 1 = holdF F T G 0 0) := by
  rw [holdF_fm]
  obtain ⟨h1, h2, h3⟩ := fm_max (fun x o => if loses F T o = true then some (x.min - 1) else none) G 0 0
  refine ⟨h1, fun j hj a b => h2 j hj _ ?_, ?_⟩
  · simp only [Nat.zero_add]
    rw [if_pos ((loses_iff (by omega)).2 ⟨a, b⟩)]
  · rcases h3 with h3 | ⟨j, hj, h3⟩
    · exact .inl h3
    · right
      simp only [Nat.zero_add] at h3
      by_cases q : loses F T j = true
      · rw [if_pos q] at h3
        exact ⟨j, hj, by injection h3⟩
      · rw [if_neg q] at h3; cases h3
theorem hold_le {G : List Gp} {C : List Cf} {F T : Nat} (hg : gridB G C = true) : holdF F T G 0 0 ≤ 3600 := by
  rcases (hold_parts G F T (grid_len hg)).2.2 with h | ⟨j, hj, h⟩
  · omega
  · have := grid_g hg hj
    rw [gd hj] at this
    omega
/-- Behind the hold the gate is open. -/
theorem hold_gate {G : List Gp} {C : List Cf} {F T : Nat} {h : F3} (hg : gridB G C = true) (ok : Okf G C h) (hs : ∀ j, j < G.length → h.a j = if F.testBit j = true then 2 else 0) {k : Nat} (hk : holdF F T G 0 0 ≤ (k : Int)) : gateF T 0 G (lst64 G.length (stF G C F h k).a) (lst64 G.length (stF G C F h k).i) = true := by
  refine (gateF_iff rfl).2 fun j hj h2 h3 => ?_
  have s := stay_all hg ok hs k j hj
  have o := okf_at ok hj
  have g := grid_g hg hj
  have hF : F.testBit j = true := by
    cases e : F.testBit j with
    | true => rfl
    | false =>
      have := s.1
      rw [e, if_neg (by decide)] at this
      omega
  have := (hold_parts G F T (grid_len hg)).2.1 j hj hF h3
  rw [← gd hj] at this
  omega
/-- The least number at which something is so. -/
theorem least {P : Nat → Bool} : ∀ n, P n = true → ∃ K, K ≤ n ∧ P K = true ∧ ∀ k, k < K → P k = false := by
  intro n
  induction n using Nat.strongRecOn with
  | _ n ih =>
    intro hn
    by_cases q : ∃ k, k < n ∧ P k = true
    · obtain ⟨k, hk, hp⟩ := q
      obtain ⟨K, h1, h2, h3⟩ := ih k hk hp
      exact ⟨K, by omega, h2, h3⟩
    · refine ⟨n, Nat.le_refl _, hn, fun k hk => ?_⟩
      cases e : P k with
      | false => rfl
      | true => exact absurd ⟨k, hk, e⟩ q
end Go.Proofs.Ythflpnahifpdnaa
namespace Go.Proofs.Ythflpnahifpdnaa
open Go.RowKit
set_option linter.unusedVariables false

set_option maxRecDepth 100000 in
set_option maxHeartbeats 4000000 in
theorem gate_any (G : List Gp) (C : List Cf) (A I W : List Int) (vg vc v1 v2 v3 : Value) (M : Nat) (w : World) (h1 : Fl 5 Gp.cs w vg G) (h2 : Fl 4 Cf.cs w vc C) (h3 : Fl 1 n64 w v1 A) (h4 : Fl 1 n32 w v2 I) (h5 : Fl 1 n32 w v3 W) (lG : G.length ≤ 2932031007317) (lC : C.length ≤ 4398046511000) (lA : A.length ≤ 17592186044000) (lI : I.length ≤ 35184372088000) (lW : W.length ≤ 35184372088000) (okI : ∀ x ∈ I, inI32 x) (hM : M < 18446744073709551616) :
    Calls Try.prog 20 #[.agg #[vg, vc], .agg #[v1, v2, v3], .int .u64 (M : Int)] w fun e w' => e = .returned (.bool (gateB G C A I W M)) ∧ Below w.heap.size w w' := by
  have hSd := fun (X : World) (hX : Below w.heap.size w X) => sound_any G C A I W vg vc v1 v2 v3 X (h1.below hX) (h2.below hX) (h3.below hX) (h4.below hX) (h5.below hX) lG lC lA lI lW okI
  obtain ⟨va, cg, rfl, kG⟩ := h1.any
  obtain ⟨vb, cc, rfl, kC⟩ := h2.any
  obtain ⟨vA, cA, rfl, kA⟩ := h3.nums
  obtain ⟨vI, cI, rfl, kI⟩ := h4.nums
  obtain ⟨vW, cW, rfl, kW⟩ := h5.nums
  clear h1 h2 h3 h4 h5
  have B0 : Has ((w.alloc (.cells #[.slice va G.length cg, .slice vb C.length cc] 25)).alloc (.cells #[.slice vA A.length cA, .slice vI I.length cI, .slice vW W.length cW] 37)) w.heap.size #[.slice va G.length cg, .slice vb C.length cc] := (Has.new _ _ _ rfl).alloc _
  have B1 : Has ((w.alloc (.cells #[.slice va G.length cg, .slice vb C.length cc] 25)).alloc (.cells #[.slice vA A.length cA, .slice vI I.length cI, .slice vW W.length cW] 37)) (w.heap.size + 1) #[.slice vA A.length cA, .slice vI I.length cI, .slice vW W.length cW] := Has.new _ _ _ (by simp)
  have hb0 : Below w.heap.size w ((w.alloc (.cells #[.slice va G.length cg, .slice vb C.length cc] 25)).alloc (.cells #[.slice vA A.length cA, .slice vI I.length cI, .slice vW W.length cW] 37)) := belA
  unfold gateB
  cases hg : soundB G C A I W with
  | false =>
    rw [hg] at hSd
    clear kG kC kA kI kW
    go_enter Try.func20, Try.ntmps20
    go_wp2_with (go_at_call 24; (with_reducible refine Calls.mono (hSd _ (by exact hb0)) ?_); rintro e w2 ⟨rfl, hb2⟩; have hbM := bel_after hb0 hb0.size hb2; clear hb2)
    go_ret
    exact ⟨rfl, hbM⟩
  | true =>
    rw [hg] at hSd
    obtain ⟨e1, e2, e3, -, h64⟩ := sound_len hg
    clear hg
    rw [Bool.true_and]
    have i1 : (A.length : Int) = (G.length : Int) := by omega
    have i2 : (I.length : Int) = (G.length : Int) := by omega
    have i3 : (W.length : Int) = (G.length : Int) := by omega
    have hHas := fun (k : Nat) (hk : k < 64) (X : World) => has_any M k X hM hk
    replace e1 : Hid (A.length = G.length) := e1
    replace e2 : Hid (I.length = G.length) := e2
    replace e3 : Hid (W.length = G.length) := e3
    generalize hA : gateF M 0 G A I = R
    go_enter Try.func20, Try.ntmps20
    go_wp2_with (go_at_call 24; (with_reducible refine Calls.mono (hSd _ (by exact hb0)) ?_); rintro e w2 ⟨rfl, hb2⟩; have hbM := bel_after hb0 hb0.size hb2; have BM := B0.below hb2; have B1M := B1.below hb2; obtain ⟨_, m1, _⟩ := id BM; obtain ⟨_, m2, _⟩ := id B1M; clear hb2)
    clear B0 B1 hb0 m1 m2 hSd
    go_loopw [16] (fun t wr => ∃ k : Nat, k ≤ G.length ∧ t = .int .i64 (k : Int) ∧ Hid (gateF M k (G.drop k) (A.drop k) (I.drop k) = R) ∧ Hid (Has wr w.heap.size #[.slice va G.length cg, .slice vb C.length cc]) ∧ Hid (Has wr (w.heap.size + 1) #[.slice vA A.length cA, .slice vI I.length cI, .slice vW W.length cW]) ∧ Hid (Below w.heap.size w wr)) (fun t _ => G.length - (intOf t).toNat)
    case atStart => exact ⟨0, by omega, rfl, hA, BM, B1M, hbM⟩
    case round =>
      clear BM B1M hbM hA
      obtain ⟨k, hkl, rfl, hs, B, B1, hb⟩ := hrel
      obtain ⟨_, b1, _⟩ := id B.out
      by_cases hlt : k < G.length
      case pos =>
        obtain ⟨g, o, rfl, hg, P⟩ := kG.resolve_left (by intro e; rw [e] at hlt; simp at hlt)
        obtain ⟨gA, oA, rfl, hgA, PA⟩ := kA.resolve_left (by intro e; have := e1.out; rw [e] at this; simp at this; omega)
        obtain ⟨gI, oI, rfl, hgI, PI⟩ := kI.resolve_left (by intro e; have := e2.out; rw [e] at this; simp at this; omega)
        obtain ⟨gW, oW, rfl, hgW, PW⟩ := kW.resolve_left (by intro e; have := e3.out; rw [e] at this; simp at this; omega)
        have lA' : k < A.length := by have := e1.out; omega
        have lI' : k < I.length := by have := e2.out; omega
        have lW' : k < W.length := by have := e3.out; omega
        have hP : ∀ (X : World), Below w.heap.size w X → X.cell? ⟨gA, oA + k, none⟩ = some (.int .i64 A[k]) ∧ X.cell? ⟨gI, oI + k, none⟩ = some (.int .i32 I[k]) ∧ X.cell? ⟨gW, oW + k, none⟩ = some (.int .i32 W[k]) := fun X hX => ⟨(hX.cell (p := ⟨gA, _, none⟩) hgA).trans (PA k lA' _ rfl), (hX.cell (p := ⟨gI, _, none⟩) hgI).trans (PI k lI' _ rfl), (hX.cell (p := ⟨gW, _, none⟩) hgW).trans (PW k lW' _ rfl)⟩
        have hQ : ∀ (X : World), Below w.heap.size w X → X.cell? ⟨g, o + k * 5, none⟩ = some (.string G[k].name) ∧ X.cell? ⟨g, o + k * 5 + 1, none⟩ = some (.int .i64 G[k].sort) ∧ X.cell? ⟨g, o + k * 5 + 2, none⟩ = some (.int .i64 G[k].min) ∧ X.cell? ⟨g, o + k * 5 + 3, none⟩ = some (.int .i64 G[k].amber) ∧ X.cell? ⟨g, o + k * 5 + 4, none⟩ = some (.int .i64 G[k].lead) := fun X hX => ⟨(hX.cell (p := ⟨g, _, none⟩) hg).trans (P k hlt 0 _ rfl), (hX.cell (p := ⟨g, _, none⟩) hg).trans (P k hlt 1 _ rfl), (hX.cell (p := ⟨g, _, none⟩) hg).trans (P k hlt 2 _ rfl), (hX.cell (p := ⟨g, _, none⟩) hg).trans (P k hlt 3 _ rfl), (hX.cell (p := ⟨g, _, none⟩) hg).trans (P k hlt 4 _ rfl)⟩
        have hc := conv32 (okI _ (List.getElem_mem lI'))
        have hH := fun (X : World) => hHas k (by omega) X
        have t0 : (0 : Int) ≤ (k : Int) := by omega
        have t1 : (k : Int) < (G.length : Int) := by omega
        have t2 : k + 1 ≤ G.length := hlt
        have tA : (k : Int) < (A.length : Int) := by omega
        have tI : (k : Int) < (I.length : Int) := by omega
        have tW : (k : Int) < (W.length : Int) := by omega
        have hs' := hs.out
        rw [gateF_step M G A I k hlt lA' lI'] at hs'
        generalize A[k] = ya at *
        generalize I[k] = yi at *
        generalize W[k] = yw at *
        generalize G[k].name = x0 at *
        generalize G[k].sort = x1 at *
        generalize G[k].min = x2 at *
        generalize G[k].amber = x3 at *
        generalize G[k].lead = x4 at *
        clear P PA PI PW kG kA kI kW hs okI hHas
        have hbN : Below w.heap.size w (wr.alloc (.cells #[.string x0, .int .i64 x1, .int .i64 x2, .int .i64 x3, .int .i64 x4] 58)) := hb.out.alloc hb.out.size _
        have BN := B.out.alloc (.cells #[.string x0, .int .i64 x1, .int .i64 x2, .int .i64 x3, .int .i64 x4] 58)
        have B1N := B1.out.alloc (.cells #[.string x0, .int .i64 x1, .int .i64 x2, .int .i64 x3, .int .i64 x4] 58)
        have GN : Has (wr.alloc (.cells #[.string x0, .int .i64 x1, .int .i64 x2, .int .i64 x3, .int .i64 x4] 58)) wr.heap.size #[.string x0, .int .i64 x1, .int .i64 x2, .int .i64 x3, .int .i64 x4] := Has.new _ _ _ rfl
        obtain ⟨p0, p1, p2, p3, p4⟩ := hQ _ hb.out
        go_upto_region 6 with fail
        generalize (wr.alloc (.cells #[.string x0, .int .i64 x1, .int .i64 x2, .int .i64 x3, .int .i64 x4] 58)) = W1 at *
        clear p0 p1 p2 p3 p4 b1
        by_cases d1 : ya = 2
        case neg =>
          have D1 : (ya == 2) = false := by simpa using d1
          have hs2 : Hid (gateF M (k + 1) (G.drop (k + 1)) (A.drop (k + 1)) (I.drop (k + 1)) = R) := by show _ = _; rw [← hs']; simp [d1]
          clear hs'
          refine wp_region_noPanic ?_
          refine wp_region_held_drew (S := fun w' => (w'.cell? ⟨w.heap.size + 1, 0, none⟩ = some (.slice (some ⟨gA, oA, none⟩) A.length cA) ∧ w'.cell? ⟨w.heap.size + 1, 1, none⟩ = some (.slice (some ⟨gI, oI, none⟩) I.length cI) ∧ w'.cell? ⟨w.heap.size + 1, 2, none⟩ = some (.slice (some ⟨gW, oW, none⟩) W.length cW)) ∧ (w'.cell? ⟨wr.heap.size, 0, none⟩ = some (.string x0) ∧ w'.cell? ⟨wr.heap.size, 1, none⟩ = some (.int .i64 x1) ∧ w'.cell? ⟨wr.heap.size, 2, none⟩ = some (.int .i64 x2) ∧ w'.cell? ⟨wr.heap.size, 3, none⟩ = some (.int .i64 x3) ∧ w'.cell? ⟨wr.heap.size, 4, none⟩ = some (.int .i64 x4)) ∧ (w'.cell? ⟨gA, oA + k, none⟩ = some (.int .i64 ya) ∧ w'.cell? ⟨gI, oI + k, none⟩ = some (.int .i32 yi) ∧ w'.cell? ⟨gW, oW + k, none⟩ = some (.int .i32 yw))) (by kernel_rfl) ?_ (fun hHeld => ?_)
          · (try dsimp only)
            exact ⟨has3 B1N.drew, has5 GN.drew, hP _ hbN.drew⟩
          refine wpAnyH_take (i := 0) (oi := { dst := some 21, op := Op.fieldAddr 37 (Operand.tmp 4) 0, type := 0, pos := "heads.go:37", after := #[], guard := none }) (v := ?_) rfl (by kernel_rfl) (by kernel_rfl) (by kernel_rfl) (fun _ _ _ h => h) (Or.inl ⟨by rfl, ?_⟩) (by assumption) ?_
          rotate_left
          · intro wz hSz; (try dsimp only at hSz); go_simp; all_goals (with_reducible rfl)
          (try simp only [Act.put, List.setIfInBounds_toArray, List.set_cons_zero, List.set_cons_succ])
          refine wpAnyH_take (i := 1) (oi := { dst := some 22, op := Op.load 34 (Operand.tmp 21), type := 34, pos := "heads.go:37", after := #[{ on := 0, ground := Ground.data }], guard := none }) (v := ?_) rfl (by kernel_rfl) (by kernel_rfl) (by kernel_rfl) (fun _ _ _ h => h) (Or.inl ⟨by rfl, ?_⟩) (by assumption) ?_
          rotate_left
          · intro wz hSz; (try dsimp only at hSz); go_simp; all_goals (with_reducible rfl)
          (try simp only [Act.put, List.setIfInBounds_toArray, List.set_cons_zero, List.set_cons_succ])
          refine wpAnyH_take (i := 2) (oi := { dst := some 23, op := Op.move (Operand.tmp 7), type := 3, pos := "heads.go:37", after := #[], guard := none }) (v := ?_) rfl (by kernel_rfl) (by kernel_rfl) (by kernel_rfl) (fun _ _ _ h => h) (Or.inl ⟨by rfl, ?_⟩) (by assumption) ?_
          rotate_left
          · intro wz hSz; (try dsimp only at hSz); go_simp; all_goals (with_reducible rfl)
          (try simp only [Act.put, List.setIfInBounds_toArray, List.set_cons_zero, List.set_cons_succ])
          refine wpAnyH_take (i := 3) (oi := { dst := some 24, op := Op.indexAddr 34 (Operand.tmp 22) (Operand.tmp 23), type := 0, pos := "heads.go:37", after := #[{ on := 1, ground := Ground.data }, { on := 2, ground := Ground.data }], guard := none }) (v := ?_) rfl (by kernel_rfl) (by kernel_rfl) (by kernel_rfl) (fun _ _ _ h => h) (Or.inl ⟨by rfl, ?_⟩) (by assumption) ?_
          rotate_left
          · intro wz hSz; (try dsimp only at hSz); go_simp; all_goals (with_reducible rfl)
          (try simp only [Act.put, List.setIfInBounds_toArray, List.set_cons_zero, List.set_cons_succ])
          refine wpAnyH_take (i := 4) (oi := { dst := some 25, op := Op.load 3 (Operand.tmp 24), type := 3, pos := "heads.go:37", after := #[{ on := 3, ground := Ground.data }], guard := none }) (v := ?_) rfl (by kernel_rfl) (by kernel_rfl) (by kernel_rfl) (fun _ _ _ h => h) (Or.inl ⟨by rfl, ?_⟩) (by assumption) ?_
          rotate_left
          · intro wz hSz; (try dsimp only at hSz); go_simp; all_goals (with_reducible rfl)
          (try simp only [Act.put, List.setIfInBounds_toArray, List.set_cons_zero, List.set_cons_succ])
          refine wpAnyH_take (i := 5) (oi := { dst := some 26, op := Op.binOp BinOp.eql 3 (Operand.tmp 25) (Operand.const (Value.int IntKind.i64 2)) 3, type := 4, pos := "heads.go:37", after := #[{ on := 4, ground := Ground.data }], guard := none }) (v := ?_) rfl (by kernel_rfl) (by kernel_rfl) (by kernel_rfl) (fun _ _ _ h => h) (Or.inl ⟨by rfl, ?_⟩) (by assumption) ?_
          rotate_left
          · intro wz hSz; (try dsimp only at hSz); go_simp; all_goals (with_reducible rfl)
          (try simp only [Act.put, List.setIfInBounds_toArray, List.set_cons_zero, List.set_cons_succ])
          refine wpAnyH_take (i := 6) (oi := { dst := some 27, op := Op.move (Operand.tmp 26), type := 4, pos := "heads.go:37", after := #[{ on := 5, ground := Ground.data }], guard := none }) (v := ?_) rfl (by kernel_rfl) (by kernel_rfl) (by kernel_rfl) (fun _ _ _ h => h) (Or.inl ⟨by rfl, ?_⟩) (by assumption) ?_
          rotate_left
          · intro wz hSz; (try dsimp only at hSz); go_simp; all_goals (with_reducible rfl)
          (try simp only [Act.put, List.setIfInBounds_toArray, List.set_cons_zero, List.set_cons_succ])
          refine wpAnyH_take (i := 7) (oi := { dst := some 28, op := Op.move (Operand.tmp 2), type := 26, pos := "heads.go:37", after := #[{ on := 6, ground := Ground.guard }], guard := some (6, true) }) (v := undef) rfl (by kernel_rfl) (by kernel_rfl) (by kernel_rfl) (fun _ _ _ h => h) (Or.inr ⟨by rfl, rfl⟩) (by assumption) ?_
          (try simp only [Act.put, List.setIfInBounds_toArray, List.set_cons_zero, List.set_cons_succ])
          refine wpAnyH_take (i := 8) (oi := { dst := some 29, op := Op.move (Operand.tmp 7), type := 3, pos := "heads.go:37", after := #[{ on := 6, ground := Ground.guard }], guard := some (6, true) }) (v := undef) rfl (by kernel_rfl) (by kernel_rfl) (by kernel_rfl) (fun _ _ _ h => h) (Or.inr ⟨by rfl, rfl⟩) (by assumption) ?_
          (try simp only [Act.put, List.setIfInBounds_toArray, List.set_cons_zero, List.set_cons_succ])
          refine wpAnyH_take (i := 9) (oi := { dst := some 30, op := Op.call { callee := Callee.value (Operand.func 35), args := #[Operand.tmp 28, Operand.tmp 29], argTypes := #[26, 3] }, type := 4, pos := "heads.go:37", after := #[{ on := 7, ground := Ground.data }, { on := 8, ground := Ground.data }, { on := 6, ground := Ground.chain }, { on := 6, ground := Ground.guard }], guard := some (6, true) }) (v := undef) rfl (by kernel_rfl) (by kernel_rfl) (by kernel_rfl) (fun _ _ _ h => h) (Or.inr ⟨by rfl, rfl⟩) (by assumption) ?_
          (try simp only [Act.put, List.setIfInBounds_toArray, List.set_cons_zero, List.set_cons_succ])
          refine wpAnyH_take (i := 10) (oi := { dst := some 31, op := Op.unOp UnOp.not 4 (Operand.tmp 30), type := 4, pos := "heads.go:37", after := #[{ on := 9, ground := Ground.data }, { on := 6, ground := Ground.guard }], guard := some (6, true) }) (v := undef) rfl (by kernel_rfl) (by kernel_rfl) (by kernel_rfl) (fun _ _ _ h => h) (Or.inr ⟨by rfl, rfl⟩) (by assumption) ?_
          (try simp only [Act.put, List.setIfInBounds_toArray, List.set_cons_zero, List.set_cons_succ])
          refine wpAnyH_take (i := 11) (oi := { dst := some 32, op := Op.pick (Operand.tmp 27) (Operand.tmp 31) (Operand.const (Value.bool false)), type := 4, pos := "heads.go:37", after := #[{ on := 6, ground := Ground.data }, { on := 10, ground := Ground.data }], guard := none }) (v := ?_) rfl (by kernel_rfl) (by kernel_rfl) (by kernel_rfl) (fun _ _ _ h => h) (Or.inl ⟨by rfl, ?_⟩) (by assumption) ?_
          rotate_left
          · intro wz hSz; (try dsimp only at hSz); go_simp; all_goals (with_reducible rfl)
          (try simp only [Act.put, List.setIfInBounds_toArray, List.set_cons_zero, List.set_cons_succ])
          refine wpAnyH_take (i := 12) (oi := { dst := some 33, op := Op.move (Operand.tmp 32), type := 4, pos := "heads.go:37", after := #[{ on := 11, ground := Ground.data }, { on := 9, ground := Ground.chain }], guard := none }) (v := ?_) rfl (by kernel_rfl) (by kernel_rfl) (by kernel_rfl) (fun _ _ _ h => h) (Or.inl ⟨by rfl, ?_⟩) (by assumption) ?_
          rotate_left
          · intro wz hSz; (try dsimp only at hSz); go_simp; all_goals (with_reducible rfl)
          (try simp only [Act.put, List.setIfInBounds_toArray, List.set_cons_zero, List.set_cons_succ])
          refine wpAnyH_take (i := 13) (oi := { dst := some 34, op := Op.fieldAddr 37 (Operand.tmp 4) 1, type := 0, pos := "heads.go:37", after := #[{ on := 12, ground := Ground.guard }], guard := some (12, true) }) (v := undef) rfl (by kernel_rfl) (by kernel_rfl) (by kernel_rfl) (fun _ _ _ h => h) (Or.inr ⟨by rfl, rfl⟩) (by assumption) ?_
          (try simp only [Act.put, List.setIfInBounds_toArray, List.set_cons_zero, List.set_cons_succ])
          refine wpAnyH_take (i := 14) (oi := { dst := some 35, op := Op.load 35 (Operand.tmp 34), type := 35, pos := "heads.go:37", after := #[{ on := 13, ground := Ground.data }, { on := 12, ground := Ground.guard }], guard := some (12, true) }) (v := undef) rfl (by kernel_rfl) (by kernel_rfl) (by kernel_rfl) (fun _ _ _ h => h) (Or.inr ⟨by rfl, rfl⟩) (by assumption) ?_
          (try simp only [Act.put, List.setIfInBounds_toArray, List.set_cons_zero, List.set_cons_succ])
          refine wpAnyH_take (i := 15) (oi := { dst := some 36, op := Op.move (Operand.tmp 7), type := 3, pos := "heads.go:37", after := #[{ on := 12, ground := Ground.guard }], guard := some (12, true) }) (v := undef) rfl (by kernel_rfl) (by kernel_rfl) (by kernel_rfl) (fun _ _ _ h => h) (Or.inr ⟨by rfl, rfl⟩) (by assumption) ?_
          (try simp only [Act.put, List.setIfInBounds_toArray, List.set_cons_zero, List.set_cons_succ])
          refine wpAnyH_take (i := 16) (oi := { dst := some 37, op := Op.indexAddr 35 (Operand.tmp 35) (Operand.tmp 36), type := 0, pos := "heads.go:37", after := #[{ on := 14, ground := Ground.data }, { on := 15, ground := Ground.data }, { on := 12, ground := Ground.guard }], guard := some (12, true) }) (v := undef) rfl (by kernel_rfl) (by kernel_rfl) (by kernel_rfl) (fun _ _ _ h => h) (Or.inr ⟨by rfl, rfl⟩) (by assumption) ?_
          (try simp only [Act.put, List.setIfInBounds_toArray, List.set_cons_zero, List.set_cons_succ])
          refine wpAnyH_take (i := 17) (oi := { dst := some 38, op := Op.load 21 (Operand.tmp 37), type := 21, pos := "heads.go:37", after := #[{ on := 16, ground := Ground.data }, { on := 12, ground := Ground.guard }], guard := some (12, true) }) (v := undef) rfl (by kernel_rfl) (by kernel_rfl) (by kernel_rfl) (fun _ _ _ h => h) (Or.inr ⟨by rfl, rfl⟩) (by assumption) ?_
          (try simp only [Act.put, List.setIfInBounds_toArray, List.set_cons_zero, List.set_cons_succ])
          refine wpAnyH_take (i := 18) (oi := { dst := some 39, op := Op.convert 21 3 (Operand.tmp 38), type := 3, pos := "heads.go:37", after := #[{ on := 17, ground := Ground.data }, { on := 12, ground := Ground.guard }], guard := some (12, true) }) (v := undef) rfl (by kernel_rfl) (by kernel_rfl) (by kernel_rfl) (fun _ _ _ h => h) (Or.inr ⟨by rfl, rfl⟩) (by assumption) ?_
          (try simp only [Act.put, List.setIfInBounds_toArray, List.set_cons_zero, List.set_cons_succ])
          refine wpAnyH_take (i := 19) (oi := { dst := some 40, op := Op.fieldAddr 58 (Operand.tmp 8) 2, type := 0, pos := "heads.go:37", after := #[{ on := 12, ground := Ground.guard }], guard := some (12, true) }) (v := undef) rfl (by kernel_rfl) (by kernel_rfl) (by kernel_rfl) (fun _ _ _ h => h) (Or.inr ⟨by rfl, rfl⟩) (by assumption) ?_
          (try simp only [Act.put, List.setIfInBounds_toArray, List.set_cons_zero, List.set_cons_succ])
          refine wpAnyH_take (i := 20) (oi := { dst := some 41, op := Op.load 3 (Operand.tmp 40), type := 3, pos := "heads.go:37", after := #[{ on := 19, ground := Ground.data }, { on := 12, ground := Ground.guard }], guard := some (12, true) }) (v := undef) rfl (by kernel_rfl) (by kernel_rfl) (by kernel_rfl) (fun _ _ _ h => h) (Or.inr ⟨by rfl, rfl⟩) (by assumption) ?_
          (try simp only [Act.put, List.setIfInBounds_toArray, List.set_cons_zero, List.set_cons_succ])
          refine wpAnyH_take (i := 21) (oi := { dst := some 42, op := Op.binOp BinOp.lss 3 (Operand.tmp 39) (Operand.tmp 41) 3, type := 4, pos := "heads.go:37", after := #[{ on := 18, ground := Ground.data }, { on := 20, ground := Ground.data }, { on := 12, ground := Ground.guard }], guard := some (12, true) }) (v := undef) rfl (by kernel_rfl) (by kernel_rfl) (by kernel_rfl) (fun _ _ _ h => h) (Or.inr ⟨by rfl, rfl⟩) (by assumption) ?_
          (try simp only [Act.put, List.setIfInBounds_toArray, List.set_cons_zero, List.set_cons_succ])
          refine wpAnyH_take (i := 22) (oi := { dst := some 43, op := Op.pick (Operand.tmp 33) (Operand.tmp 42) (Operand.const (Value.bool false)), type := 4, pos := "heads.go:37", after := #[{ on := 12, ground := Ground.data }, { on := 21, ground := Ground.data }], guard := none }) (v := ?_) rfl (by kernel_rfl) (by kernel_rfl) (by kernel_rfl) (fun _ _ _ h => h) (Or.inl ⟨by rfl, ?_⟩) (by assumption) ?_
          rotate_left
          · intro wz hSz; (try dsimp only at hSz); go_simp; all_goals (with_reducible rfl)
          (try simp only [Act.put, List.setIfInBounds_toArray, List.set_cons_zero, List.set_cons_succ])
          refine wpAnyH_done (by kernel_rfl) ?_ _
          refine NoPanic.normal ?_
          go_wp2_with fail
          go_roundw
          case rel => exact ⟨k + 1, by omega, by go_num, hs2, BN.drew, B1N.drew, hbN.drew⟩
          case measure => simp [intOf]; omega
        case pos =>
          subst d1
          cases d2 : M.testBit k with
          | true =>
            rw [d2] at hH
            have hs2 : Hid (gateF M (k + 1) (G.drop (k + 1)) (A.drop (k + 1)) (I.drop (k + 1)) = R) := by show _ = _; rw [← hs']; simp [d2]
            clear hs'
            refine wp_region_noPanic ?_
            refine wp_region_held_drew (S := fun w' => (w'.cell? ⟨w.heap.size + 1, 0, none⟩ = some (.slice (some ⟨gA, oA, none⟩) A.length cA) ∧ w'.cell? ⟨w.heap.size + 1, 1, none⟩ = some (.slice (some ⟨gI, oI, none⟩) I.length cI) ∧ w'.cell? ⟨w.heap.size + 1, 2, none⟩ = some (.slice (some ⟨gW, oW, none⟩) W.length cW)) ∧ (w'.cell? ⟨wr.heap.size, 0, none⟩ = some (.string x0) ∧ w'.cell? ⟨wr.heap.size, 1, none⟩ = some (.int .i64 x1) ∧ w'.cell? ⟨wr.heap.size, 2, none⟩ = some (.int .i64 x2) ∧ w'.cell? ⟨wr.heap.size, 3, none⟩ = some (.int .i64 x3) ∧ w'.cell? ⟨wr.heap.size, 4, none⟩ = some (.int .i64 x4)) ∧ (w'.cell? ⟨gA, oA + k, none⟩ = some (.int .i64 2) ∧ w'.cell? ⟨gI, oI + k, none⟩ = some (.int .i32 yi) ∧ w'.cell? ⟨gW, oW + k, none⟩ = some (.int .i32 yw))) (by kernel_rfl) ?_ (fun hHeld => ?_)
            · (try dsimp only)
              exact ⟨has3 B1N.drew, has5 GN.drew, hP _ hbN.drew⟩
            refine wpAnyH_take (i := 0) (oi := { dst := some 21, op := Op.fieldAddr 37 (Operand.tmp 4) 0, type := 0, pos := "heads.go:37", after := #[], guard := none }) (v := ?_) rfl (by kernel_rfl) (by kernel_rfl) (by kernel_rfl) (fun _ _ _ h => h) (Or.inl ⟨by rfl, ?_⟩) (by assumption) ?_
            rotate_left
            · intro wz hSz; (try dsimp only at hSz); go_simp; all_goals (with_reducible rfl)
            (try simp only [Act.put, List.setIfInBounds_toArray, List.set_cons_zero, List.set_cons_succ])
            refine wpAnyH_take (i := 1) (oi := { dst := some 22, op := Op.load 34 (Operand.tmp 21), type := 34, pos := "heads.go:37", after := #[{ on := 0, ground := Ground.data }], guard := none }) (v := ?_) rfl (by kernel_rfl) (by kernel_rfl) (by kernel_rfl) (fun _ _ _ h => h) (Or.inl ⟨by rfl, ?_⟩) (by assumption) ?_
            rotate_left
            · intro wz hSz; (try dsimp only at hSz); go_simp; all_goals (with_reducible rfl)
            (try simp only [Act.put, List.setIfInBounds_toArray, List.set_cons_zero, List.set_cons_succ])
            refine wpAnyH_take (i := 2) (oi := { dst := some 23, op := Op.move (Operand.tmp 7), type := 3, pos := "heads.go:37", after := #[], guard := none }) (v := ?_) rfl (by kernel_rfl) (by kernel_rfl) (by kernel_rfl) (fun _ _ _ h => h) (Or.inl ⟨by rfl, ?_⟩) (by assumption) ?_
            rotate_left
            · intro wz hSz; (try dsimp only at hSz); go_simp; all_goals (with_reducible rfl)
            (try simp only [Act.put, List.setIfInBounds_toArray, List.set_cons_zero, List.set_cons_succ])
            refine wpAnyH_take (i := 3) (oi := { dst := some 24, op := Op.indexAddr 34 (Operand.tmp 22) (Operand.tmp 23), type := 0, pos := "heads.go:37", after := #[{ on := 1, ground := Ground.data }, { on := 2, ground := Ground.data }], guard := none }) (v := ?_) rfl (by kernel_rfl) (by kernel_rfl) (by kernel_rfl) (fun _ _ _ h => h) (Or.inl ⟨by rfl, ?_⟩) (by assumption) ?_
            rotate_left
            · intro wz hSz; (try dsimp only at hSz); go_simp; all_goals (with_reducible rfl)
            (try simp only [Act.put, List.setIfInBounds_toArray, List.set_cons_zero, List.set_cons_succ])
            refine wpAnyH_take (i := 4) (oi := { dst := some 25, op := Op.load 3 (Operand.tmp 24), type := 3, pos := "heads.go:37", after := #[{ on := 3, ground := Ground.data }], guard := none }) (v := ?_) rfl (by kernel_rfl) (by kernel_rfl) (by kernel_rfl) (fun _ _ _ h => h) (Or.inl ⟨by rfl, ?_⟩) (by assumption) ?_
            rotate_left
            · intro wz hSz; (try dsimp only at hSz); go_simp; all_goals (with_reducible rfl)
            (try simp only [Act.put, List.setIfInBounds_toArray, List.set_cons_zero, List.set_cons_succ])
            refine wpAnyH_take (i := 5) (oi := { dst := some 26, op := Op.binOp BinOp.eql 3 (Operand.tmp 25) (Operand.const (Value.int IntKind.i64 2)) 3, type := 4, pos := "heads.go:37", after := #[{ on := 4, ground := Ground.data }], guard := none }) (v := ?_) rfl (by kernel_rfl) (by kernel_rfl) (by kernel_rfl) (fun _ _ _ h => h) (Or.inl ⟨by rfl, ?_⟩) (by assumption) ?_
            rotate_left
            · intro wz hSz; (try dsimp only at hSz); go_simp; all_goals (with_reducible rfl)
            (try simp only [Act.put, List.setIfInBounds_toArray, List.set_cons_zero, List.set_cons_succ])
            refine wpAnyH_take (i := 6) (oi := { dst := some 27, op := Op.move (Operand.tmp 26), type := 4, pos := "heads.go:37", after := #[{ on := 5, ground := Ground.data }], guard := none }) (v := ?_) rfl (by kernel_rfl) (by kernel_rfl) (by kernel_rfl) (fun _ _ _ h => h) (Or.inl ⟨by rfl, ?_⟩) (by assumption) ?_
            rotate_left
            · intro wz hSz; (try dsimp only at hSz); go_simp; all_goals (with_reducible rfl)
            (try simp only [Act.put, List.setIfInBounds_toArray, List.set_cons_zero, List.set_cons_succ])
            refine wpAnyH_take (i := 7) (oi := { dst := some 28, op := Op.move (Operand.tmp 2), type := 26, pos := "heads.go:37", after := #[{ on := 6, ground := Ground.guard }], guard := some (6, true) }) (v := ?_) rfl (by kernel_rfl) (by kernel_rfl) (by kernel_rfl) (fun _ _ _ h => h) (Or.inl ⟨by rfl, ?_⟩) (by assumption) ?_
            rotate_left
            · intro wz hSz; (try dsimp only at hSz); go_simp; all_goals (with_reducible rfl)
            (try simp only [Act.put, List.setIfInBounds_toArray, List.set_cons_zero, List.set_cons_succ])
            refine wpAnyH_take (i := 8) (oi := { dst := some 29, op := Op.move (Operand.tmp 7), type := 3, pos := "heads.go:37", after := #[{ on := 6, ground := Ground.guard }], guard := some (6, true) }) (v := ?_) rfl (by kernel_rfl) (by kernel_rfl) (by kernel_rfl) (fun _ _ _ h => h) (Or.inl ⟨by rfl, ?_⟩) (by assumption) ?_
            rotate_left
            · intro wz hSz; (try dsimp only at hSz); go_simp; all_goals (with_reducible rfl)
            (try simp only [Act.put, List.setIfInBounds_toArray, List.set_cons_zero, List.set_cons_succ])
            refine wpAnyH_ready (rs := [9]) (by kernel_rfl) (by simp) ?_
            refine AllReadyH.cons (o := { dst := some 30, op := Op.call { callee := Callee.value (Operand.func 35), args := #[Operand.tmp 28, Operand.tmp 29], argTypes := #[26, 3] }, type := 4, pos := "heads.go:37", after := #[{ on := 7, ground := Ground.data }, { on := 8, ground := Ground.data }, { on := 6, ground := Ground.chain }, { on := 6, ground := Ground.guard }], guard := some (6, true) }) rfl (fun K hK => ?_) AllReadyH.nil
            go_simp
            (go_at_call 35; (with_reducible refine Calls.mono (hH _) ?_); rintro e w2 ⟨rfl, rfl⟩)
            go_wp2_with fail
            refine hK.out _ _ ?_ (fun hHeld => ?_)
            · (try dsimp only)
              exact ⟨has3 B1N.drew, has5 GN.drew, hP _ hbN.drew⟩
            clear hK K
            (try simp only [Act.put, List.setIfInBounds_toArray, List.set_cons_zero, List.set_cons_succ])
            refine wpAnyH_take (i := 10) (oi := { dst := some 31, op := Op.unOp UnOp.not 4 (Operand.tmp 30), type := 4, pos := "heads.go:37", after := #[{ on := 9, ground := Ground.data }, { on := 6, ground := Ground.guard }], guard := some (6, true) }) (v := ?_) rfl (by kernel_rfl) (by kernel_rfl) (by kernel_rfl) (fun _ _ _ h => h) (Or.inl ⟨by rfl, ?_⟩) (by assumption) ?_
            rotate_left
            · intro wz hSz; (try dsimp only at hSz); go_simp; all_goals (with_reducible rfl)
            (try simp only [Act.put, List.setIfInBounds_toArray, List.set_cons_zero, List.set_cons_succ])
            refine wpAnyH_take (i := 11) (oi := { dst := some 32, op := Op.pick (Operand.tmp 27) (Operand.tmp 31) (Operand.const (Value.bool false)), type := 4, pos := "heads.go:37", after := #[{ on := 6, ground := Ground.data }, { on := 10, ground := Ground.data }], guard := none }) (v := ?_) rfl (by kernel_rfl) (by kernel_rfl) (by kernel_rfl) (fun _ _ _ h => h) (Or.inl ⟨by rfl, ?_⟩) (by assumption) ?_
            rotate_left
            · intro wz hSz; (try dsimp only at hSz); go_simp; all_goals (with_reducible rfl)
            (try simp only [Act.put, List.setIfInBounds_toArray, List.set_cons_zero, List.set_cons_succ])
            refine wpAnyH_take (i := 12) (oi := { dst := some 33, op := Op.move (Operand.tmp 32), type := 4, pos := "heads.go:37", after := #[{ on := 11, ground := Ground.data }, { on := 9, ground := Ground.chain }], guard := none }) (v := ?_) rfl (by kernel_rfl) (by kernel_rfl) (by kernel_rfl) (fun _ _ _ h => h) (Or.inl ⟨by rfl, ?_⟩) (by assumption) ?_
            rotate_left
            · intro wz hSz; (try dsimp only at hSz); go_simp; all_goals (with_reducible rfl)
            (try simp only [Act.put, List.setIfInBounds_toArray, List.set_cons_zero, List.set_cons_succ])
            refine wpAnyH_take (i := 13) (oi := { dst := some 34, op := Op.fieldAddr 37 (Operand.tmp 4) 1, type := 0, pos := "heads.go:37", after := #[{ on := 12, ground := Ground.guard }], guard := some (12, true) }) (v := undef) rfl (by kernel_rfl) (by kernel_rfl) (by kernel_rfl) (fun _ _ _ h => h) (Or.inr ⟨by rfl, rfl⟩) (by assumption) ?_
            (try simp only [Act.put, List.setIfInBounds_toArray, List.set_cons_zero, List.set_cons_succ])
            refine wpAnyH_take (i := 14) (oi := { dst := some 35, op := Op.load 35 (Operand.tmp 34), type := 35, pos := "heads.go:37", after := #[{ on := 13, ground := Ground.data }, { on := 12, ground := Ground.guard }], guard := some (12, true) }) (v := undef) rfl (by kernel_rfl) (by kernel_rfl) (by kernel_rfl) (fun _ _ _ h => h) (Or.inr ⟨by rfl, rfl⟩) (by assumption) ?_
            (try simp only [Act.put, List.setIfInBounds_toArray, List.set_cons_zero, List.set_cons_succ])
            refine wpAnyH_take (i := 15) (oi := { dst := some 36, op := Op.move (Operand.tmp 7), type := 3, pos := "heads.go:37", after := #[{ on := 12, ground := Ground.guard }], guard := some (12, true) }) (v := undef) rfl (by kernel_rfl) (by kernel_rfl) (by kernel_rfl) (fun _ _ _ h => h) (Or.inr ⟨by rfl, rfl⟩) (by assumption) ?_
            (try simp only [Act.put, List.setIfInBounds_toArray, List.set_cons_zero, List.set_cons_succ])
            refine wpAnyH_take (i := 16) (oi := { dst := some 37, op := Op.indexAddr 35 (Operand.tmp 35) (Operand.tmp 36), type := 0, pos := "heads.go:37", after := #[{ on := 14, ground := Ground.data }, { on := 15, ground := Ground.data }, { on := 12, ground := Ground.guard }], guard := some (12, true) }) (v := undef) rfl (by kernel_rfl) (by kernel_rfl) (by kernel_rfl) (fun _ _ _ h => h) (Or.inr ⟨by rfl, rfl⟩) (by assumption) ?_
            (try simp only [Act.put, List.setIfInBounds_toArray, List.set_cons_zero, List.set_cons_succ])
            refine wpAnyH_take (i := 17) (oi := { dst := some 38, op := Op.load 21 (Operand.tmp 37), type := 21, pos := "heads.go:37", after := #[{ on := 16, ground := Ground.data }, { on := 12, ground := Ground.guard }], guard := some (12, true) }) (v := undef) rfl (by kernel_rfl) (by kernel_rfl) (by kernel_rfl) (fun _ _ _ h => h) (Or.inr ⟨by rfl, rfl⟩) (by assumption) ?_
            (try simp only [Act.put, List.setIfInBounds_toArray, List.set_cons_zero, List.set_cons_succ])
            refine wpAnyH_take (i := 18) (oi := { dst := some 39, op := Op.convert 21 3 (Operand.tmp 38), type := 3, pos := "heads.go:37", after := #[{ on := 17, ground := Ground.data }, { on := 12, ground := Ground.guard }], guard := some (12, true) }) (v := undef) rfl (by kernel_rfl) (by kernel_rfl) (by kernel_rfl) (fun _ _ _ h => h) (Or.inr ⟨by rfl, rfl⟩) (by assumption) ?_
            (try simp only [Act.put, List.setIfInBounds_toArray, List.set_cons_zero, List.set_cons_succ])
            refine wpAnyH_take (i := 19) (oi := { dst := some 40, op := Op.fieldAddr 58 (Operand.tmp 8) 2, type := 0, pos := "heads.go:37", after := #[{ on := 12, ground := Ground.guard }], guard := some (12, true) }) (v := undef) rfl (by kernel_rfl) (by kernel_rfl) (by kernel_rfl) (fun _ _ _ h => h) (Or.inr ⟨by rfl, rfl⟩) (by assumption) ?_
            (try simp only [Act.put, List.setIfInBounds_toArray, List.set_cons_zero, List.set_cons_succ])
            refine wpAnyH_take (i := 20) (oi := { dst := some 41, op := Op.load 3 (Operand.tmp 40), type := 3, pos := "heads.go:37", after := #[{ on := 19, ground := Ground.data }, { on := 12, ground := Ground.guard }], guard := some (12, true) }) (v := undef) rfl (by kernel_rfl) (by kernel_rfl) (by kernel_rfl) (fun _ _ _ h => h) (Or.inr ⟨by rfl, rfl⟩) (by assumption) ?_
            (try simp only [Act.put, List.setIfInBounds_toArray, List.set_cons_zero, List.set_cons_succ])
            refine wpAnyH_take (i := 21) (oi := { dst := some 42, op := Op.binOp BinOp.lss 3 (Operand.tmp 39) (Operand.tmp 41) 3, type := 4, pos := "heads.go:37", after := #[{ on := 18, ground := Ground.data }, { on := 20, ground := Ground.data }, { on := 12, ground := Ground.guard }], guard := some (12, true) }) (v := undef) rfl (by kernel_rfl) (by kernel_rfl) (by kernel_rfl) (fun _ _ _ h => h) (Or.inr ⟨by rfl, rfl⟩) (by assumption) ?_
            (try simp only [Act.put, List.setIfInBounds_toArray, List.set_cons_zero, List.set_cons_succ])
            refine wpAnyH_take (i := 22) (oi := { dst := some 43, op := Op.pick (Operand.tmp 33) (Operand.tmp 42) (Operand.const (Value.bool false)), type := 4, pos := "heads.go:37", after := #[{ on := 12, ground := Ground.data }, { on := 21, ground := Ground.data }], guard := none }) (v := ?_) rfl (by kernel_rfl) (by kernel_rfl) (by kernel_rfl) (fun _ _ _ h => h) (Or.inl ⟨by rfl, ?_⟩) (by assumption) ?_
            rotate_left
            · intro wz hSz; (try dsimp only at hSz); go_simp; all_goals (with_reducible rfl)
            (try simp only [Act.put, List.setIfInBounds_toArray, List.set_cons_zero, List.set_cons_succ])
            refine wpAnyH_done (by kernel_rfl) ?_ _
            refine NoPanic.normal ?_
            go_wp2_with fail
            go_roundw
            case rel => exact ⟨k + 1, by omega, by go_num, hs2, BN.drew, B1N.drew, hbN.drew⟩
            case measure => simp [intOf]; omega
          | false =>
            rw [d2] at hH
            by_cases d3 : yi < x2
            · skip
              have hR : R = false := by rw [← hs']; simp [d2, d3]
              subst hR
              clear hs'
              refine wp_region_noPanic ?_
              refine wp_region_held_drew (S := fun w' => (w'.cell? ⟨w.heap.size + 1, 0, none⟩ = some (.slice (some ⟨gA, oA, none⟩) A.length cA) ∧ w'.cell? ⟨w.heap.size + 1, 1, none⟩ = some (.slice (some ⟨gI, oI, none⟩) I.length cI) ∧ w'.cell? ⟨w.heap.size + 1, 2, none⟩ = some (.slice (some ⟨gW, oW, none⟩) W.length cW)) ∧ (w'.cell? ⟨wr.heap.size, 0, none⟩ = some (.string x0) ∧ w'.cell? ⟨wr.heap.size, 1, none⟩ = some (.int .i64 x1) ∧ w'.cell? ⟨wr.heap.size, 2, none⟩ = some (.int .i64 x2) ∧ w'.cell? ⟨wr.heap.size, 3, none⟩ = some (.int .i64 x3) ∧ w'.cell? ⟨wr.heap.size, 4, none⟩ = some (.int .i64 x4)) ∧ (w'.cell? ⟨gA, oA + k, none⟩ = some (.int .i64 2) ∧ w'.cell? ⟨gI, oI + k, none⟩ = some (.int .i32 yi) ∧ w'.cell? ⟨gW, oW + k, none⟩ = some (.int .i32 yw))) (by kernel_rfl) ?_ (fun hHeld => ?_)
              · (try dsimp only)
                exact ⟨has3 B1N.drew, has5 GN.drew, hP _ hbN.drew⟩
              refine wpAnyH_take (i := 0) (oi := { dst := some 21, op := Op.fieldAddr 37 (Operand.tmp 4) 0, type := 0, pos := "heads.go:37", after := #[], guard := none }) (v := ?_) rfl (by kernel_rfl) (by kernel_rfl) (by kernel_rfl) (fun _ _ _ h => h) (Or.inl ⟨by rfl, ?_⟩) (by assumption) ?_
              rotate_left
              · intro wz hSz; (try dsimp only at hSz); go_simp; all_goals (with_reducible rfl)
              (try simp only [Act.put, List.setIfInBounds_toArray, List.set_cons_zero, List.set_cons_succ])
              refine wpAnyH_take (i := 1) (oi := { dst := some 22, op := Op.load 34 (Operand.tmp 21), type := 34, pos := "heads.go:37", after := #[{ on := 0, ground := Ground.data }], guard := none }) (v := ?_) rfl (by kernel_rfl) (by kernel_rfl) (by kernel_rfl) (fun _ _ _ h => h) (Or.inl ⟨by rfl, ?_⟩) (by assumption) ?_
              rotate_left
              · intro wz hSz; (try dsimp only at hSz); go_simp; all_goals (with_reducible rfl)
              (try simp only [Act.put, List.setIfInBounds_toArray, List.set_cons_zero, List.set_cons_succ])
              refine wpAnyH_take (i := 2) (oi := { dst := some 23, op := Op.move (Operand.tmp 7), type := 3, pos := "heads.go:37", after := #[], guard := none }) (v := ?_) rfl (by kernel_rfl) (by kernel_rfl) (by kernel_rfl) (fun _ _ _ h => h) (Or.inl ⟨by rfl, ?_⟩) (by assumption) ?_
              rotate_left
              · intro wz hSz; (try dsimp only at hSz); go_simp; all_goals (with_reducible rfl)
              (try simp only [Act.put, List.setIfInBounds_toArray, List.set_cons_zero, List.set_cons_succ])
              refine wpAnyH_take (i := 3) (oi := { dst := some 24, op := Op.indexAddr 34 (Operand.tmp 22) (Operand.tmp 23), type := 0, pos := "heads.go:37", after := #[{ on := 1, ground := Ground.data }, { on := 2, ground := Ground.data }], guard := none }) (v := ?_) rfl (by kernel_rfl) (by kernel_rfl) (by kernel_rfl) (fun _ _ _ h => h) (Or.inl ⟨by rfl, ?_⟩) (by assumption) ?_
              rotate_left
              · intro wz hSz; (try dsimp only at hSz); go_simp; all_goals (with_reducible rfl)
              (try simp only [Act.put, List.setIfInBounds_toArray, List.set_cons_zero, List.set_cons_succ])
              refine wpAnyH_take (i := 4) (oi := { dst := some 25, op := Op.load 3 (Operand.tmp 24), type := 3, pos := "heads.go:37", after := #[{ on := 3, ground := Ground.data }], guard := none }) (v := ?_) rfl (by kernel_rfl) (by kernel_rfl) (by kernel_rfl) (fun _ _ _ h => h) (Or.inl ⟨by rfl, ?_⟩) (by assumption) ?_
              rotate_left
              · intro wz hSz; (try dsimp only at hSz); go_simp; all_goals (with_reducible rfl)
              (try simp only [Act.put, List.setIfInBounds_toArray, List.set_cons_zero, List.set_cons_succ])
              refine wpAnyH_take (i := 5) (oi := { dst := some 26, op := Op.binOp BinOp.eql 3 (Operand.tmp 25) (Operand.const (Value.int IntKind.i64 2)) 3, type := 4, pos := "heads.go:37", after := #[{ on := 4, ground := Ground.data }], guard := none }) (v := ?_) rfl (by kernel_rfl) (by kernel_rfl) (by kernel_rfl) (fun _ _ _ h => h) (Or.inl ⟨by rfl, ?_⟩) (by assumption) ?_
              rotate_left
              · intro wz hSz; (try dsimp only at hSz); go_simp; all_goals (with_reducible rfl)
              (try simp only [Act.put, List.setIfInBounds_toArray, List.set_cons_zero, List.set_cons_succ])
              refine wpAnyH_take (i := 6) (oi := { dst := some 27, op := Op.move (Operand.tmp 26), type := 4, pos := "heads.go:37", after := #[{ on := 5, ground := Ground.data }], guard := none }) (v := ?_) rfl (by kernel_rfl) (by kernel_rfl) (by kernel_rfl) (fun _ _ _ h => h) (Or.inl ⟨by rfl, ?_⟩) (by assumption) ?_
              rotate_left
              · intro wz hSz; (try dsimp only at hSz); go_simp; all_goals (with_reducible rfl)
              (try simp only [Act.put, List.setIfInBounds_toArray, List.set_cons_zero, List.set_cons_succ])
              refine wpAnyH_take (i := 7) (oi := { dst := some 28, op := Op.move (Operand.tmp 2), type := 26, pos := "heads.go:37", after := #[{ on := 6, ground := Ground.guard }], guard := some (6, true) }) (v := ?_) rfl (by kernel_rfl) (by kernel_rfl) (by kernel_rfl) (fun _ _ _ h => h) (Or.inl ⟨by rfl, ?_⟩) (by assumption) ?_
              rotate_left
              · intro wz hSz; (try dsimp only at hSz); go_simp; all_goals (with_reducible rfl)
              (try simp only [Act.put, List.setIfInBounds_toArray, List.set_cons_zero, List.set_cons_succ])
              refine wpAnyH_take (i := 8) (oi := { dst := some 29, op := Op.move (Operand.tmp 7), type := 3, pos := "heads.go:37", after := #[{ on := 6, ground := Ground.guard }], guard := some (6, true) }) (v := ?_) rfl (by kernel_rfl) (by kernel_rfl) (by kernel_rfl) (fun _ _ _ h => h) (Or.inl ⟨by rfl, ?_⟩) (by assumption) ?_
              rotate_left
              · intro wz hSz; (try dsimp only at hSz); go_simp; all_goals (with_reducible rfl)
              (try simp only [Act.put, List.setIfInBounds_toArray, List.set_cons_zero, List.set_cons_succ])
              refine wpAnyH_ready (rs := [9]) (by kernel_rfl) (by simp) ?_
              refine AllReadyH.cons (o := { dst := some 30, op := Op.call { callee := Callee.value (Operand.func 35), args := #[Operand.tmp 28, Operand.tmp 29], argTypes := #[26, 3] }, type := 4, pos := "heads.go:37", after := #[{ on := 7, ground := Ground.data }, { on := 8, ground := Ground.data }, { on := 6, ground := Ground.chain }, { on := 6, ground := Ground.guard }], guard := some (6, true) }) rfl (fun K hK => ?_) AllReadyH.nil
              go_simp
              (go_at_call 35; (with_reducible refine Calls.mono (hH _) ?_); rintro e w2 ⟨rfl, rfl⟩)
              go_wp2_with fail
              refine hK.out _ _ ?_ (fun hHeld => ?_)
              · (try dsimp only)
                exact ⟨has3 B1N.drew, has5 GN.drew, hP _ hbN.drew⟩
              clear hK K
              (try simp only [Act.put, List.setIfInBounds_toArray, List.set_cons_zero, List.set_cons_succ])
              refine wpAnyH_take (i := 10) (oi := { dst := some 31, op := Op.unOp UnOp.not 4 (Operand.tmp 30), type := 4, pos := "heads.go:37", after := #[{ on := 9, ground := Ground.data }, { on := 6, ground := Ground.guard }], guard := some (6, true) }) (v := ?_) rfl (by kernel_rfl) (by kernel_rfl) (by kernel_rfl) (fun _ _ _ h => h) (Or.inl ⟨by rfl, ?_⟩) (by assumption) ?_
              rotate_left
              · intro wz hSz; (try dsimp only at hSz); go_simp; all_goals (with_reducible rfl)
              (try simp only [Act.put, List.setIfInBounds_toArray, List.set_cons_zero, List.set_cons_succ])
              refine wpAnyH_take (i := 11) (oi := { dst := some 32, op := Op.pick (Operand.tmp 27) (Operand.tmp 31) (Operand.const (Value.bool false)), type := 4, pos := "heads.go:37", after := #[{ on := 6, ground := Ground.data }, { on := 10, ground := Ground.data }], guard := none }) (v := ?_) rfl (by kernel_rfl) (by kernel_rfl) (by kernel_rfl) (fun _ _ _ h => h) (Or.inl ⟨by rfl, ?_⟩) (by assumption) ?_
              rotate_left
              · intro wz hSz; (try dsimp only at hSz); go_simp; all_goals (with_reducible rfl)
              (try simp only [Act.put, List.setIfInBounds_toArray, List.set_cons_zero, List.set_cons_succ])
              refine wpAnyH_take (i := 12) (oi := { dst := some 33, op := Op.move (Operand.tmp 32), type := 4, pos := "heads.go:37", after := #[{ on := 11, ground := Ground.data }, { on := 9, ground := Ground.chain }], guard := none }) (v := ?_) rfl (by kernel_rfl) (by kernel_rfl) (by kernel_rfl) (fun _ _ _ h => h) (Or.inl ⟨by rfl, ?_⟩) (by assumption) ?_
              rotate_left
              · intro wz hSz; (try dsimp only at hSz); go_simp; all_goals (with_reducible rfl)
              (try simp only [Act.put, List.setIfInBounds_toArray, List.set_cons_zero, List.set_cons_succ])
              refine wpAnyH_take (i := 13) (oi := { dst := some 34, op := Op.fieldAddr 37 (Operand.tmp 4) 1, type := 0, pos := "heads.go:37", after := #[{ on := 12, ground := Ground.guard }], guard := some (12, true) }) (v := ?_) rfl (by kernel_rfl) (by kernel_rfl) (by kernel_rfl) (fun _ _ _ h => h) (Or.inl ⟨by rfl, ?_⟩) (by assumption) ?_
              rotate_left
              · intro wz hSz; (try dsimp only at hSz); go_simp; all_goals (with_reducible rfl)
              (try simp only [Act.put, List.setIfInBounds_toArray, List.set_cons_zero, List.set_cons_succ])
              refine wpAnyH_take (i := 14) (oi := { dst := some 35, op := Op.load 35 (Operand.tmp 34), type := 35, pos := "heads.go:37", after := #[{ on := 13, ground := Ground.data }, { on := 12, ground := Ground.guard }], guard := some (12, true) }) (v := ?_) rfl (by kernel_rfl) (by kernel_rfl) (by kernel_rfl) (fun _ _ _ h => h) (Or.inl ⟨by rfl, ?_⟩) (by assumption) ?_
              rotate_left
              · intro wz hSz; (try dsimp only at hSz); go_simp; all_goals (with_reducible rfl)
              (try simp only [Act.put, List.setIfInBounds_toArray, List.set_cons_zero, List.set_cons_succ])
              refine wpAnyH_take (i := 15) (oi := { dst := some 36, op := Op.move (Operand.tmp 7), type := 3, pos := "heads.go:37", after := #[{ on := 12, ground := Ground.guard }], guard := some (12, true) }) (v := ?_) rfl (by kernel_rfl) (by kernel_rfl) (by kernel_rfl) (fun _ _ _ h => h) (Or.inl ⟨by rfl, ?_⟩) (by assumption) ?_
              rotate_left
              · intro wz hSz; (try dsimp only at hSz); go_simp; all_goals (with_reducible rfl)
              (try simp only [Act.put, List.setIfInBounds_toArray, List.set_cons_zero, List.set_cons_succ])
              refine wpAnyH_take (i := 16) (oi := { dst := some 37, op := Op.indexAddr 35 (Operand.tmp 35) (Operand.tmp 36), type := 0, pos := "heads.go:37", after := #[{ on := 14, ground := Ground.data }, { on := 15, ground := Ground.data }, { on := 12, ground := Ground.guard }], guard := some (12, true) }) (v := ?_) rfl (by kernel_rfl) (by kernel_rfl) (by kernel_rfl) (fun _ _ _ h => h) (Or.inl ⟨by rfl, ?_⟩) (by assumption) ?_
              rotate_left
              · intro wz hSz; (try dsimp only at hSz); go_simp; all_goals (with_reducible rfl)
              (try simp only [Act.put, List.setIfInBounds_toArray, List.set_cons_zero, List.set_cons_succ])
              refine wpAnyH_take (i := 17) (oi := { dst := some 38, op := Op.load 21 (Operand.tmp 37), type := 21, pos := "heads.go:37", after := #[{ on := 16, ground := Ground.data }, { on := 12, ground := Ground.guard }], guard := some (12, true) }) (v := ?_) rfl (by kernel_rfl) (by kernel_rfl) (by kernel_rfl) (fun _ _ _ h => h) (Or.inl ⟨by rfl, ?_⟩) (by assumption) ?_
              rotate_left
              · intro wz hSz; (try dsimp only at hSz); go_simp; all_goals (with_reducible rfl)
              (try simp only [Act.put, List.setIfInBounds_toArray, List.set_cons_zero, List.set_cons_succ])
              refine wpAnyH_take (i := 18) (oi := { dst := some 39, op := Op.convert 21 3 (Operand.tmp 38), type := 3, pos := "heads.go:37", after := #[{ on := 17, ground := Ground.data }, { on := 12, ground := Ground.guard }], guard := some (12, true) }) (v := ?_) rfl (by kernel_rfl) (by kernel_rfl) (by kernel_rfl) (fun _ _ _ h => h) (Or.inl ⟨by rfl, ?_⟩) (by assumption) ?_
              rotate_left
              · intro wz hSz; (try dsimp only at hSz); go_simp; all_goals (with_reducible rfl)
              (try simp only [Act.put, List.setIfInBounds_toArray, List.set_cons_zero, List.set_cons_succ])
              refine wpAnyH_take (i := 19) (oi := { dst := some 40, op := Op.fieldAddr 58 (Operand.tmp 8) 2, type := 0, pos := "heads.go:37", after := #[{ on := 12, ground := Ground.guard }], guard := some (12, true) }) (v := ?_) rfl (by kernel_rfl) (by kernel_rfl) (by kernel_rfl) (fun _ _ _ h => h) (Or.inl ⟨by rfl, ?_⟩) (by assumption) ?_
              rotate_left
              · intro wz hSz; (try dsimp only at hSz); go_simp; all_goals (with_reducible rfl)
              (try simp only [Act.put, List.setIfInBounds_toArray, List.set_cons_zero, List.set_cons_succ])
              refine wpAnyH_take (i := 20) (oi := { dst := some 41, op := Op.load 3 (Operand.tmp 40), type := 3, pos := "heads.go:37", after := #[{ on := 19, ground := Ground.data }, { on := 12, ground := Ground.guard }], guard := some (12, true) }) (v := ?_) rfl (by kernel_rfl) (by kernel_rfl) (by kernel_rfl) (fun _ _ _ h => h) (Or.inl ⟨by rfl, ?_⟩) (by assumption) ?_
              rotate_left
              · intro wz hSz; (try dsimp only at hSz); go_simp; all_goals (with_reducible rfl)
              (try simp only [Act.put, List.setIfInBounds_toArray, List.set_cons_zero, List.set_cons_succ])
              refine wpAnyH_take (i := 21) (oi := { dst := some 42, op := Op.binOp BinOp.lss 3 (Operand.tmp 39) (Operand.tmp 41) 3, type := 4, pos := "heads.go:37", after := #[{ on := 18, ground := Ground.data }, { on := 20, ground := Ground.data }, { on := 12, ground := Ground.guard }], guard := some (12, true) }) (v := ?_) rfl (by kernel_rfl) (by kernel_rfl) (by kernel_rfl) (fun _ _ _ h => h) (Or.inl ⟨by rfl, ?_⟩) (by assumption) ?_
              rotate_left
              · intro wz hSz; (try dsimp only at hSz); go_simp; all_goals (with_reducible rfl)
              (try simp only [Act.put, List.setIfInBounds_toArray, List.set_cons_zero, List.set_cons_succ])
              refine wpAnyH_take (i := 22) (oi := { dst := some 43, op := Op.pick (Operand.tmp 33) (Operand.tmp 42) (Operand.const (Value.bool false)), type := 4, pos := "heads.go:37", after := #[{ on := 12, ground := Ground.data }, { on := 21, ground := Ground.data }], guard := none }) (v := ?_) rfl (by kernel_rfl) (by kernel_rfl) (by kernel_rfl) (fun _ _ _ h => h) (Or.inl ⟨by rfl, ?_⟩) (by assumption) ?_
              rotate_left
              · intro wz hSz; (try dsimp only at hSz); go_simp; all_goals (with_reducible rfl)
              (try simp only [Act.put, List.setIfInBounds_toArray, List.set_cons_zero, List.set_cons_succ])
              refine wpAnyH_done (by kernel_rfl) ?_ _
              refine NoPanic.normal ?_
              go_wp2_with fail
              go_ret
              exact ⟨rfl, hbN.drew⟩
            · have D3 : decide (yi < x2) = false := decide_eq_false d3
              have hs2 : Hid (gateF M (k + 1) (G.drop (k + 1)) (A.drop (k + 1)) (I.drop (k + 1)) = R) := by show _ = _; rw [← hs']; simp [d2, d3]
              clear hs'
              refine wp_region_noPanic ?_
              refine wp_region_held_drew (S := fun w' => (w'.cell? ⟨w.heap.size + 1, 0, none⟩ = some (.slice (some ⟨gA, oA, none⟩) A.length cA) ∧ w'.cell? ⟨w.heap.size + 1, 1, none⟩ = some (.slice (some ⟨gI, oI, none⟩) I.length cI) ∧ w'.cell? ⟨w.heap.size + 1, 2, none⟩ = some (.slice (some ⟨gW, oW, none⟩) W.length cW)) ∧ (w'.cell? ⟨wr.heap.size, 0, none⟩ = some (.string x0) ∧ w'.cell? ⟨wr.heap.size, 1, none⟩ = some (.int .i64 x1) ∧ w'.cell? ⟨wr.heap.size, 2, none⟩ = some (.int .i64 x2) ∧ w'.cell? ⟨wr.heap.size, 3, none⟩ = some (.int .i64 x3) ∧ w'.cell? ⟨wr.heap.size, 4, none⟩ = some (.int .i64 x4)) ∧ (w'.cell? ⟨gA, oA + k, none⟩ = some (.int .i64 2) ∧ w'.cell? ⟨gI, oI + k, none⟩ = some (.int .i32 yi) ∧ w'.cell? ⟨gW, oW + k, none⟩ = some (.int .i32 yw))) (by kernel_rfl) ?_ (fun hHeld => ?_)
              · (try dsimp only)
                exact ⟨has3 B1N.drew, has5 GN.drew, hP _ hbN.drew⟩
              refine wpAnyH_take (i := 0) (oi := { dst := some 21, op := Op.fieldAddr 37 (Operand.tmp 4) 0, type := 0, pos := "heads.go:37", after := #[], guard := none }) (v := ?_) rfl (by kernel_rfl) (by kernel_rfl) (by kernel_rfl) (fun _ _ _ h => h) (Or.inl ⟨by rfl, ?_⟩) (by assumption) ?_
              rotate_left
              · intro wz hSz; (try dsimp only at hSz); go_simp; all_goals (with_reducible rfl)
              (try simp only [Act.put, List.setIfInBounds_toArray, List.set_cons_zero, List.set_cons_succ])
              refine wpAnyH_take (i := 1) (oi := { dst := some 22, op := Op.load 34 (Operand.tmp 21), type := 34, pos := "heads.go:37", after := #[{ on := 0, ground := Ground.data }], guard := none }) (v := ?_) rfl (by kernel_rfl) (by kernel_rfl) (by kernel_rfl) (fun _ _ _ h => h) (Or.inl ⟨by rfl, ?_⟩) (by assumption) ?_
              rotate_left
              · intro wz hSz; (try dsimp only at hSz); go_simp; all_goals (with_reducible rfl)
              (try simp only [Act.put, List.setIfInBounds_toArray, List.set_cons_zero, List.set_cons_succ])
              refine wpAnyH_take (i := 2) (oi := { dst := some 23, op := Op.move (Operand.tmp 7), type := 3, pos := "heads.go:37", after := #[], guard := none }) (v := ?_) rfl (by kernel_rfl) (by kernel_rfl) (by kernel_rfl) (fun _ _ _ h => h) (Or.inl ⟨by rfl, ?_⟩) (by assumption) ?_
              rotate_left
              · intro wz hSz; (try dsimp only at hSz); go_simp; all_goals (with_reducible rfl)
              (try simp only [Act.put, List.setIfInBounds_toArray, List.set_cons_zero, List.set_cons_succ])
              refine wpAnyH_take (i := 3) (oi := { dst := some 24, op := Op.indexAddr 34 (Operand.tmp 22) (Operand.tmp 23), type := 0, pos := "heads.go:37", after := #[{ on := 1, ground := Ground.data }, { on := 2, ground := Ground.data }], guard := none }) (v := ?_) rfl (by kernel_rfl) (by kernel_rfl) (by kernel_rfl) (fun _ _ _ h => h) (Or.inl ⟨by rfl, ?_⟩) (by assumption) ?_
              rotate_left
              · intro wz hSz; (try dsimp only at hSz); go_simp; all_goals (with_reducible rfl)
              (try simp only [Act.put, List.setIfInBounds_toArray, List.set_cons_zero, List.set_cons_succ])
              refine wpAnyH_take (i := 4) (oi := { dst := some 25, op := Op.load 3 (Operand.tmp 24), type := 3, pos := "heads.go:37", after := #[{ on := 3, ground := Ground.data }], guard := none }) (v := ?_) rfl (by kernel_rfl) (by kernel_rfl) (by kernel_rfl) (fun _ _ _ h => h) (Or.inl ⟨by rfl, ?_⟩) (by assumption) ?_
              rotate_left
              · intro wz hSz; (try dsimp only at hSz); go_simp; all_goals (with_reducible rfl)
              (try simp only [Act.put, List.setIfInBounds_toArray, List.set_cons_zero, List.set_cons_succ])
              refine wpAnyH_take (i := 5) (oi := { dst := some 26, op := Op.binOp BinOp.eql 3 (Operand.tmp 25) (Operand.const (Value.int IntKind.i64 2)) 3, type := 4, pos := "heads.go:37", after := #[{ on := 4, ground := Ground.data }], guard := none }) (v := ?_) rfl (by kernel_rfl) (by kernel_rfl) (by kernel_rfl) (fun _ _ _ h => h) (Or.inl ⟨by rfl, ?_⟩) (by assumption) ?_
              rotate_left
              · intro wz hSz; (try dsimp only at hSz); go_simp; all_goals (with_reducible rfl)
              (try simp only [Act.put, List.setIfInBounds_toArray, List.set_cons_zero, List.set_cons_succ])
              refine wpAnyH_take (i := 6) (oi := { dst := some 27, op := Op.move (Operand.tmp 26), type := 4, pos := "heads.go:37", after := #[{ on := 5, ground := Ground.data }], guard := none }) (v := ?_) rfl (by kernel_rfl) (by kernel_rfl) (by kernel_rfl) (fun _ _ _ h => h) (Or.inl ⟨by rfl, ?_⟩) (by assumption) ?_
              rotate_left
              · intro wz hSz; (try dsimp only at hSz); go_simp; all_goals (with_reducible rfl)
              (try simp only [Act.put, List.setIfInBounds_toArray, List.set_cons_zero, List.set_cons_succ])
              refine wpAnyH_take (i := 7) (oi := { dst := some 28, op := Op.move (Operand.tmp 2), type := 26, pos := "heads.go:37", after := #[{ on := 6, ground := Ground.guard }], guard := some (6, true) }) (v := ?_) rfl (by kernel_rfl) (by kernel_rfl) (by kernel_rfl) (fun _ _ _ h => h) (Or.inl ⟨by rfl, ?_⟩) (by assumption) ?_
              rotate_left
              · intro wz hSz; (try dsimp only at hSz); go_simp; all_goals (with_reducible rfl)
              (try simp only [Act.put, List.setIfInBounds_toArray, List.set_cons_zero, List.set_cons_succ])
              refine wpAnyH_take (i := 8) (oi := { dst := some 29, op := Op.move (Operand.tmp 7), type := 3, pos := "heads.go:37", after := #[{ on := 6, ground := Ground.guard }], guard := some (6, true) }) (v := ?_) rfl (by kernel_rfl) (by kernel_rfl) (by kernel_rfl) (fun _ _ _ h => h) (Or.inl ⟨by rfl, ?_⟩) (by assumption) ?_
              rotate_left
              · intro wz hSz; (try dsimp only at hSz); go_simp; all_goals (with_reducible rfl)
              (try simp only [Act.put, List.setIfInBounds_toArray, List.set_cons_zero, List.set_cons_succ])
              refine wpAnyH_ready (rs := [9]) (by kernel_rfl) (by simp) ?_
              refine AllReadyH.cons (o := { dst := some 30, op := Op.call { callee := Callee.value (Operand.func 35), args := #[Operand.tmp 28, Operand.tmp 29], argTypes := #[26, 3] }, type := 4, pos := "heads.go:37", after := #[{ on := 7, ground := Ground.data }, { on := 8, ground := Ground.data }, { on := 6, ground := Ground.chain }, { on := 6, ground := Ground.guard }], guard := some (6, true) }) rfl (fun K hK => ?_) AllReadyH.nil
              go_simp
              (go_at_call 35; (with_reducible refine Calls.mono (hH _) ?_); rintro e w2 ⟨rfl, rfl⟩)
              go_wp2_with fail
              refine hK.out _ _ ?_ (fun hHeld => ?_)
              · (try dsimp only)
                exact ⟨has3 B1N.drew, has5 GN.drew, hP _ hbN.drew⟩
              clear hK K
              (try simp only [Act.put, List.setIfInBounds_toArray, List.set_cons_zero, List.set_cons_succ])
              refine wpAnyH_take (i := 10) (oi := { dst := some 31, op := Op.unOp UnOp.not 4 (Operand.tmp 30), type := 4, pos := "heads.go:37", after := #[{ on := 9, ground := Ground.data }, { on := 6, ground := Ground.guard }], guard := some (6, true) }) (v := ?_) rfl (by kernel_rfl) (by kernel_rfl) (by kernel_rfl) (fun _ _ _ h => h) (Or.inl ⟨by rfl, ?_⟩) (by assumption) ?_
              rotate_left
              · intro wz hSz; (try dsimp only at hSz); go_simp; all_goals (with_reducible rfl)
              (try simp only [Act.put, List.setIfInBounds_toArray, List.set_cons_zero, List.set_cons_succ])
              refine wpAnyH_take (i := 11) (oi := { dst := some 32, op := Op.pick (Operand.tmp 27) (Operand.tmp 31) (Operand.const (Value.bool false)), type := 4, pos := "heads.go:37", after := #[{ on := 6, ground := Ground.data }, { on := 10, ground := Ground.data }], guard := none }) (v := ?_) rfl (by kernel_rfl) (by kernel_rfl) (by kernel_rfl) (fun _ _ _ h => h) (Or.inl ⟨by rfl, ?_⟩) (by assumption) ?_
              rotate_left
              · intro wz hSz; (try dsimp only at hSz); go_simp; all_goals (with_reducible rfl)
              (try simp only [Act.put, List.setIfInBounds_toArray, List.set_cons_zero, List.set_cons_succ])
              refine wpAnyH_take (i := 12) (oi := { dst := some 33, op := Op.move (Operand.tmp 32), type := 4, pos := "heads.go:37", after := #[{ on := 11, ground := Ground.data }, { on := 9, ground := Ground.chain }], guard := none }) (v := ?_) rfl (by kernel_rfl) (by kernel_rfl) (by kernel_rfl) (fun _ _ _ h => h) (Or.inl ⟨by rfl, ?_⟩) (by assumption) ?_
              rotate_left
              · intro wz hSz; (try dsimp only at hSz); go_simp; all_goals (with_reducible rfl)
              (try simp only [Act.put, List.setIfInBounds_toArray, List.set_cons_zero, List.set_cons_succ])
              refine wpAnyH_take (i := 13) (oi := { dst := some 34, op := Op.fieldAddr 37 (Operand.tmp 4) 1, type := 0, pos := "heads.go:37", after := #[{ on := 12, ground := Ground.guard }], guard := some (12, true) }) (v := ?_) rfl (by kernel_rfl) (by kernel_rfl) (by kernel_rfl) (fun _ _ _ h => h) (Or.inl ⟨by rfl, ?_⟩) (by assumption) ?_
              rotate_left
              · intro wz hSz; (try dsimp only at hSz); go_simp; all_goals (with_reducible rfl)
              (try simp only [Act.put, List.setIfInBounds_toArray, List.set_cons_zero, List.set_cons_succ])
              refine wpAnyH_take (i := 14) (oi := { dst := some 35, op := Op.load 35 (Operand.tmp 34), type := 35, pos := "heads.go:37", after := #[{ on := 13, ground := Ground.data }, { on := 12, ground := Ground.guard }], guard := some (12, true) }) (v := ?_) rfl (by kernel_rfl) (by kernel_rfl) (by kernel_rfl) (fun _ _ _ h => h) (Or.inl ⟨by rfl, ?_⟩) (by assumption) ?_
              rotate_left
              · intro wz hSz; (try dsimp only at hSz); go_simp; all_goals (with_reducible rfl)
              (try simp only [Act.put, List.setIfInBounds_toArray, List.set_cons_zero, List.set_cons_succ])
              refine wpAnyH_take (i := 15) (oi := { dst := some 36, op := Op.move (Operand.tmp 7), type := 3, pos := "heads.go:37", after := #[{ on := 12, ground := Ground.guard }], guard := some (12, true) }) (v := ?_) rfl (by kernel_rfl) (by kernel_rfl) (by kernel_rfl) (fun _ _ _ h => h) (Or.inl ⟨by rfl, ?_⟩) (by assumption) ?_
              rotate_left
              · intro wz hSz; (try dsimp only at hSz); go_simp; all_goals (with_reducible rfl)
              (try simp only [Act.put, List.setIfInBounds_toArray, List.set_cons_zero, List.set_cons_succ])
              refine wpAnyH_take (i := 16) (oi := { dst := some 37, op := Op.indexAddr 35 (Operand.tmp 35) (Operand.tmp 36), type := 0, pos := "heads.go:37", after := #[{ on := 14, ground := Ground.data }, { on := 15, ground := Ground.data }, { on := 12, ground := Ground.guard }], guard := some (12, true) }) (v := ?_) rfl (by kernel_rfl) (by kernel_rfl) (by kernel_rfl) (fun _ _ _ h => h) (Or.inl ⟨by rfl, ?_⟩) (by assumption) ?_
              rotate_left
              · intro wz hSz; (try dsimp only at hSz); go_simp; all_goals (with_reducible rfl)
              (try simp only [Act.put, List.setIfInBounds_toArray, List.set_cons_zero, List.set_cons_succ])
              refine wpAnyH_take (i := 17) (oi := { dst := some 38, op := Op.load 21 (Operand.tmp 37), type := 21, pos := "heads.go:37", after := #[{ on := 16, ground := Ground.data }, { on := 12, ground := Ground.guard }], guard := some (12, true) }) (v := ?_) rfl (by kernel_rfl) (by kernel_rfl) (by kernel_rfl) (fun _ _ _ h => h) (Or.inl ⟨by rfl, ?_⟩) (by assumption) ?_
              rotate_left
              · intro wz hSz; (try dsimp only at hSz); go_simp; all_goals (with_reducible rfl)
              (try simp only [Act.put, List.setIfInBounds_toArray, List.set_cons_zero, List.set_cons_succ])
              refine wpAnyH_take (i := 18) (oi := { dst := some 39, op := Op.convert 21 3 (Operand.tmp 38), type := 3, pos := "heads.go:37", after := #[{ on := 17, ground := Ground.data }, { on := 12, ground := Ground.guard }], guard := some (12, true) }) (v := ?_) rfl (by kernel_rfl) (by kernel_rfl) (by kernel_rfl) (fun _ _ _ h => h) (Or.inl ⟨by rfl, ?_⟩) (by assumption) ?_
              rotate_left
              · intro wz hSz; (try dsimp only at hSz); go_simp; all_goals (with_reducible rfl)
              (try simp only [Act.put, List.setIfInBounds_toArray, List.set_cons_zero, List.set_cons_succ])
              refine wpAnyH_take (i := 19) (oi := { dst := some 40, op := Op.fieldAddr 58 (Operand.tmp 8) 2, type := 0, pos := "heads.go:37", after := #[{ on := 12, ground := Ground.guard }], guard := some (12, true) }) (v := ?_) rfl (by kernel_rfl) (by kernel_rfl) (by kernel_rfl) (fun _ _ _ h => h) (Or.inl ⟨by rfl, ?_⟩) (by assumption) ?_
              rotate_left
              · intro wz hSz; (try dsimp only at hSz); go_simp; all_goals (with_reducible rfl)
              (try simp only [Act.put, List.setIfInBounds_toArray, List.set_cons_zero, List.set_cons_succ])
              refine wpAnyH_take (i := 20) (oi := { dst := some 41, op := Op.load 3 (Operand.tmp 40), type := 3, pos := "heads.go:37", after := #[{ on := 19, ground := Ground.data }, { on := 12, ground := Ground.guard }], guard := some (12, true) }) (v := ?_) rfl (by kernel_rfl) (by kernel_rfl) (by kernel_rfl) (fun _ _ _ h => h) (Or.inl ⟨by rfl, ?_⟩) (by assumption) ?_
              rotate_left
              · intro wz hSz; (try dsimp only at hSz); go_simp; all_goals (with_reducible rfl)
              (try simp only [Act.put, List.setIfInBounds_toArray, List.set_cons_zero, List.set_cons_succ])
              refine wpAnyH_take (i := 21) (oi := { dst := some 42, op := Op.binOp BinOp.lss 3 (Operand.tmp 39) (Operand.tmp 41) 3, type := 4, pos := "heads.go:37", after := #[{ on := 18, ground := Ground.data }, { on := 20, ground := Ground.data }, { on := 12, ground := Ground.guard }], guard := some (12, true) }) (v := ?_) rfl (by kernel_rfl) (by kernel_rfl) (by kernel_rfl) (fun _ _ _ h => h) (Or.inl ⟨by rfl, ?_⟩) (by assumption) ?_
              rotate_left
              · intro wz hSz; (try dsimp only at hSz); go_simp; all_goals (with_reducible rfl)
              (try simp only [Act.put, List.setIfInBounds_toArray, List.set_cons_zero, List.set_cons_succ])
              refine wpAnyH_take (i := 22) (oi := { dst := some 43, op := Op.pick (Operand.tmp 33) (Operand.tmp 42) (Operand.const (Value.bool false)), type := 4, pos := "heads.go:37", after := #[{ on := 12, ground := Ground.data }, { on := 21, ground := Ground.data }], guard := none }) (v := ?_) rfl (by kernel_rfl) (by kernel_rfl) (by kernel_rfl) (fun _ _ _ h => h) (Or.inl ⟨by rfl, ?_⟩) (by assumption) ?_
              rotate_left
              · intro wz hSz; (try dsimp only at hSz); go_simp; all_goals (with_reducible rfl)
              (try simp only [Act.put, List.setIfInBounds_toArray, List.set_cons_zero, List.set_cons_succ])
              refine wpAnyH_done (by kernel_rfl) ?_ _
              refine NoPanic.normal ?_
              go_wp2_with fail
              go_roundw
              case rel => exact ⟨k + 1, by omega, by go_num, hs2, BN.drew, B1N.drew, hbN.drew⟩
              case measure => simp [intOf]; omega
      case neg =>
        have t1 : ¬ (k : Int) < (G.length : Int) := by omega
        have hR : R = true := by rw [← hs.out]; exact gateF_end M G A I k (by omega)
        subst hR
        clear kG hs
        go_wp2
        go_ret
        exact ⟨rfl, hb.out⟩
end Go.Proofs.Ythflpnahifpdnaa
namespace Go.Proofs.Ythflpnahifpdnaa
open Go.RowKit
set_option linter.unusedVariables false

/-- Numbers do not lie where three lists lie. -/
theorem fl_ne {cs : Int → List Value} {k : IntKind} (hc : ∀ x, cs x = [.int k x]) {w : World} {P : Nat} {a1 a2 a3 : Option Addr} {n1 n2 n3 c1 c2 c3 : Nat} {u : Value} {L : List Int} (f : Fl 1 cs w u L) (H : Has w P #[.slice a1 n1 c1, .slice a2 n2 c2, .slice a3 n3 c3]) (hL : L ≠ []) : ∀ q, u.ownBlock = some q → q ≠ P := by
  obtain ⟨a, cap, rfl, hk⟩ := f.nums
  obtain ⟨g, o, rfl, hg, hx⟩ := hk.resolve_left hL
  intro q hq e
  have e1 : g = q := by injection hq
  subst e1
  subst e
  have l0 : 0 < L.length := List.length_pos_iff.2 hL
  have := hx 0 l0 (.int k L[0]) (by rw [hc]; rfl)
  rw [Nat.add_zero, H.2.1] at this
  match o with
  | 0 => simp at this
  | 1 => simp at this
  | 2 => simp at this
  | (o + 3) => simp at this
structure St (G : List Gp) (C : List Cf) (M : Nat) (h : F3) : Prop where
  ok : Okf G C h
  a : ∀ j, j < G.length → h.a j = if M.testBit j = true then 2 else 0
set_option maxRecDepth 100000 in
set_option maxHeartbeats 4000000 in
theorem moves_bad (G : List Gp) (C : List Cf) (Ms : List Nat) (Sy : List Int) (vg vc vm vs : Value) (w : World) (h1 : Fl 5 Gp.cs w vg G) (h2 : Fl 4 Cf.cs w vc C) (h3 : Fl 1 u64 w vm Ms) (h4 : Fl 1 n64 w vs Sy) (lG : G.length ≤ 2932031007317) (lC : C.length ≤ 4398046511000) (lM : Ms.length ≤ 17592186044000) (lS : Sy.length ≤ 17592186044000) (ok : ∀ (i : Nat) (h : i < C.length), C[i].ok) (okM : ∀ x ∈ Ms, x < 18446744073709551616) (eg : gridB G C = false) :
    Calls Try.prog 4 #[.agg #[vg, vc], vm, vs] w fun e w' => e = .returned (.bool true) ∧ Below w.heap.size w w' := by
  have kA := fun (X : World) (hX : Below w.heap.size w X) => alive_any X
  have kT := fun (X : World) (hX : Below w.heap.size w X) => start_bad G C vg vc X (h1.below hX) (h2.below hX) lG lC eg
  have kG := fun (X : World) (hX : Below w.heap.size w X) => refGrid_any G C vg vc X (h1.below hX) (h2.below hX) lG lC
  rw [eg] at kG
  obtain ⟨va, cg, rfl, -⟩ := h1.any
  obtain ⟨vb, cc, rfl, -⟩ := h2.any
  have E0 : Has (w.alloc (.cells #[.slice va G.length cg, .slice vb C.length cc] 25)) w.heap.size #[.slice va G.length cg, .slice vb C.length cc] := Has.new _ _ _ rfl
  have b0 : Below w.heap.size w (w.alloc (.cells #[.slice va G.length cg, .slice vb C.length cc] 25)) := belN1
  clear h1 h2 h3 h4 ok okM
  go_enter Try.func4, Try.ntmps4
  go_upto_region 4 with (first
    | (go_at_call 9; (with_reducible refine Calls.mono (kA _ (by exact b0)) ?_); rintro e y1 ⟨rfl, hy1⟩; have b1 := bel_after b0 b0.size hy1; have E1 := E0.below hy1; obtain ⟨_, cy1, _⟩ := id E1; clear hy1)
    | (go_at_call 16; (with_reducible refine Calls.mono (kT _ (by exact b1)) ?_); rintro e y2 ⟨rfl, hy2⟩; have b2 := bel_after b1 b1.size hy2; have E2 := E1.below hy2; obtain ⟨_, cy2, _⟩ := id E2; clear hy2))
  have b3 := b2.alloc b2.size (.cells #[.slice none 0 0, .slice none 0 0, .slice none 0 0] 37)
  have E3 := E2.alloc (.cells #[.slice none 0 0, .slice none 0 0, .slice none 0 0] 37)
  generalize (y2.alloc (.cells #[.slice none 0 0, .slice none 0 0, .slice none 0 0] 37)) = Y at *
  clear cy1 cy2 E0 E1 E2 b0 b1 b2
  obtain ⟨_, c3, _⟩ := id E3
  go_wp2_with (go_at_call 11; (with_reducible refine Calls.mono (kG _ (by exact b3)) ?_); rintro e y4 ⟨rfl, hy4⟩; have b4 := bel_after b3 b3.size hy4; have E4 := E3.below hy4; obtain ⟨_, cy4, _⟩ := id E4; clear hy4)
  go_ret
  exact ⟨rfl, b4⟩
set_option maxRecDepth 100000 in
set_option maxHeartbeats 4000000 in
theorem moves_ok (G : List Gp) (C : List Cf) (Ms : List Nat) (Sy : List Int) (vg vc vm vs : Value) (w : World) (h1 : Fl 5 Gp.cs w vg G) (h2 : Fl 4 Cf.cs w vc C) (h3 : Fl 1 u64 w vm Ms) (h4 : Fl 1 n64 w vs Sy) (lG : G.length ≤ 2932031007317) (lC : C.length ≤ 4398046511000) (lM : Ms.length ≤ 17592186044000) (lS : Sy.length ≤ 17592186044000) (ok : ∀ (i : Nat) (h : i < C.length), C[i].ok) (okM : ∀ x ∈ Ms, x < 18446744073709551616) (eg : gridB G C = true) :
    Calls Try.prog 4 #[.agg #[vg, vc], vm, vs] w fun e w' => e = .returned (.bool true) ∧ Below w.heap.size w w' := by
  have h64 := grid_len eg
  have kA := fun (X : World) (hX : Below w.heap.size w X) => alive_any X
  have kT := fun (X : World) (hX : Below w.heap.size w X) => start_ok G C vg vc X (h1.below hX) (h2.below hX) lG lC eg
  have kG := fun (X : World) (hX : Below w.heap.size w X) => refGrid_any G C vg vc X (h1.below hX) (h2.below hX) lG lC
  rw [eg] at kG
  have kLo := fun (F T : Nat) (hF : F < 18446744073709551616) (hT : T < 18446744073709551616) (X : World) (hX : Below w.heap.size w X) => longest_any G C vg vc F T X hF hT (h1.below hX) (h2.below hX) lG lC ok
  have kHo := fun (F T : Nat) (hF : F < 18446744073709551616) (hT : T < 18446744073709551616) (X : World) (hX : Below w.heap.size w X) => hold_any G C vg vc F T X hF hT (h1.below hX) (h2.below hX) lG lC
  have eH : ∀ F T, holdV G C F T = (holdF F T G 0 0, 0) := fun F T => by unfold holdV; rw [if_pos eg]
  have kSt := fun (M : Nat) (hM : M < 18446744073709551616) (X : World) (hX : Below w.heap.size w X) (A I W : List Int) (u1 u2 u3 : Value) (f1 : Fl 1 n64 X u1 A) (f2 : Fl 1 n32 X u2 I) (f3 : Fl 1 n32 X u3 W) (la : A.length ≤ 17592186044000) (li : I.length ≤ 35184372088000) (lw : W.length ≤ 35184372088000) (oi : ∀ x ∈ I, inI32 x) (ow : ∀ x ∈ W, inI32 x) (ft : fitsB G C A I W = true) => step_ok G C A I W vg vc u1 u2 u3 M X (h1.below hX) (h2.below hX) f1 f2 f3 lG lC la li lw oi ow hM eg ft
  have kGa := fun (M : Nat) (hM : M < 18446744073709551616) (X : World) (hX : Below w.heap.size w X) (A I W : List Int) (u1 u2 u3 : Value) (f1 : Fl 1 n64 X u1 A) (f2 : Fl 1 n32 X u2 I) (f3 : Fl 1 n32 X u3 W) (la : A.length ≤ 17592186044000) (li : I.length ≤ 35184372088000) (lw : W.length ≤ 35184372088000) (oi : ∀ x ∈ I, inI32 x) => gate_any G C A I W vg vc u1 u2 u3 M X (h1.below hX) (h2.below hX) f1 f2 f3 lG lC la li lw oi hM
  have kSp := fun (M : Nat) (hM : M < 18446744073709551616) (h0 : F3) (okh : Okf G C h0) (K most : Nat) (hK : K ≤ most) (hm : most ≤ 100000) (no : ∀ k, k < K → setF M 0 (lst64 G.length (stF G C M h0 k).a) = false) (yes : setF M 0 (lst64 G.length (stF G C M h0 K).a) = true) (X : World) (hX : Below w.heap.size w X) (u1 u2 u3 : Value) (f1 : Fl 1 n64 X u1 (lst64 G.length h0.a)) (f2 : Fl 1 n32 X u2 (lst64 G.length h0.i)) (f3 : Fl 1 n32 X u3 (lst64 G.length h0.w)) => steps_ok G C h0 vg vc u1 u2 u3 M K most X (h1.below hX) (h2.below hX) f1 f2 f3 lC hM eg okh hK hm no yes
  obtain ⟨va, cg, rfl, -⟩ := h1.any
  obtain ⟨vb, cc, rfl, -⟩ := h2.any
  obtain ⟨ma, mc, rfl, kM⟩ := h3.nums
  obtain ⟨sa, sc, rfl, kY⟩ := h4.nums
  have E0 : Has (w.alloc (.cells #[.slice va G.length cg, .slice vb C.length cc] 25)) w.heap.size #[.slice va G.length cg, .slice vb C.length cc] := Has.new _ _ _ rfl
  have b0 : Below w.heap.size w (w.alloc (.cells #[.slice va G.length cg, .slice vb C.length cc] 25)) := belN1
  clear h1 h2 h3 h4 ok
  go_enter Try.func4, Try.ntmps4
  go_upto_region 4 with (first
    | (go_at_call 9; (with_reducible refine Calls.mono (kA _ (by exact b0)) ?_); rintro e y1 ⟨rfl, hy1⟩; have b1 := bel_after b0 b0.size hy1; have E1 := E0.below hy1; obtain ⟨_, cy1, _⟩ := id E1; clear hy1)
    | (go_at_call 16; (with_reducible refine Calls.mono (kT _ (by exact b1)) ?_); rintro e y2 ⟨⟨r', s0, s1, rfl, a0, a1, a2, m1, m2, m3⟩, hy2⟩; have b2 := bel_after b1 b1.size hy2; have E2 := E1.below hy2; obtain ⟨_, cy2, _⟩ := id E2))
  have T1 : T3 y1.heap.size y2 (.slice (some ⟨r', 0, none⟩) G.length G.length) (.slice (some ⟨s0, 0, none⟩) G.length G.length) (.slice (some ⟨s1, 0, none⟩) G.length G.length) G.length G.length G.length (valR G.length f30.a) (v32 G.length f30.i) (v32 G.length f30.w) := t3_of a0 a1 a2 m1 m2 m3
  have T3' := T1.spared (S := fun _ => False) (Only.of_below (belN1 : Below y2.heap.size y2 (y2.alloc (.cells #[.slice (some ⟨r', 0, none⟩) G.length G.length, .slice (some ⟨s0, 0, none⟩) G.length G.length, .slice (some ⟨s1, 0, none⟩) G.length G.length] 37)))) (fun q _ _ _ h => h)
  have N3 : Has (y2.alloc (.cells #[.slice (some ⟨r', 0, none⟩) G.length G.length, .slice (some ⟨s0, 0, none⟩) G.length G.length, .slice (some ⟨s1, 0, none⟩) G.length G.length] 37)) y2.heap.size #[.slice (some ⟨r', 0, none⟩) G.length G.length, .slice (some ⟨s0, 0, none⟩) G.length G.length, .slice (some ⟨s1, 0, none⟩) G.length G.length] := Has.new _ _ _ rfl
  have b3 := b2.alloc b2.size (.cells #[.slice (some ⟨r', 0, none⟩) G.length G.length, .slice (some ⟨s0, 0, none⟩) G.length G.length, .slice (some ⟨s1, 0, none⟩) G.length G.length] 37)
  have E3 := E2.alloc (.cells #[.slice (some ⟨r', 0, none⟩) G.length G.length, .slice (some ⟨s0, 0, none⟩) G.length G.length, .slice (some ⟨s1, 0, none⟩) G.length G.length] 37)
  have zE : w.heap.size < y2.heap.size := E2.1
  have D3 : Hd3 (y2.alloc (.cells #[.slice (some ⟨r', 0, none⟩) G.length G.length, .slice (some ⟨s0, 0, none⟩) G.length G.length, .slice (some ⟨s1, 0, none⟩) G.length G.length] 37)) (.slice (some ⟨r', 0, none⟩) G.length G.length) (.slice (some ⟨s0, 0, none⟩) G.length G.length) (.slice (some ⟨s1, 0, none⟩) G.length G.length) (lst64 G.length f30.a) (lst64 G.length f30.i) (lst64 G.length f30.w) y2.heap.size y2.heap.size :=
    ⟨T3'.f1, T3'.f2, T3'.f3, fun _ q hq => by have := own_lt T1.o1 q hq; omega, fun _ q hq => by have := own_lt T1.o2 q hq; omega, fun _ q hq => by have := own_lt T1.o3 q hq; omega⟩
  generalize (y2.alloc (.cells #[.slice (some ⟨r', 0, none⟩) G.length G.length, .slice (some ⟨s0, 0, none⟩) G.length G.length, .slice (some ⟨s1, 0, none⟩) G.length G.length] 37)) = Y at *
  generalize y2.heap.size = P at *
  clear cy1 cy2 E0 E1 E2 b0 b1 b2 T1 T3' a0 a1 a2 m1 m2 m3 hy2 kA kT
  obtain ⟨_, c3, _⟩ := id E3
  go_wp2_with (go_at_call 11; (with_reducible refine Calls.mono (kG _ (by exact b3)) ?_); rintro e y4 ⟨rfl, hy4⟩; have b4 := bel_after b3 b3.size hy4; have E4 := E3.below hy4; have N4 := N3.below hy4; have D4 := D3.below hy4; clear hy4)
  have S0 : St G C 0 f30 := ⟨okf_start G C, fun j hj => by simp [f30]⟩
  clear c3 E3 N3 D3 b3 kG
  go_loopw [9, 10] (fun u t wr => ∃ (k was : Nat) (h : F3) (u1 u2 u3 : Value), k ≤ Ms.length ∧ u = .int .u64 (was : Int) ∧ t = .int .i64 (k : Int) ∧ was < 18446744073709551616 ∧ Hid (St G C was h) ∧ Hid (Has wr w.heap.size #[.slice va G.length cg, .slice vb C.length cc]) ∧ Hid (Has wr P #[u1, u2, u3]) ∧ Hid (Hd3 wr u1 u2 u3 (lst64 G.length h.a) (lst64 G.length h.i) (lst64 G.length h.w) P P) ∧ Hid (Below w.heap.size w wr)) (fun _ t _ => Ms.length - (intOf t).toNat)
  case atStart => exact ⟨0, 0, f30, _, _, _, by omega, rfl, rfl, by decide, S0, E4, N4, D4, b4⟩
  case round =>
    clear S0 E4 N4 D4 b4
    obtain ⟨k, was, h, u1, u2, u3, hkl, rfl, rfl, hwas, hSt', B', N', D', hb'⟩ := hrel
    have hSt := hSt'.out
    have B := B'.out
    have N := N'.out
    have D := D'.out
    have hb := hb'.out
    clear B' N' D' hb' hSt'
    by_cases hlt : k < Ms.length
    case neg =>
      have t1 : ¬ (k : Int) < (Ms.length : Int) := by omega
      go_wp2_with fail
      go_ret
      exact ⟨rfl, hb⟩
    case pos =>
      obtain ⟨g, o, rfl, hg, Pm⟩ := kM.resolve_left (by intro e; rw [e] at hlt; simp at hlt)
      have p0 := (hb.cell (p := ⟨g, _, none⟩) hg).trans (Pm k hlt _ rfl)
      have hMw := okM _ (List.getElem_mem hlt)
      have t0 : (0 : Int) ≤ (k : Int) := by omega
      have t1 : (k : Int) < (Ms.length : Int) := by omega
      have tk : k + 1 ≤ Ms.length := hlt
      clear Pm kM okM
      generalize Ms[k] = Mw at *
      have cL := kLo was Mw hwas hMw wr hb
      obtain ⟨_, bb, _⟩ := id B
      cases ec : ((clashF G.length was C).2.2 || (clashF G.length Mw C).2.2) with
      | true =>
        have eV : spanV G C was Mw true = (0, 60) := by simp only [spanV, eg, ec]; rfl
        rw [eV] at cL
        clear kSp kSt kGa kHo eH
        go_wp2_with (go_at_call 17; (with_reducible refine Calls.mono cL ?_); rintro e w2 ⟨rfl, hb2⟩; have B2 := B.below hb2; have N2 := N.below hb2; have D2 := D.below hb2; have b2 := bel_after hb hb.size hb2)
        go_roundw
        case rel => exact ⟨k + 1, was, h, _, _, _, by omega, rfl, by go_num, hwas, hSt, B2, N2, D2, b2⟩
        case measure => simp [intOf]; omega
      | false =>
        have eV : spanV G C was Mw true = (mvF G C was Mw true G 0 0, 0) := by simp only [spanV, eg, ec]; rfl
        rw [Bool.or_eq_false_iff] at ec
        have fM := fit_clash eg ec.2
        have mv0 := (mv_parts G C was Mw true).1
        have mvl := mv_le (F := was) (T := Mw) (all := true) eg
        have ho0 := (hold_parts G was Mw h64).1
        have hol := hold_le (F := was) (T := Mw) eg
        obtain ⟨Nn, eN⟩ : ∃ K : Nat, mvF G C was Mw true G 0 0 = (K : Int) := ⟨(mvF G C was Mw true G 0 0).toNat, by omega⟩
        obtain ⟨E, eE⟩ : ∃ K : Nat, holdF was Mw G 0 0 = (K : Int) := ⟨(holdF was Mw G 0 0).toNat, by omega⟩
        rw [eV, eN] at cL
        have cH := fun (X : World) (hX : Below w.heap.size w X) => kHo was Mw hwas hMw X hX
        simp only [eH, eE] at cH
        have n4 : ¬ (Nn : Int) > 4000 := by omega
        have n0 : ¬ (Nn : Int) < 0 := by omega
        have e4 : ¬ (E : Int) > 3600 := by omega
        have e0 : ¬ (E : Int) < 0 := by omega
        clear kLo kHo eH ec eV
        go_upto_region 18 with (first
          | (go_at_call 17; (with_reducible refine Calls.mono cL ?_); rintro e w2 ⟨rfl, hb2⟩; have B2 := B.below hb2; have N2 := N.below hb2; have D2 := D.below hb2; have b2 := bel_after hb hb.size hb2; obtain ⟨_, c2, _⟩ := id B2)
          | (go_at_call 18; (with_reducible refine Calls.mono (cH _ (by exact b2)) ?_); rintro e w3 ⟨rfl, hb3⟩; have B3 := B2.below hb3; have N3 := N2.below hb3; have D3 := D2.below hb3; have b3 := bel_after b2 b2.size hb3))
        clear B N D hb B2 N2 D2 b2 bb c2 p0 cL cH hb2 hb3
        have B := B3
        have N := N3
        have D := D3
        have hb := b3
        clear B3 N3 D3 b3
        obtain ⟨_, bb, _⟩ := id B
        by_cases s1 : k < Sy.length
        case neg =>
          have c1 : ¬ (k : Int) < (Sy.length : Int) := by omega
          go_wp2_with fail
          go_loopw [17] (fun t wr => ∃ (m : Nat) (u1 u2 u3 : Value), m ≤ E ∧ t = .int .i64 (m : Int) ∧ Hid (Has wr w.heap.size #[.slice va G.length cg, .slice vb C.length cc]) ∧ Hid (Has wr P #[u1, u2, u3]) ∧ Hid (Hd3 wr u1 u2 u3 (lst64 G.length (stF G C was h m).a) (lst64 G.length (stF G C was h m).i) (lst64 G.length (stF G C was h m).w) P P) ∧ Hid (Below w.heap.size w wr)) (fun t _ => E - (intOf t).toNat)
          case atStart => exact ⟨0, _, _, _, by omega, rfl, B, N, D, hb⟩
          case round =>
            clear B N D hb
            obtain ⟨m, u1, u2, u3, hmE, rfl, B', N', D', hb'⟩ := hrel
            have B := B'.out
            have N := N'.out
            have D := D'.out
            have hb := hb'.out
            clear B' N' D' hb'
            have okm := okf_st (M := was) eg hSt.ok m
            have la := lst_len G.length (stF G C was h m).a
            have li := lst_len G.length (stF G C was h m).i
            have lw := lst_len G.length (stF G C was h m).w
            obtain ⟨_, bb, _⟩ := id B
            obtain ⟨_, nn, _⟩ := id N
            by_cases mlt : m < E
            · have t1 : (m : Int) < (E : Int) := by omega
              have cN := kSt was hwas wr hb _ _ _ _ _ _ D.a D.i D.w (by omega) (by omega) (by omega) okm.2.1 okm.2.2 okm.1
              have zP := N.1
              go_upto_region 25 with (go_at_call 19; (with_reducible refine Calls.mono cN ?_); rintro e w4 ⟨⟨r', s0, s1, rfl, a0, a1, a2, m1, m2, m3⟩, hb4⟩; have B4 := B.below hb4; have N4 := N.below hb4; have b4 := bel_after hb hb.size hb4; obtain ⟨_, x1, x2⟩ := id N4)
              have T1 : T3 wr.heap.size w4 (.slice (some ⟨r', 0, none⟩) G.length G.length) (.slice (some ⟨s0, 0, none⟩) G.length G.length) (.slice (some ⟨s1, 0, none⟩) G.length G.length) G.length G.length G.length (valR G.length (stF G C was h (m + 1)).a) (v32 G.length (stF G C was h (m + 1)).i) (v32 G.length (stF G C was h (m + 1)).w) := t3_of a0 a1 a2 m1 m2 m3
              have O : Only (fun q => q = P) w4 (((w4.setCell ⟨P, 0, none⟩ (.slice (some ⟨r', 0, none⟩) G.length G.length)).setCell ⟨P, 1, none⟩ (.slice (some ⟨s0, 0, none⟩) G.length G.length)).setCell ⟨P, 2, none⟩ (.slice (some ⟨s1, 0, none⟩) G.length G.length)) := ((only_of_set _ _ _ _).trans (only_of_set _ _ _ _)).trans (only_of_set _ _ _ _)
              have N5 : Has (((w4.setCell ⟨P, 0, none⟩ (.slice (some ⟨r', 0, none⟩) G.length G.length)).setCell ⟨P, 1, none⟩ (.slice (some ⟨s0, 0, none⟩) G.length G.length)).setCell ⟨P, 2, none⟩ (.slice (some ⟨s1, 0, none⟩) G.length G.length)) P #[.slice (some ⟨r', 0, none⟩) G.length G.length, .slice (some ⟨s0, 0, none⟩) G.length G.length, .slice (some ⟨s1, 0, none⟩) G.length G.length] := by simpa using ((N4.set 0 (by simp) (.slice (some ⟨r', 0, none⟩) G.length G.length)).set 1 (by simp) (.slice (some ⟨s0, 0, none⟩) G.length G.length)).set 2 (by simp) (.slice (some ⟨s1, 0, none⟩) G.length G.length)
              have B5 := B4.only O (by omega)
              have T5 := T1.spared O (fun q h _ _ e => by omega)
              have b5 := bel_only b4 O (Nat.le_refl _) (fun q hq h => by omega)
              have D5 : Hd3 (((w4.setCell ⟨P, 0, none⟩ (.slice (some ⟨r', 0, none⟩) G.length G.length)).setCell ⟨P, 1, none⟩ (.slice (some ⟨s0, 0, none⟩) G.length G.length)).setCell ⟨P, 2, none⟩ (.slice (some ⟨s1, 0, none⟩) G.length G.length)) (.slice (some ⟨r', 0, none⟩) G.length G.length) (.slice (some ⟨s0, 0, none⟩) G.length G.length) (.slice (some ⟨s1, 0, none⟩) G.length G.length) (lst64 G.length (stF G C was h (m + 1)).a) (lst64 G.length (stF G C was h (m + 1)).i) (lst64 G.length (stF G C was h (m + 1)).w) P P :=
                ⟨T5.f1, T5.f2, T5.f3, fun _ q hq => by have := own_lt T5.o1 q hq; omega, fun _ q hq => by have := own_lt T5.o2 q hq; omega, fun _ q hq => by have := own_lt T5.o3 q hq; omega⟩
              clear T1 T5 B4 N4 b4 x1 x2 cN O a0 a1 a2 m1 m2 m3 bb nn B N D hb
              go_wp2_with fail
              go_roundw
              case rel => exact ⟨m + 1, _, _, _, by omega, by go_num, B5, N5, D5, b5⟩
              case measure => simp [intOf]; omega
            · have t1 : ¬ (m : Int) < (E : Int) := by omega
              obtain rfl : m = E := by omega
              have cG := kGa Mw hMw wr hb _ _ _ _ _ _ D.a D.i D.w (by omega) (by omega) (by omega) okm.2.1
              have eG : gateB G C (lst64 G.length (stF G C was h m).a) (lst64 G.length (stF G C was h m).i) (lst64 G.length (stF G C was h m).w) Mw = gateF Mw 0 G (lst64 G.length (stF G C was h m).a) (lst64 G.length (stF G C was h m).i) := by
                unfold gateB soundB
                rw [eg, okm.1]
                simp
              rw [eG] at cG
              have hS' : St G C was (stF G C was h m) := ⟨okm, fun j hj => (stay_all eg hSt.ok hSt.a m j hj).1⟩
              clear kSt
              rw [hold_gate (T := Mw) eg hSt.ok hSt.a (by omega)] at cG
              have gO : gateF Mw 0 G (lst64 G.length (stF G C was h m).a) (lst64 G.length (stF G C was h m).i) = true := hold_gate (T := Mw) eg hSt.ok hSt.a (by omega)
              generalize stF G C was h m = h' at *
              have rs : Rst G was Mw h' := ⟨hS'.a, fun j hj e1 e2 => (gateF_iff rfl).1 gO j hj (by rw [hS'.a j hj, e1]; rfl) e2⟩
              obtain ⟨K, hKN, yK, nK⟩ := least (P := fun k => setF Mw 0 (lst64 G.length (stF G C Mw h' k).a)) Nn (setF_iff.2 (move_upto (F := was) (all := true) eg fM hS'.ok rs (fun o _ _ => .inl rfl) (by omega) (by omega)))
              have cS := kSp Mw hMw h' hS'.ok K Nn hKN (by omega) nK yK
              have hS2 : St G C Mw (stF G C Mw h' K) := ⟨okf_st eg hS'.ok K, setF_iff.1 yK⟩
              have kK : ¬ (K : Int) < 0 := by omega
              obtain ⟨oA, pA, rfl, -⟩ := D.a.any
              obtain ⟨oI, pI, rfl, -⟩ := D.i.any
              obtain ⟨oW, pW, rfl, -⟩ := D.w.any
              rw [la, li, lw] at *
              go_upto_region 31 with (go_at_call 20; (with_reducible refine Calls.mono cG ?_); rintro e w5 ⟨rfl, hb5⟩; have B5 := B.below hb5; have N5 := N.below hb5; have D5 := D.below hb5; have b5 := bel_after hb hb.size hb5)
              clear bb nn cG B N D hb
              obtain ⟨_, bb, _⟩ := id B5
              obtain ⟨_, nn, _⟩ := id N5
              have cS' := cS w5 b5 _ _ _ D5.a D5.i D5.w
              have la2 := lst_len G.length (stF G C Mw h' K).a
              have li2 := lst_len G.length (stF G C Mw h' K).i
              have lw2 := lst_len G.length (stF G C Mw h' K).w
              go_upto_region 32 with (go_at_call 15; (with_reducible refine Calls.mono cS' ?_); rintro e w6 ⟨⟨q1, q2, q3, rfl, f1, f2, f3⟩, hb6⟩; have B6 := B5.below hb6; have N6 := N5.below hb6; have b6 := bel_after b5 b5.size hb6; obtain ⟨xA, zA, rfl, -⟩ := f1.any; obtain ⟨xI, zI, rfl, -⟩ := f2.any; obtain ⟨xW, zW, rfl, -⟩ := f3.any)
              clear bb nn cS cS' B5 N5 D5 b5 hb5 hb6
              rw [la2] at f1
              rw [li2] at f2
              rw [lw2] at f3
              have d1 := fl_ne (k := .i64) (fun _ => rfl) f1 N6
              have d2 := fl_ne (k := .i32) (fun _ => rfl) f2 N6
              have d3 := fl_ne (k := .i32) (fun _ => rfl) f3 N6
              have D6 : Hd3 w6 (.slice xA G.length zA) (.slice xI G.length zI) (.slice xW G.length zW) (lst64 G.length (stF G C Mw h' K).a) (lst64 G.length (stF G C Mw h' K).i) (lst64 G.length (stF G C Mw h' K).w) P P := ⟨f1, f2, f3, fun e q hq => ⟨d1 e q hq, d1 e q hq⟩, fun e q hq => ⟨d2 e q hq, d2 e q hq⟩, fun e q hq => ⟨d3 e q hq, d3 e q hq⟩⟩
              have zP := N6.1
              have P7 : Has (w6.alloc (.cells #[.slice xA G.length zA, .slice xI G.length zI, .slice xW G.length zW] 37)) w6.heap.size #[.slice xA G.length zA, .slice xI G.length zI, .slice xW G.length zW] := Has.new _ _ _ rfl
              have B7 := B6.alloc (.cells #[.slice xA G.length zA, .slice xI G.length zI, .slice xW G.length zW] 37)
              have N7 := N6.alloc (.cells #[.slice xA G.length zA, .slice xI G.length zI, .slice xW G.length zW] 37)
              have b7 := b6.alloc b6.size (.cells #[.slice xA G.length zA, .slice xI G.length zI, .slice xW G.length zW] 37)
              have D7 := D6.below (belN1 : Below w6.heap.size w6 (w6.alloc (.cells #[.slice xA G.length zA, .slice xI G.length zI, .slice xW G.length zW] 37)))
              generalize (w6.alloc (.cells #[.slice xA G.length zA, .slice xI G.length zI, .slice xW G.length zW] 37)) = V at *
              generalize w6.heap.size = Q at *
              clear f1 f2 f3 d1 d2 d3 D6 B6 N6 b6
              obtain ⟨_, p7, _⟩ := id P7
              obtain ⟨_, n7, n8⟩ := id N7
              go_wp2_with fail
              have O : Only (fun q => q = P) V (((V.setCell ⟨P, 0, none⟩ (.slice xA G.length zA)).setCell ⟨P, 1, none⟩ (.slice xI G.length zI)).setCell ⟨P, 2, none⟩ (.slice xW G.length zW)) := ((only_of_set _ _ _ _).trans (only_of_set _ _ _ _)).trans (only_of_set _ _ _ _)
              have N9 : Has (((V.setCell ⟨P, 0, none⟩ (.slice xA G.length zA)).setCell ⟨P, 1, none⟩ (.slice xI G.length zI)).setCell ⟨P, 2, none⟩ (.slice xW G.length zW)) P #[.slice xA G.length zA, .slice xI G.length zI, .slice xW G.length zW] := by simpa using ((N7.set 0 (by simp) (.slice xA G.length zA)).set 1 (by simp) (.slice xI G.length zI)).set 2 (by simp) (.slice xW G.length zW)
              have B9 := B7.only O (by omega)
              have b9 := bel_only b7 O (Nat.le_refl _) (fun q hq h => by omega)
              have D9 := D7.only O (fun q h => .inl h)
              go_roundw
              case rel => exact ⟨k + 1, Mw, _, _, _, _, by omega, rfl, by go_num, hMw, hS2, B9, N9, D9, b9⟩
              case measure => simp [intOf]; omega
        case pos =>
          have c1 : (k : Int) < (Sy.length : Int) := by omega
          obtain ⟨g2, o2, rfl, hg2, Ps⟩ := kY.resolve_left (by intro e; rw [e] at s1; simp at s1)
          have p1 := (hb.cell (p := ⟨g2, _, none⟩) hg2).trans (Ps k s1 _ rfl)
          clear Ps kY
          generalize Sy[k] = sy at *
          by_cases s2 : sy ≥ 0
          case neg =>
            have s2' : ¬ 0 ≤ sy := s2
            go_wp2_with fail
            go_loopw [17] (fun t wr => ∃ (m : Nat) (u1 u2 u3 : Value), m ≤ E ∧ t = .int .i64 (m : Int) ∧ Hid (Has wr w.heap.size #[.slice va G.length cg, .slice vb C.length cc]) ∧ Hid (Has wr P #[u1, u2, u3]) ∧ Hid (Hd3 wr u1 u2 u3 (lst64 G.length (stF G C was h m).a) (lst64 G.length (stF G C was h m).i) (lst64 G.length (stF G C was h m).w) P P) ∧ Hid (Below w.heap.size w wr)) (fun t _ => E - (intOf t).toNat)
            case atStart => exact ⟨0, _, _, _, by omega, rfl, B, N, D, hb⟩
            case round =>
              clear B N D hb
              obtain ⟨m, u1, u2, u3, hmE, rfl, B', N', D', hb'⟩ := hrel
              have B := B'.out
              have N := N'.out
              have D := D'.out
              have hb := hb'.out
              clear B' N' D' hb'
              have okm := okf_st (M := was) eg hSt.ok m
              have la := lst_len G.length (stF G C was h m).a
              have li := lst_len G.length (stF G C was h m).i
              have lw := lst_len G.length (stF G C was h m).w
              obtain ⟨_, bb, _⟩ := id B
              obtain ⟨_, nn, _⟩ := id N
              by_cases mlt : m < E
              · have t1 : (m : Int) < (E : Int) := by omega
                have cN := kSt was hwas wr hb _ _ _ _ _ _ D.a D.i D.w (by omega) (by omega) (by omega) okm.2.1 okm.2.2 okm.1
                have zP := N.1
                go_upto_region 25 with (go_at_call 19; (with_reducible refine Calls.mono cN ?_); rintro e w4 ⟨⟨r', s0, s1, rfl, a0, a1, a2, m1, m2, m3⟩, hb4⟩; have B4 := B.below hb4; have N4 := N.below hb4; have b4 := bel_after hb hb.size hb4; obtain ⟨_, x1, x2⟩ := id N4)
                have T1 : T3 wr.heap.size w4 (.slice (some ⟨r', 0, none⟩) G.length G.length) (.slice (some ⟨s0, 0, none⟩) G.length G.length) (.slice (some ⟨s1, 0, none⟩) G.length G.length) G.length G.length G.length (valR G.length (stF G C was h (m + 1)).a) (v32 G.length (stF G C was h (m + 1)).i) (v32 G.length (stF G C was h (m + 1)).w) := t3_of a0 a1 a2 m1 m2 m3
                have O : Only (fun q => q = P) w4 (((w4.setCell ⟨P, 0, none⟩ (.slice (some ⟨r', 0, none⟩) G.length G.length)).setCell ⟨P, 1, none⟩ (.slice (some ⟨s0, 0, none⟩) G.length G.length)).setCell ⟨P, 2, none⟩ (.slice (some ⟨s1, 0, none⟩) G.length G.length)) := ((only_of_set _ _ _ _).trans (only_of_set _ _ _ _)).trans (only_of_set _ _ _ _)
                have N5 : Has (((w4.setCell ⟨P, 0, none⟩ (.slice (some ⟨r', 0, none⟩) G.length G.length)).setCell ⟨P, 1, none⟩ (.slice (some ⟨s0, 0, none⟩) G.length G.length)).setCell ⟨P, 2, none⟩ (.slice (some ⟨s1, 0, none⟩) G.length G.length)) P #[.slice (some ⟨r', 0, none⟩) G.length G.length, .slice (some ⟨s0, 0, none⟩) G.length G.length, .slice (some ⟨s1, 0, none⟩) G.length G.length] := by simpa using ((N4.set 0 (by simp) (.slice (some ⟨r', 0, none⟩) G.length G.length)).set 1 (by simp) (.slice (some ⟨s0, 0, none⟩) G.length G.length)).set 2 (by simp) (.slice (some ⟨s1, 0, none⟩) G.length G.length)
                have B5 := B4.only O (by omega)
                have T5 := T1.spared O (fun q h _ _ e => by omega)
                have b5 := bel_only b4 O (Nat.le_refl _) (fun q hq h => by omega)
                have D5 : Hd3 (((w4.setCell ⟨P, 0, none⟩ (.slice (some ⟨r', 0, none⟩) G.length G.length)).setCell ⟨P, 1, none⟩ (.slice (some ⟨s0, 0, none⟩) G.length G.length)).setCell ⟨P, 2, none⟩ (.slice (some ⟨s1, 0, none⟩) G.length G.length)) (.slice (some ⟨r', 0, none⟩) G.length G.length) (.slice (some ⟨s0, 0, none⟩) G.length G.length) (.slice (some ⟨s1, 0, none⟩) G.length G.length) (lst64 G.length (stF G C was h (m + 1)).a) (lst64 G.length (stF G C was h (m + 1)).i) (lst64 G.length (stF G C was h (m + 1)).w) P P :=
                  ⟨T5.f1, T5.f2, T5.f3, fun _ q hq => by have := own_lt T5.o1 q hq; omega, fun _ q hq => by have := own_lt T5.o2 q hq; omega, fun _ q hq => by have := own_lt T5.o3 q hq; omega⟩
                clear T1 T5 B4 N4 b4 x1 x2 cN O a0 a1 a2 m1 m2 m3 bb nn B N D hb
                go_wp2_with fail
                go_roundw
                case rel => exact ⟨m + 1, _, _, _, by omega, by go_num, B5, N5, D5, b5⟩
                case measure => simp [intOf]; omega
              · have t1 : ¬ (m : Int) < (E : Int) := by omega
                obtain rfl : m = E := by omega
                have cG := kGa Mw hMw wr hb _ _ _ _ _ _ D.a D.i D.w (by omega) (by omega) (by omega) okm.2.1
                have eG : gateB G C (lst64 G.length (stF G C was h m).a) (lst64 G.length (stF G C was h m).i) (lst64 G.length (stF G C was h m).w) Mw = gateF Mw 0 G (lst64 G.length (stF G C was h m).a) (lst64 G.length (stF G C was h m).i) := by
                  unfold gateB soundB
                  rw [eg, okm.1]
                  simp
                rw [eG] at cG
                have hS' : St G C was (stF G C was h m) := ⟨okm, fun j hj => (stay_all eg hSt.ok hSt.a m j hj).1⟩
                clear kSt
                rw [hold_gate (T := Mw) eg hSt.ok hSt.a (by omega)] at cG
                have gO : gateF Mw 0 G (lst64 G.length (stF G C was h m).a) (lst64 G.length (stF G C was h m).i) = true := hold_gate (T := Mw) eg hSt.ok hSt.a (by omega)
                generalize stF G C was h m = h' at *
                have rs : Rst G was Mw h' := ⟨hS'.a, fun j hj e1 e2 => (gateF_iff rfl).1 gO j hj (by rw [hS'.a j hj, e1]; rfl) e2⟩
                obtain ⟨K, hKN, yK, nK⟩ := least (P := fun k => setF Mw 0 (lst64 G.length (stF G C Mw h' k).a)) Nn (setF_iff.2 (move_upto (F := was) (all := true) eg fM hS'.ok rs (fun o _ _ => .inl rfl) (by omega) (by omega)))
                have cS := kSp Mw hMw h' hS'.ok K Nn hKN (by omega) nK yK
                have hS2 : St G C Mw (stF G C Mw h' K) := ⟨okf_st eg hS'.ok K, setF_iff.1 yK⟩
                have kK : ¬ (K : Int) < 0 := by omega
                obtain ⟨oA, pA, rfl, -⟩ := D.a.any
                obtain ⟨oI, pI, rfl, -⟩ := D.i.any
                obtain ⟨oW, pW, rfl, -⟩ := D.w.any
                rw [la, li, lw] at *
                go_upto_region 31 with (go_at_call 20; (with_reducible refine Calls.mono cG ?_); rintro e w5 ⟨rfl, hb5⟩; have B5 := B.below hb5; have N5 := N.below hb5; have D5 := D.below hb5; have b5 := bel_after hb hb.size hb5)
                clear bb nn cG B N D hb
                obtain ⟨_, bb, _⟩ := id B5
                obtain ⟨_, nn, _⟩ := id N5
                have cS' := cS w5 b5 _ _ _ D5.a D5.i D5.w
                have la2 := lst_len G.length (stF G C Mw h' K).a
                have li2 := lst_len G.length (stF G C Mw h' K).i
                have lw2 := lst_len G.length (stF G C Mw h' K).w
                go_upto_region 32 with (go_at_call 15; (with_reducible refine Calls.mono cS' ?_); rintro e w6 ⟨⟨q1, q2, q3, rfl, f1, f2, f3⟩, hb6⟩; have B6 := B5.below hb6; have N6 := N5.below hb6; have b6 := bel_after b5 b5.size hb6; obtain ⟨xA, zA, rfl, -⟩ := f1.any; obtain ⟨xI, zI, rfl, -⟩ := f2.any; obtain ⟨xW, zW, rfl, -⟩ := f3.any)
                clear bb nn cS cS' B5 N5 D5 b5 hb5 hb6
                rw [la2] at f1
                rw [li2] at f2
                rw [lw2] at f3
                have d1 := fl_ne (k := .i64) (fun _ => rfl) f1 N6
                have d2 := fl_ne (k := .i32) (fun _ => rfl) f2 N6
                have d3 := fl_ne (k := .i32) (fun _ => rfl) f3 N6
                have D6 : Hd3 w6 (.slice xA G.length zA) (.slice xI G.length zI) (.slice xW G.length zW) (lst64 G.length (stF G C Mw h' K).a) (lst64 G.length (stF G C Mw h' K).i) (lst64 G.length (stF G C Mw h' K).w) P P := ⟨f1, f2, f3, fun e q hq => ⟨d1 e q hq, d1 e q hq⟩, fun e q hq => ⟨d2 e q hq, d2 e q hq⟩, fun e q hq => ⟨d3 e q hq, d3 e q hq⟩⟩
                have zP := N6.1
                have P7 : Has (w6.alloc (.cells #[.slice xA G.length zA, .slice xI G.length zI, .slice xW G.length zW] 37)) w6.heap.size #[.slice xA G.length zA, .slice xI G.length zI, .slice xW G.length zW] := Has.new _ _ _ rfl
                have B7 := B6.alloc (.cells #[.slice xA G.length zA, .slice xI G.length zI, .slice xW G.length zW] 37)
                have N7 := N6.alloc (.cells #[.slice xA G.length zA, .slice xI G.length zI, .slice xW G.length zW] 37)
                have b7 := b6.alloc b6.size (.cells #[.slice xA G.length zA, .slice xI G.length zI, .slice xW G.length zW] 37)
                have D7 := D6.below (belN1 : Below w6.heap.size w6 (w6.alloc (.cells #[.slice xA G.length zA, .slice xI G.length zI, .slice xW G.length zW] 37)))
                generalize (w6.alloc (.cells #[.slice xA G.length zA, .slice xI G.length zI, .slice xW G.length zW] 37)) = V at *
                generalize w6.heap.size = Q at *
                clear f1 f2 f3 d1 d2 d3 D6 B6 N6 b6
                obtain ⟨_, p7, _⟩ := id P7
                obtain ⟨_, n7, n8⟩ := id N7
                go_wp2_with fail
                have O : Only (fun q => q = P) V (((V.setCell ⟨P, 0, none⟩ (.slice xA G.length zA)).setCell ⟨P, 1, none⟩ (.slice xI G.length zI)).setCell ⟨P, 2, none⟩ (.slice xW G.length zW)) := ((only_of_set _ _ _ _).trans (only_of_set _ _ _ _)).trans (only_of_set _ _ _ _)
                have N9 : Has (((V.setCell ⟨P, 0, none⟩ (.slice xA G.length zA)).setCell ⟨P, 1, none⟩ (.slice xI G.length zI)).setCell ⟨P, 2, none⟩ (.slice xW G.length zW)) P #[.slice xA G.length zA, .slice xI G.length zI, .slice xW G.length zW] := by simpa using ((N7.set 0 (by simp) (.slice xA G.length zA)).set 1 (by simp) (.slice xI G.length zI)).set 2 (by simp) (.slice xW G.length zW)
                have B9 := B7.only O (by omega)
                have b9 := bel_only b7 O (Nat.le_refl _) (fun q hq h => by omega)
                have D9 := D7.only O (fun q h => .inl h)
                go_roundw
                case rel => exact ⟨k + 1, Mw, _, _, _, _, by omega, rfl, by go_num, hMw, hS2, B9, N9, D9, b9⟩
                case measure => simp [intOf]; omega
          case pos =>
            have s2' : 0 ≤ sy := s2
            by_cases s3 : sy < (E : Int)
            case neg =>
              go_wp2_with fail
              go_loopw [17] (fun t wr => ∃ (m : Nat) (u1 u2 u3 : Value), m ≤ E ∧ t = .int .i64 (m : Int) ∧ Hid (Has wr w.heap.size #[.slice va G.length cg, .slice vb C.length cc]) ∧ Hid (Has wr P #[u1, u2, u3]) ∧ Hid (Hd3 wr u1 u2 u3 (lst64 G.length (stF G C was h m).a) (lst64 G.length (stF G C was h m).i) (lst64 G.length (stF G C was h m).w) P P) ∧ Hid (Below w.heap.size w wr)) (fun t _ => E - (intOf t).toNat)
              case atStart => exact ⟨0, _, _, _, by omega, rfl, B, N, D, hb⟩
              case round =>
                clear B N D hb
                obtain ⟨m, u1, u2, u3, hmE, rfl, B', N', D', hb'⟩ := hrel
                have B := B'.out
                have N := N'.out
                have D := D'.out
                have hb := hb'.out
                clear B' N' D' hb'
                have okm := okf_st (M := was) eg hSt.ok m
                have la := lst_len G.length (stF G C was h m).a
                have li := lst_len G.length (stF G C was h m).i
                have lw := lst_len G.length (stF G C was h m).w
                obtain ⟨_, bb, _⟩ := id B
                obtain ⟨_, nn, _⟩ := id N
                by_cases mlt : m < E
                · have t1 : (m : Int) < (E : Int) := by omega
                  have cN := kSt was hwas wr hb _ _ _ _ _ _ D.a D.i D.w (by omega) (by omega) (by omega) okm.2.1 okm.2.2 okm.1
                  have zP := N.1
                  go_upto_region 25 with (go_at_call 19; (with_reducible refine Calls.mono cN ?_); rintro e w4 ⟨⟨r', s0, s1, rfl, a0, a1, a2, m1, m2, m3⟩, hb4⟩; have B4 := B.below hb4; have N4 := N.below hb4; have b4 := bel_after hb hb.size hb4; obtain ⟨_, x1, x2⟩ := id N4)
                  have T1 : T3 wr.heap.size w4 (.slice (some ⟨r', 0, none⟩) G.length G.length) (.slice (some ⟨s0, 0, none⟩) G.length G.length) (.slice (some ⟨s1, 0, none⟩) G.length G.length) G.length G.length G.length (valR G.length (stF G C was h (m + 1)).a) (v32 G.length (stF G C was h (m + 1)).i) (v32 G.length (stF G C was h (m + 1)).w) := t3_of a0 a1 a2 m1 m2 m3
                  have O : Only (fun q => q = P) w4 (((w4.setCell ⟨P, 0, none⟩ (.slice (some ⟨r', 0, none⟩) G.length G.length)).setCell ⟨P, 1, none⟩ (.slice (some ⟨s0, 0, none⟩) G.length G.length)).setCell ⟨P, 2, none⟩ (.slice (some ⟨s1, 0, none⟩) G.length G.length)) := ((only_of_set _ _ _ _).trans (only_of_set _ _ _ _)).trans (only_of_set _ _ _ _)
                  have N5 : Has (((w4.setCell ⟨P, 0, none⟩ (.slice (some ⟨r', 0, none⟩) G.length G.length)).setCell ⟨P, 1, none⟩ (.slice (some ⟨s0, 0, none⟩) G.length G.length)).setCell ⟨P, 2, none⟩ (.slice (some ⟨s1, 0, none⟩) G.length G.length)) P #[.slice (some ⟨r', 0, none⟩) G.length G.length, .slice (some ⟨s0, 0, none⟩) G.length G.length, .slice (some ⟨s1, 0, none⟩) G.length G.length] := by simpa using ((N4.set 0 (by simp) (.slice (some ⟨r', 0, none⟩) G.length G.length)).set 1 (by simp) (.slice (some ⟨s0, 0, none⟩) G.length G.length)).set 2 (by simp) (.slice (some ⟨s1, 0, none⟩) G.length G.length)
                  have B5 := B4.only O (by omega)
                  have T5 := T1.spared O (fun q h _ _ e => by omega)
                  have b5 := bel_only b4 O (Nat.le_refl _) (fun q hq h => by omega)
                  have D5 : Hd3 (((w4.setCell ⟨P, 0, none⟩ (.slice (some ⟨r', 0, none⟩) G.length G.length)).setCell ⟨P, 1, none⟩ (.slice (some ⟨s0, 0, none⟩) G.length G.length)).setCell ⟨P, 2, none⟩ (.slice (some ⟨s1, 0, none⟩) G.length G.length)) (.slice (some ⟨r', 0, none⟩) G.length G.length) (.slice (some ⟨s0, 0, none⟩) G.length G.length) (.slice (some ⟨s1, 0, none⟩) G.length G.length) (lst64 G.length (stF G C was h (m + 1)).a) (lst64 G.length (stF G C was h (m + 1)).i) (lst64 G.length (stF G C was h (m + 1)).w) P P :=
                    ⟨T5.f1, T5.f2, T5.f3, fun _ q hq => by have := own_lt T5.o1 q hq; omega, fun _ q hq => by have := own_lt T5.o2 q hq; omega, fun _ q hq => by have := own_lt T5.o3 q hq; omega⟩
                  clear T1 T5 B4 N4 b4 x1 x2 cN O a0 a1 a2 m1 m2 m3 bb nn B N D hb
                  go_wp2_with fail
                  go_roundw
                  case rel => exact ⟨m + 1, _, _, _, by omega, by go_num, B5, N5, D5, b5⟩
                  case measure => simp [intOf]; omega
                · have t1 : ¬ (m : Int) < (E : Int) := by omega
                  obtain rfl : m = E := by omega
                  have cG := kGa Mw hMw wr hb _ _ _ _ _ _ D.a D.i D.w (by omega) (by omega) (by omega) okm.2.1
                  have eG : gateB G C (lst64 G.length (stF G C was h m).a) (lst64 G.length (stF G C was h m).i) (lst64 G.length (stF G C was h m).w) Mw = gateF Mw 0 G (lst64 G.length (stF G C was h m).a) (lst64 G.length (stF G C was h m).i) := by
                    unfold gateB soundB
                    rw [eg, okm.1]
                    simp
                  rw [eG] at cG
                  have hS' : St G C was (stF G C was h m) := ⟨okm, fun j hj => (stay_all eg hSt.ok hSt.a m j hj).1⟩
                  clear kSt
                  rw [hold_gate (T := Mw) eg hSt.ok hSt.a (by omega)] at cG
                  have gO : gateF Mw 0 G (lst64 G.length (stF G C was h m).a) (lst64 G.length (stF G C was h m).i) = true := hold_gate (T := Mw) eg hSt.ok hSt.a (by omega)
                  generalize stF G C was h m = h' at *
                  have rs : Rst G was Mw h' := ⟨hS'.a, fun j hj e1 e2 => (gateF_iff rfl).1 gO j hj (by rw [hS'.a j hj, e1]; rfl) e2⟩
                  obtain ⟨K, hKN, yK, nK⟩ := least (P := fun k => setF Mw 0 (lst64 G.length (stF G C Mw h' k).a)) Nn (setF_iff.2 (move_upto (F := was) (all := true) eg fM hS'.ok rs (fun o _ _ => .inl rfl) (by omega) (by omega)))
                  have cS := kSp Mw hMw h' hS'.ok K Nn hKN (by omega) nK yK
                  have hS2 : St G C Mw (stF G C Mw h' K) := ⟨okf_st eg hS'.ok K, setF_iff.1 yK⟩
                  have kK : ¬ (K : Int) < 0 := by omega
                  obtain ⟨oA, pA, rfl, -⟩ := D.a.any
                  obtain ⟨oI, pI, rfl, -⟩ := D.i.any
                  obtain ⟨oW, pW, rfl, -⟩ := D.w.any
                  rw [la, li, lw] at *
                  go_upto_region 31 with (go_at_call 20; (with_reducible refine Calls.mono cG ?_); rintro e w5 ⟨rfl, hb5⟩; have B5 := B.below hb5; have N5 := N.below hb5; have D5 := D.below hb5; have b5 := bel_after hb hb.size hb5)
                  clear bb nn cG B N D hb
                  obtain ⟨_, bb, _⟩ := id B5
                  obtain ⟨_, nn, _⟩ := id N5
                  have cS' := cS w5 b5 _ _ _ D5.a D5.i D5.w
                  have la2 := lst_len G.length (stF G C Mw h' K).a
                  have li2 := lst_len G.length (stF G C Mw h' K).i
                  have lw2 := lst_len G.length (stF G C Mw h' K).w
                  go_upto_region 32 with (go_at_call 15; (with_reducible refine Calls.mono cS' ?_); rintro e w6 ⟨⟨q1, q2, q3, rfl, f1, f2, f3⟩, hb6⟩; have B6 := B5.below hb6; have N6 := N5.below hb6; have b6 := bel_after b5 b5.size hb6; obtain ⟨xA, zA, rfl, -⟩ := f1.any; obtain ⟨xI, zI, rfl, -⟩ := f2.any; obtain ⟨xW, zW, rfl, -⟩ := f3.any)
                  clear bb nn cS cS' B5 N5 D5 b5 hb5 hb6
                  rw [la2] at f1
                  rw [li2] at f2
                  rw [lw2] at f3
                  have d1 := fl_ne (k := .i64) (fun _ => rfl) f1 N6
                  have d2 := fl_ne (k := .i32) (fun _ => rfl) f2 N6
                  have d3 := fl_ne (k := .i32) (fun _ => rfl) f3 N6
                  have D6 : Hd3 w6 (.slice xA G.length zA) (.slice xI G.length zI) (.slice xW G.length zW) (lst64 G.length (stF G C Mw h' K).a) (lst64 G.length (stF G C Mw h' K).i) (lst64 G.length (stF G C Mw h' K).w) P P := ⟨f1, f2, f3, fun e q hq => ⟨d1 e q hq, d1 e q hq⟩, fun e q hq => ⟨d2 e q hq, d2 e q hq⟩, fun e q hq => ⟨d3 e q hq, d3 e q hq⟩⟩
                  have zP := N6.1
                  have P7 : Has (w6.alloc (.cells #[.slice xA G.length zA, .slice xI G.length zI, .slice xW G.length zW] 37)) w6.heap.size #[.slice xA G.length zA, .slice xI G.length zI, .slice xW G.length zW] := Has.new _ _ _ rfl
                  have B7 := B6.alloc (.cells #[.slice xA G.length zA, .slice xI G.length zI, .slice xW G.length zW] 37)
                  have N7 := N6.alloc (.cells #[.slice xA G.length zA, .slice xI G.length zI, .slice xW G.length zW] 37)
                  have b7 := b6.alloc b6.size (.cells #[.slice xA G.length zA, .slice xI G.length zI, .slice xW G.length zW] 37)
                  have D7 := D6.below (belN1 : Below w6.heap.size w6 (w6.alloc (.cells #[.slice xA G.length zA, .slice xI G.length zI, .slice xW G.length zW] 37)))
                  generalize (w6.alloc (.cells #[.slice xA G.length zA, .slice xI G.length zI, .slice xW G.length zW] 37)) = V at *
                  generalize w6.heap.size = Q at *
                  clear f1 f2 f3 d1 d2 d3 D6 B6 N6 b6
                  obtain ⟨_, p7, _⟩ := id P7
                  obtain ⟨_, n7, n8⟩ := id N7
                  go_wp2_with fail
                  have O : Only (fun q => q = P) V (((V.setCell ⟨P, 0, none⟩ (.slice xA G.length zA)).setCell ⟨P, 1, none⟩ (.slice xI G.length zI)).setCell ⟨P, 2, none⟩ (.slice xW G.length zW)) := ((only_of_set _ _ _ _).trans (only_of_set _ _ _ _)).trans (only_of_set _ _ _ _)
                  have N9 : Has (((V.setCell ⟨P, 0, none⟩ (.slice xA G.length zA)).setCell ⟨P, 1, none⟩ (.slice xI G.length zI)).setCell ⟨P, 2, none⟩ (.slice xW G.length zW)) P #[.slice xA G.length zA, .slice xI G.length zI, .slice xW G.length zW] := by simpa using ((N7.set 0 (by simp) (.slice xA G.length zA)).set 1 (by simp) (.slice xI G.length zI)).set 2 (by simp) (.slice xW G.length zW)
                  have B9 := B7.only O (by omega)
                  have b9 := bel_only b7 O (Nat.le_refl _) (fun q hq h => by omega)
                  have D9 := D7.only O (fun q h => .inl h)
                  go_roundw
                  case rel => exact ⟨k + 1, Mw, _, _, _, _, by omega, rfl, by go_num, hMw, hS2, B9, N9, D9, b9⟩
                  case measure => simp [intOf]; omega
            case pos =>
              obtain ⟨X, rfl⟩ : ∃ X : Nat, sy = (X : Int) := ⟨sy.toNat, by omega⟩
              go_wp2_with fail
              go_loopw [17] (fun t wr => ∃ (m : Nat) (u1 u2 u3 : Value), m ≤ X ∧ t = .int .i64 (m : Int) ∧ Hid (Has wr w.heap.size #[.slice va G.length cg, .slice vb C.length cc]) ∧ Hid (Has wr P #[u1, u2, u3]) ∧ Hid (Hd3 wr u1 u2 u3 (lst64 G.length (stF G C was h m).a) (lst64 G.length (stF G C was h m).i) (lst64 G.length (stF G C was h m).w) P P) ∧ Hid (Below w.heap.size w wr)) (fun t _ => X - (intOf t).toNat)
              case atStart => exact ⟨0, _, _, _, by omega, rfl, B, N, D, hb⟩
              case round =>
                clear B N D hb
                obtain ⟨m, u1, u2, u3, hmX, rfl, B', N', D', hb'⟩ := hrel
                have B := B'.out
                have N := N'.out
                have D := D'.out
                have hb := hb'.out
                clear B' N' D' hb'
                have okm := okf_st (M := was) eg hSt.ok m
                have la := lst_len G.length (stF G C was h m).a
                have li := lst_len G.length (stF G C was h m).i
                have lw := lst_len G.length (stF G C was h m).w
                obtain ⟨_, bb, _⟩ := id B
                obtain ⟨_, nn, _⟩ := id N
                by_cases mlt : m < X
                · have t1 : (m : Int) < (X : Int) := by omega
                  have cN := kSt was hwas wr hb _ _ _ _ _ _ D.a D.i D.w (by omega) (by omega) (by omega) okm.2.1 okm.2.2 okm.1
                  have zP := N.1
                  go_upto_region 25 with (go_at_call 19; (with_reducible refine Calls.mono cN ?_); rintro e w4 ⟨⟨r', s0, s1, rfl, a0, a1, a2, m1, m2, m3⟩, hb4⟩; have B4 := B.below hb4; have N4 := N.below hb4; have b4 := bel_after hb hb.size hb4; obtain ⟨_, x1, x2⟩ := id N4)
                  have T1 : T3 wr.heap.size w4 (.slice (some ⟨r', 0, none⟩) G.length G.length) (.slice (some ⟨s0, 0, none⟩) G.length G.length) (.slice (some ⟨s1, 0, none⟩) G.length G.length) G.length G.length G.length (valR G.length (stF G C was h (m + 1)).a) (v32 G.length (stF G C was h (m + 1)).i) (v32 G.length (stF G C was h (m + 1)).w) := t3_of a0 a1 a2 m1 m2 m3
                  have O : Only (fun q => q = P) w4 (((w4.setCell ⟨P, 0, none⟩ (.slice (some ⟨r', 0, none⟩) G.length G.length)).setCell ⟨P, 1, none⟩ (.slice (some ⟨s0, 0, none⟩) G.length G.length)).setCell ⟨P, 2, none⟩ (.slice (some ⟨s1, 0, none⟩) G.length G.length)) := ((only_of_set _ _ _ _).trans (only_of_set _ _ _ _)).trans (only_of_set _ _ _ _)
                  have N5 : Has (((w4.setCell ⟨P, 0, none⟩ (.slice (some ⟨r', 0, none⟩) G.length G.length)).setCell ⟨P, 1, none⟩ (.slice (some ⟨s0, 0, none⟩) G.length G.length)).setCell ⟨P, 2, none⟩ (.slice (some ⟨s1, 0, none⟩) G.length G.length)) P #[.slice (some ⟨r', 0, none⟩) G.length G.length, .slice (some ⟨s0, 0, none⟩) G.length G.length, .slice (some ⟨s1, 0, none⟩) G.length G.length] := by simpa using ((N4.set 0 (by simp) (.slice (some ⟨r', 0, none⟩) G.length G.length)).set 1 (by simp) (.slice (some ⟨s0, 0, none⟩) G.length G.length)).set 2 (by simp) (.slice (some ⟨s1, 0, none⟩) G.length G.length)
                  have B5 := B4.only O (by omega)
                  have T5 := T1.spared O (fun q h _ _ e => by omega)
                  have b5 := bel_only b4 O (Nat.le_refl _) (fun q hq h => by omega)
                  have D5 : Hd3 (((w4.setCell ⟨P, 0, none⟩ (.slice (some ⟨r', 0, none⟩) G.length G.length)).setCell ⟨P, 1, none⟩ (.slice (some ⟨s0, 0, none⟩) G.length G.length)).setCell ⟨P, 2, none⟩ (.slice (some ⟨s1, 0, none⟩) G.length G.length)) (.slice (some ⟨r', 0, none⟩) G.length G.length) (.slice (some ⟨s0, 0, none⟩) G.length G.length) (.slice (some ⟨s1, 0, none⟩) G.length G.length) (lst64 G.length (stF G C was h (m + 1)).a) (lst64 G.length (stF G C was h (m + 1)).i) (lst64 G.length (stF G C was h (m + 1)).w) P P :=
                    ⟨T5.f1, T5.f2, T5.f3, fun _ q hq => by have := own_lt T5.o1 q hq; omega, fun _ q hq => by have := own_lt T5.o2 q hq; omega, fun _ q hq => by have := own_lt T5.o3 q hq; omega⟩
                  clear T1 T5 B4 N4 b4 x1 x2 cN O a0 a1 a2 m1 m2 m3 bb nn B N D hb
                  go_wp2_with fail
                  go_roundw
                  case rel => exact ⟨m + 1, _, _, _, by omega, by go_num, B5, N5, D5, b5⟩
                  case measure => simp [intOf]; omega
                · have t1 : ¬ (m : Int) < (X : Int) := by omega
                  obtain rfl : m = X := by omega
                  have cG := kGa Mw hMw wr hb _ _ _ _ _ _ D.a D.i D.w (by omega) (by omega) (by omega) okm.2.1
                  have eG : gateB G C (lst64 G.length (stF G C was h m).a) (lst64 G.length (stF G C was h m).i) (lst64 G.length (stF G C was h m).w) Mw = gateF Mw 0 G (lst64 G.length (stF G C was h m).a) (lst64 G.length (stF G C was h m).i) := by
                    unfold gateB soundB
                    rw [eg, okm.1]
                    simp
                  rw [eG] at cG
                  have hS' : St G C was (stF G C was h m) := ⟨okm, fun j hj => (stay_all eg hSt.ok hSt.a m j hj).1⟩
                  clear kSt
                  generalize stF G C was h m = h' at *
                  have t2 : ((m : Int) == (E : Int)) = false := by simp; omega
                  cases gO : gateF Mw 0 G (lst64 G.length h'.a) (lst64 G.length h'.i) with
                  | false =>
                    rw [gO] at cG
                    go_wp2_with (go_at_call 20; (with_reducible refine Calls.mono cG ?_); rintro e w4 ⟨rfl, hb4⟩; have B4 := B.below hb4; have N4 := N.below hb4; have D4 := D.below hb4; have b4 := bel_after hb hb.size hb4)
                    go_roundw
                    case rel => exact ⟨k + 1, was, h', _, _, _, by omega, rfl, by go_num, hwas, hS', B4, N4, D4, b4⟩
                    case measure => simp [intOf]; omega
                  | true =>
                    rw [gO] at cG
                    have rs : Rst G was Mw h' := ⟨hS'.a, fun j hj e1 e2 => (gateF_iff rfl).1 gO j hj (by rw [hS'.a j hj, e1]; rfl) e2⟩
                    obtain ⟨K, hKN, yK, nK⟩ := least (P := fun k => setF Mw 0 (lst64 G.length (stF G C Mw h' k).a)) Nn (setF_iff.2 (move_upto (F := was) (all := true) eg fM hS'.ok rs (fun o _ _ => .inl rfl) (by omega) (by omega)))
                    have cS := kSp Mw hMw h' hS'.ok K Nn hKN (by omega) nK yK
                    have hS2 : St G C Mw (stF G C Mw h' K) := ⟨okf_st eg hS'.ok K, setF_iff.1 yK⟩
                    have kK : ¬ (K : Int) < 0 := by omega
                    obtain ⟨oA, pA, rfl, -⟩ := D.a.any
                    obtain ⟨oI, pI, rfl, -⟩ := D.i.any
                    obtain ⟨oW, pW, rfl, -⟩ := D.w.any
                    rw [la, li, lw] at *
                    go_upto_region 31 with (go_at_call 20; (with_reducible refine Calls.mono cG ?_); rintro e w5 ⟨rfl, hb5⟩; have B5 := B.below hb5; have N5 := N.below hb5; have D5 := D.below hb5; have b5 := bel_after hb hb.size hb5)
                    clear bb nn cG B N D hb
                    obtain ⟨_, bb, _⟩ := id B5
                    obtain ⟨_, nn, _⟩ := id N5
                    have cS' := cS w5 b5 _ _ _ D5.a D5.i D5.w
                    have la2 := lst_len G.length (stF G C Mw h' K).a
                    have li2 := lst_len G.length (stF G C Mw h' K).i
                    have lw2 := lst_len G.length (stF G C Mw h' K).w
                    go_upto_region 32 with (go_at_call 15; (with_reducible refine Calls.mono cS' ?_); rintro e w6 ⟨⟨q1, q2, q3, rfl, f1, f2, f3⟩, hb6⟩; have B6 := B5.below hb6; have N6 := N5.below hb6; have b6 := bel_after b5 b5.size hb6; obtain ⟨xA, zA, rfl, -⟩ := f1.any; obtain ⟨xI, zI, rfl, -⟩ := f2.any; obtain ⟨xW, zW, rfl, -⟩ := f3.any)
                    clear bb nn cS cS' B5 N5 D5 b5 hb5 hb6
                    rw [la2] at f1
                    rw [li2] at f2
                    rw [lw2] at f3
                    have d1 := fl_ne (k := .i64) (fun _ => rfl) f1 N6
                    have d2 := fl_ne (k := .i32) (fun _ => rfl) f2 N6
                    have d3 := fl_ne (k := .i32) (fun _ => rfl) f3 N6
                    have D6 : Hd3 w6 (.slice xA G.length zA) (.slice xI G.length zI) (.slice xW G.length zW) (lst64 G.length (stF G C Mw h' K).a) (lst64 G.length (stF G C Mw h' K).i) (lst64 G.length (stF G C Mw h' K).w) P P := ⟨f1, f2, f3, fun e q hq => ⟨d1 e q hq, d1 e q hq⟩, fun e q hq => ⟨d2 e q hq, d2 e q hq⟩, fun e q hq => ⟨d3 e q hq, d3 e q hq⟩⟩
                    have zP := N6.1
                    have P7 : Has (w6.alloc (.cells #[.slice xA G.length zA, .slice xI G.length zI, .slice xW G.length zW] 37)) w6.heap.size #[.slice xA G.length zA, .slice xI G.length zI, .slice xW G.length zW] := Has.new _ _ _ rfl
                    have B7 := B6.alloc (.cells #[.slice xA G.length zA, .slice xI G.length zI, .slice xW G.length zW] 37)
                    have N7 := N6.alloc (.cells #[.slice xA G.length zA, .slice xI G.length zI, .slice xW G.length zW] 37)
                    have b7 := b6.alloc b6.size (.cells #[.slice xA G.length zA, .slice xI G.length zI, .slice xW G.length zW] 37)
                    have D7 := D6.below (belN1 : Below w6.heap.size w6 (w6.alloc (.cells #[.slice xA G.length zA, .slice xI G.length zI, .slice xW G.length zW] 37)))
                    generalize (w6.alloc (.cells #[.slice xA G.length zA, .slice xI G.length zI, .slice xW G.length zW] 37)) = V at *
                    generalize w6.heap.size = Q at *
                    clear f1 f2 f3 d1 d2 d3 D6 B6 N6 b6
                    obtain ⟨_, p7, _⟩ := id P7
                    obtain ⟨_, n7, n8⟩ := id N7
                    go_wp2_with fail
                    have O : Only (fun q => q = P) V (((V.setCell ⟨P, 0, none⟩ (.slice xA G.length zA)).setCell ⟨P, 1, none⟩ (.slice xI G.length zI)).setCell ⟨P, 2, none⟩ (.slice xW G.length zW)) := ((only_of_set _ _ _ _).trans (only_of_set _ _ _ _)).trans (only_of_set _ _ _ _)
                    have N9 : Has (((V.setCell ⟨P, 0, none⟩ (.slice xA G.length zA)).setCell ⟨P, 1, none⟩ (.slice xI G.length zI)).setCell ⟨P, 2, none⟩ (.slice xW G.length zW)) P #[.slice xA G.length zA, .slice xI G.length zI, .slice xW G.length zW] := by simpa using ((N7.set 0 (by simp) (.slice xA G.length zA)).set 1 (by simp) (.slice xI G.length zI)).set 2 (by simp) (.slice xW G.length zW)
                    have B9 := B7.only O (by omega)
                    have b9 := bel_only b7 O (Nat.le_refl _) (fun q hq h => by omega)
                    have D9 := D7.only O (fun q h => .inl h)
                    go_roundw
                    case rel => exact ⟨k + 1, Mw, _, _, _, _, by omega, rfl, by go_num, hMw, hS2, B9, N9, D9, b9⟩
                    case measure => simp [intOf]; omega
end Go.Proofs.Ythflpnahifpdnaa
