import Derived.Test.YthflpnahifpdnaaTmQ
import Derived.Test.YthflpnahifpdnaaGrE
namespace Go.Proofs.Ythflpnahifpdnaa
open Go.RowKit
set_option linter.unusedVariables false

theorem setF_iff {M n : Nat} {f : Nat → Int} : setF M 0 (lst64 n f) = true ↔ ∀ j, j < n → f j = if M.testBit j = true then 2 else 0 := by
  have key : ∀ m, m ≤ n → (setF M (n - m) ((lst64 n f).drop (n - m)) = true ↔ ∀ j, n - m ≤ j → j < n → f j = if M.testBit j = true then 2 else 0) := by
    intro m
    induction m with
    | zero =>
      intro _
      rw [setF_end M _ _ (by rw [lst_len]; omega)]
      exact ⟨fun _ j h1 h2 => by omega, fun _ => rfl⟩
    | succ m ih =>
      intro hm
      rw [setF_step M _ (n - (m + 1)) (by rw [lst_len]; omega), show n - (m + 1) + 1 = n - m by omega, Bool.and_eq_true, decide_eq_true_eq, ih (by omega), lst_get]
      constructor
      · rintro ⟨a, b⟩ j h1 h2
        by_cases e : j = n - (m + 1)
        · subst e; exact a
        · exact b j (by omega) h2
      · intro h
        exact ⟨h _ (by omega) (by omega), fun j h1 h2 => h j (by omega) h2⟩
  have := key n (Nat.le_refl _)
  rw [Nat.sub_self, List.drop_zero] at this
  rw [this]
  exact ⟨fun h j hj => h j (by omega) hj, fun h j _ hj => h j hj⟩
theorem okf_rest {G : List Gp} {C : List Cf} {F : Nat} (hg : gridB G C = true) (hf : fitM C F) : Okf G C (rsF F) := by
  have rng := grid_cfm hg
  refine ⟨?_, ?_, ?_⟩
  · unfold fitsB
    simp only [Bool.and_eq_true, decide_eq_true_eq, lst_len, true_and]
    constructor
    · refine fitsF_of (lst_len _ _) (lst_len _ _) (lst_len _ _) fun k hk => ?_
      rw [lst_get, lst_get, lst_get]
      unfold rsF fitB
      cases e : F.testBit k <;> simp [e]
    · refine clearF_of fun c hc => ?_
      have b := rng c hc
      unfold atI
      rw [lst_getD (by omega), lst_getD (by omega)]
      unfold rsF
      cases e1 : F.testBit c.a.toNat with
      | false => left; simp [e1]
      | true =>
        cases e2 : F.testBit c.b.toNat with
        | false => right; simp [e2]
        | true => exact absurd ⟨e1, e2⟩ (hf c hc)
  · intro x hx
    unfold lst64 at hx
    obtain ⟨k, hk, rfl⟩ := List.mem_map.1 hx
    unfold inI32 rsF; simp
  · intro x hx
    unfold lst64 at hx
    obtain ⟨k, hk, rfl⟩ := List.mem_map.1 hx
    unfold inI32 rsF
    cases e : F.testBit k <;> simp [e]
theorem rst_rest {G : List Gp} {C : List Cf} {F T : Nat} (hg : gridB G C = true) : Rst G F T (rsF F) :=
  ⟨fun j hj => rfl, fun j hj _ _ => by have := grid_g hg hj; show _ ≤ (10000 : Int); omega⟩
set_option maxRecDepth 100000 in
set_option maxHeartbeats 4000000 in
theorem times_bad (G : List Gp) (C : List Cf) (vg vc : Value) (F T : Nat) (w : World) (hF : F < 18446744073709551616) (hT : T < 18446744073709551616) (h1 : Fl 5 Gp.cs w vg G) (h2 : Fl 4 Cf.cs w vc C) (lG : G.length ≤ 2932031007317) (lC : C.length ≤ 4398046511000) (ok : ∀ (i : Nat) (h : i < C.length), C[i].ok) (eg : gridB G C = false) :
    Calls Try.prog 3 #[.agg #[vg, vc], .int .u64 (F : Int), .int .u64 (T : Int)] w fun e w' => e = .returned (.bool true) ∧ Below w.heap.size w w' := by
  have kA := fun (X : World) (hX : Below w.heap.size w X) => alive_any X
  have kS := fun (X : World) (hX : Below w.heap.size w X) => span_any G C vg vc F T X hF hT (h1.below hX) (h2.below hX) lG lC ok
  have kG := fun (X : World) (hX : Below w.heap.size w X) => refGrid_any G C vg vc X (h1.below hX) (h2.below hX) lG lC
  have eV : spanV G C F T false = (0, 70) := by simp [spanV, eg]
  rw [eV] at kS
  rw [eg] at kG
  obtain ⟨va, cg, rfl, -⟩ := h1.any
  obtain ⟨vb, cc, rfl, -⟩ := h2.any
  have E0 : Has (w.alloc (.cells #[.slice va G.length cg, .slice vb C.length cc] 25)) w.heap.size #[.slice va G.length cg, .slice vb C.length cc] := Has.new _ _ _ rfl
  have b0 : Below w.heap.size w (w.alloc (.cells #[.slice va G.length cg, .slice vb C.length cc] 25)) := belN1
  clear h1 h2 ok eV
  go_enter Try.func3, Try.ntmps3
  go_wp2_with (first
    | (go_at_call 9; (with_reducible refine Calls.mono (kA _ (by exact b0)) ?_); rintro e y1 ⟨rfl, hy1⟩; have b1 := bel_after b0 b0.size hy1; have E1 := E0.below hy1; obtain ⟨_, cy1, _⟩ := id E1; clear hy1)
    | (go_at_call 10; (with_reducible refine Calls.mono (kS _ (by exact b1)) ?_); rintro e y2 ⟨rfl, hy2⟩; have b2 := bel_after b1 b1.size hy2; have E2 := E1.below hy2; obtain ⟨_, cy2, _⟩ := id E2; clear hy2)
    | (go_at_call 11; (with_reducible refine Calls.mono (kG _ (by exact b2)) ?_); rintro e y3 ⟨rfl, hy3⟩; have b3 := bel_after b2 b2.size hy3; have E3 := E2.below hy3; obtain ⟨_, cy3, _⟩ := id E3; clear hy3))
  go_ret
  exact ⟨rfl, b3⟩
set_option maxRecDepth 100000 in
set_option maxHeartbeats 4000000 in
theorem times_clash (G : List Gp) (C : List Cf) (vg vc : Value) (F T : Nat) (w : World) (hF : F < 18446744073709551616) (hT : T < 18446744073709551616) (h1 : Fl 5 Gp.cs w vg G) (h2 : Fl 4 Cf.cs w vc C) (lG : G.length ≤ 2932031007317) (lC : C.length ≤ 4398046511000) (ok : ∀ (i : Nat) (h : i < C.length), C[i].ok) (eg : gridB G C = true) (ec : ((clashF G.length F C).2.2 || (clashF G.length T C).2.2) = true) :
    Calls Try.prog 3 #[.agg #[vg, vc], .int .u64 (F : Int), .int .u64 (T : Int)] w fun e w' => e = .returned (.bool true) ∧ Below w.heap.size w w' := by
  have kA := fun (X : World) (hX : Below w.heap.size w X) => alive_any X
  have kS := fun (X : World) (hX : Below w.heap.size w X) => span_any G C vg vc F T X hF hT (h1.below hX) (h2.below hX) lG lC ok
  have kG := fun (X : World) (hX : Below w.heap.size w X) => refGrid_any G C vg vc X (h1.below hX) (h2.below hX) lG lC
  have eV : spanV G C F T false = (0, 60) := by simp only [spanV, eg, ec]; rfl
  rw [eV] at kS
  rw [eg] at kG
  obtain ⟨va, cg, rfl, -⟩ := h1.any
  have kC := fun (M : Nat) (hM : M < 18446744073709551616) (X : World) (hX : Below w.heap.size w X) => clash_any G.length M C va cg vc X hM lG (h2.below hX) lC ok
  obtain ⟨vb, cc, rfl, -⟩ := h2.any
  have kF := kC F hF
  have kT := kC T hT
  have E0 : Has (w.alloc (.cells #[.slice va G.length cg, .slice vb C.length cc] 25)) w.heap.size #[.slice va G.length cg, .slice vb C.length cc] := Has.new _ _ _ rfl
  have b0 : Below w.heap.size w (w.alloc (.cells #[.slice va G.length cg, .slice vb C.length cc] 25)) := belN1
  clear h1 h2 ok eV kC
  generalize hcF : clashF G.length F C = cF at *
  generalize hcT : clashF G.length T C = cT at *
  obtain ⟨f1, f2, f3⟩ := cF
  obtain ⟨g1, g2, g3⟩ := cT
  simp only at ec kF kT
  cases f3 with
  | true =>
    go_enter Try.func3, Try.ntmps3
    go_upto_region 8 with (first
      | (go_at_call 9; (with_reducible refine Calls.mono (kA _ (by exact b0)) ?_); rintro e y1 ⟨rfl, hy1⟩; have b1 := bel_after b0 b0.size hy1; have E1 := E0.below hy1; obtain ⟨_, cy1, _⟩ := id E1; clear hy1)
      | (go_at_call 10; (with_reducible refine Calls.mono (kS _ (by exact b1)) ?_); rintro e y2 ⟨rfl, hy2⟩; have b2 := bel_after b1 b1.size hy2; have E2 := E1.below hy2; obtain ⟨_, cy2, _⟩ := id E2; clear hy2)
      | (go_at_call 11; (with_reducible refine Calls.mono (kG _ (by exact b2)) ?_); rintro e y3 ⟨rfl, hy3⟩; have b3 := bel_after b2 b2.size hy3; have E3 := E2.below hy3; obtain ⟨_, cy3, _⟩ := id E3; clear hy3)
      | (go_at_call 12; (with_reducible refine Calls.mono (kF _ (by exact b3)) ?_); rintro e y4 ⟨rfl, hy4⟩; have b4 := bel_after b3 b3.size hy4; have E4 := E3.below hy4; obtain ⟨_, cy4, _⟩ := id E4; clear hy4))
    go_wp2_with (go_at_call 12; (with_reducible refine Calls.mono (kT _ (by exact b4)) ?_); rintro e y5 ⟨rfl, hy5⟩; have b5 := bel_after b4 b4.size hy5; have E5 := E4.below hy5; obtain ⟨_, cy5, _⟩ := id E5; clear hy5)
    go_ret
    exact ⟨rfl, b5⟩
  | false =>
    obtain rfl : g3 = true := by simpa using ec
    go_enter Try.func3, Try.ntmps3
    go_upto_region 8 with (first
      | (go_at_call 9; (with_reducible refine Calls.mono (kA _ (by exact b0)) ?_); rintro e y1 ⟨rfl, hy1⟩; have b1 := bel_after b0 b0.size hy1; have E1 := E0.below hy1; obtain ⟨_, cy1, _⟩ := id E1; clear hy1)
      | (go_at_call 10; (with_reducible refine Calls.mono (kS _ (by exact b1)) ?_); rintro e y2 ⟨rfl, hy2⟩; have b2 := bel_after b1 b1.size hy2; have E2 := E1.below hy2; obtain ⟨_, cy2, _⟩ := id E2; clear hy2)
      | (go_at_call 11; (with_reducible refine Calls.mono (kG _ (by exact b2)) ?_); rintro e y3 ⟨rfl, hy3⟩; have b3 := bel_after b2 b2.size hy3; have E3 := E2.below hy3; obtain ⟨_, cy3, _⟩ := id E3; clear hy3)
      | (go_at_call 12; (with_reducible refine Calls.mono (kF _ (by exact b3)) ?_); rintro e y4 ⟨rfl, hy4⟩; have b4 := bel_after b3 b3.size hy4; have E4 := E3.below hy4; obtain ⟨_, cy4, _⟩ := id E4; clear hy4))
    go_wp2_with (go_at_call 12; (with_reducible refine Calls.mono (kT _ (by exact b4)) ?_); rintro e y5 ⟨rfl, hy5⟩; have b5 := bel_after b4 b4.size hy5; have E5 := E4.below hy5; obtain ⟨_, cy5, _⟩ := id E5; clear hy5)
    go_ret
    exact ⟨rfl, b5⟩
set_option maxRecDepth 100000 in
set_option maxHeartbeats 4000000 in
theorem times_ok (G : List Gp) (C : List Cf) (vg vc : Value) (F T : Nat) (w : World) (hF : F < 18446744073709551616) (hT : T < 18446744073709551616) (h1 : Fl 5 Gp.cs w vg G) (h2 : Fl 4 Cf.cs w vc C) (lG : G.length ≤ 2932031007317) (lC : C.length ≤ 4398046511000) (ok : ∀ (i : Nat) (h : i < C.length), C[i].ok) (eg : gridB G C = true) (ec : ((clashF G.length F C).2.2 || (clashF G.length T C).2.2) = false) :
    Calls Try.prog 3 #[.agg #[vg, vc], .int .u64 (F : Int), .int .u64 (T : Int)] w fun e w' => e = .returned (.bool true) ∧ Below w.heap.size w w' := by
  have h64 := grid_len eg
  have kA := fun (X : World) (hX : Below w.heap.size w X) => alive_any X
  have kS := fun (X : World) (hX : Below w.heap.size w X) => span_any G C vg vc F T X hF hT (h1.below hX) (h2.below hX) lG lC ok
  have kG := fun (X : World) (hX : Below w.heap.size w X) => refGrid_any G C vg vc X (h1.below hX) (h2.below hX) lG lC
  have eV : spanV G C F T false = (mvF G C F T false G 0 0, 0) := by simp only [spanV, eg, ec]; rfl
  rw [eV] at kS
  rw [eg] at kG
  rw [Bool.or_eq_false_iff] at ec
  have fF := fit_clash eg ec.1
  have fT := fit_clash eg ec.2
  have okR := okf_rest eg fF
  have rs := rst_rest (F := F) (T := T) eg
  have mv0 := (mv_parts G C F T false).1
  have mvl := mv_le (F := F) (T := T) (all := false) eg
  obtain ⟨K, eK⟩ : ∃ K : Nat, mvF G C F T false G 0 0 = (K : Int) := ⟨(mvF G C F T false G 0 0).toNat, by omega⟩
  have no : ∀ k, k < K → setF T 0 (lst64 G.length (stF G C T (rsF F) k).a) = false := fun k hk => by
    cases e : setF T 0 (lst64 G.length (stF G C T (rsF F) k).a) with
    | false => rfl
    | true =>
      have := move_exact (F := F) eg okR rs (k := k) (by omega) (setF_iff.1 e)
      omega
  have yes : setF T 0 (lst64 G.length (stF G C T (rsF F) K).a) = true := setF_iff.2 (move_upto (F := F) (all := false) eg fT okR rs (fun o _ ho => .inr (by show _ ≤ (if F.testBit o = true then (0 : Int) else 10000); rw [ho]; decide)) (by omega) (by omega))
  have sS : setB G C (lst64 G.length (rsF F).a) (lst64 G.length (rsF F).i) (lst64 G.length (rsF F).w) F = true := by
    unfold setB soundB
    rw [eg, okR.1, (setF_iff (f := (rsF F).a)).2 (fun j hj => rfl)]
    rfl
  have la := lst_len G.length (rsF F).a
  have li := lst_len G.length (rsF F).i
  have lw := lst_len G.length (rsF F).w
  have kE := fun (X : World) (hX : Below w.heap.size w X) (u1 u2 u3 : Value) (f1 : Fl 1 n64 X u1 (lst64 G.length (rsF F).a)) (f2 : Fl 1 n32 X u2 (lst64 G.length (rsF F).i)) (f3 : Fl 1 n32 X u3 (lst64 G.length (rsF F).w)) => settled_any G C _ _ _ vg vc u1 u2 u3 F X (h1.below hX) (h2.below hX) f1 f2 f3 lG lC (by omega) (by omega) (by omega) okR.2.1 hF
  rw [sS] at kE
  have kN := fun (X : World) (hX : Below w.heap.size w X) (u1 u2 u3 : Value) (f1 : Fl 1 n64 X u1 (lst64 G.length (rsF F).a)) (f2 : Fl 1 n32 X u2 (lst64 G.length (rsF F).i)) (f3 : Fl 1 n32 X u3 (lst64 G.length (rsF F).w)) => steps_ok G C (rsF F) vg vc u1 u2 u3 T K K X (h1.below hX) (h2.below hX) f1 f2 f3 lC hT eg okR (Nat.le_refl _) (by omega) no yes
  rw [eK] at kS
  obtain ⟨va, cg, rfl, -⟩ := h1.any
  obtain ⟨vb, cc, rfl, -⟩ := h2.any
  have kR := fun (X : World) (hX : Below w.heap.size w X) => rested_any G.length va cg (.slice vb C.length cc) F X hF h64
  have E0 : Has (w.alloc (.cells #[.slice va G.length cg, .slice vb C.length cc] 25)) w.heap.size #[.slice va G.length cg, .slice vb C.length cc] := Has.new _ _ _ rfl
  have b0 : Below w.heap.size w (w.alloc (.cells #[.slice va G.length cg, .slice vb C.length cc] 25)) := belN1
  have k4 : ¬ (K : Int) > 4000 := by omega
  have k0 : ¬ (K : Int) < 0 := by omega
  clear h1 h2 ok eV no yes mv0 mvl eK sS rs fF fT okR
  go_enter Try.func3, Try.ntmps3
  go_upto_region 11 with (first
    | (go_at_call 9; (with_reducible refine Calls.mono (kA _ (by exact b0)) ?_); rintro e y1 ⟨rfl, hy1⟩; have b1 := bel_after b0 b0.size hy1; have E1 := E0.below hy1; obtain ⟨_, cy1, _⟩ := id E1; clear hy1)
    | (go_at_call 10; (with_reducible refine Calls.mono (kS _ (by exact b1)) ?_); rintro e y2 ⟨rfl, hy2⟩; have b2 := bel_after b1 b1.size hy2; have E2 := E1.below hy2; obtain ⟨_, cy2, _⟩ := id E2; clear hy2)
    | (go_at_call 11; (with_reducible refine Calls.mono (kG _ (by exact b2)) ?_); rintro e y3 ⟨rfl, hy3⟩; have b3 := bel_after b2 b2.size hy3; have E3 := E2.below hy3; obtain ⟨_, cy3, _⟩ := id E3; clear hy3)
    | (go_at_call 13; (with_reducible refine Calls.mono (kR _ (by exact b3)) ?_); rintro e y4 ⟨⟨u1, u2, u3, rfl, p1, p2, p3⟩, hy4⟩; have b4 := bel_after b3 b3.size hy4; have E4 := E3.below hy4; obtain ⟨_, cy4, _⟩ := id E4; obtain ⟨aA, dA, rfl, -⟩ := p1.any; obtain ⟨aI, dI, rfl, -⟩ := p2.any; obtain ⟨aW, dW, rfl, -⟩ := p3.any; clear hy4))
  rw [la] at p1
  rw [li] at p2
  rw [lw] at p3
  have N5 : Has (y4.alloc (.cells #[.slice aA G.length dA, .slice aI G.length dI, .slice aW G.length dW] 37)) y4.heap.size #[.slice aA G.length dA, .slice aI G.length dI, .slice aW G.length dW] := Has.new _ _ _ rfl
  have E5 := E4.alloc (.cells #[.slice aA G.length dA, .slice aI G.length dI, .slice aW G.length dW] 37)
  have b5 := b4.alloc b4.size (.cells #[.slice aA G.length dA, .slice aI G.length dI, .slice aW G.length dW] 37)
  have q1 := p1.below (belN1 : Below y4.heap.size y4 (y4.alloc (.cells #[.slice aA G.length dA, .slice aI G.length dI, .slice aW G.length dW] 37)))
  have q2 := p2.below (belN1 : Below y4.heap.size y4 (y4.alloc (.cells #[.slice aA G.length dA, .slice aI G.length dI, .slice aW G.length dW] 37)))
  have q3 := p3.below (belN1 : Below y4.heap.size y4 (y4.alloc (.cells #[.slice aA G.length dA, .slice aI G.length dI, .slice aW G.length dW] 37)))
  generalize (y4.alloc (.cells #[.slice aA G.length dA, .slice aI G.length dI, .slice aW G.length dW] 37)) = Y at *
  generalize y4.heap.size = P at *
  clear p1 p2 p3 E0 E1 E2 E3 E4 b0 b1 b2 b3 b4 cy1 cy2 cy3 cy4 kA kS kG kR
  have cE := kE Y b5 _ _ _ q1 q2 q3
  obtain ⟨_, n5, _⟩ := id N5
  obtain ⟨_, e5, _⟩ := id E5
  go_upto_region 13 with (go_at_call 14; (with_reducible refine Calls.mono cE ?_); rintro e y6 ⟨rfl, hy6⟩; have b6 := bel_after b5 b5.size hy6; have E6 := E5.below hy6; have N6 := N5.below hy6)
  have cN := kN y6 b6 _ _ _ (q1.below hy6) (q2.below hy6) (q3.below hy6)
  clear n5 e5 cE kE kN q1 q2 q3 E5 N5 b5
  obtain ⟨_, n6, _⟩ := id N6
  obtain ⟨_, e6, _⟩ := id E6
  go_wp2_with (go_at_call 15; (with_reducible refine Calls.mono cN ?_); rintro e y7 ⟨⟨u1, u2, u3, rfl, r1, r2, r3⟩, hy7⟩; have b7 := bel_after b6 b6.size hy7; obtain ⟨xA, zA, rfl, -⟩ := r1.any; obtain ⟨xI, zI, rfl, -⟩ := r2.any; obtain ⟨xW, zW, rfl, -⟩ := r3.any)
  go_ret
  exact ⟨rfl, b7.alloc b7.size _⟩
end Go.Proofs.Ythflpnahifpdnaa
