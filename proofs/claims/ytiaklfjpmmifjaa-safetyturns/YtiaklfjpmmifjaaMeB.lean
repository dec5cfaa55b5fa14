import Derived.Test.YtiaklfjpmmifjaaMeA
namespace Go.Proofs.Ytiaklfjpmmifjaa
open Go.RowKit Go.Maps Go.WideMaps
set_option linter.unusedVariables false
/-- Both ways to answer. -/
theorem meas_span (G : List Gp) (C : List Cf) (F T A : Nat) (all : Bool) (h : gridB G C = true → ∀ k, k < G.length → hasN A (k : Int) = (all || loses F T k)) : measV G C F T A = spanV G C F T all := by
  unfold measV spanV
  cases eg : gridB G C with
  | false => rfl
  | true =>
    have hw : ∀ k, k < G.length → wA C A (k : Int) G 0 0 = wF C F T all (k : Int) G 0 0 := fun k hk => (wF_wA C F T A all (k : Int) G 0 0 (fun j _ hj => h eg j (by omega))).symm
    have e := thF_mvF (ws := fun i => wA C A (i : Int) G 0 0) eg hw (fun k hk => (wA_max C A (k : Int) G 0 0).1) G.length 0 0 (by omega) (by omega)
    simp only [List.drop_zero] at e
    rw [e]
set_option maxRecDepth 100000 in
set_option maxHeartbeats 4000000 in
theorem span_any (G : List Gp) (C : List Cf) (vg vc : Value) (F T : Nat) (w : World) (hF : F < 18446744073709551616) (hT : T < 18446744073709551616) (h1 : Fl 5 Gp.cs w vg G) (h2 : Fl 4 Cf.cs w vc C) (lG : G.length ≤ 2932031007317) (lC : C.length ≤ 4398046511000) (ok : ∀ (i : Nat) (h : i < C.length), C[i].ok) :
    Calls Try.prog 19 #[.agg #[vg, vc], .int .u64 (F : Int), .int .u64 (T : Int)] w fun e w' => e = .returned (.tuple #[.int .i64 (spanV G C F T false).1, .int .i64 (spanV G C F T false).2]) ∧ Below w.heap.size w w' := by
  have hM : bits .andNot .u64 (F : Int) (T : Int) = ((F &&& (18446744073709551615 - T) : Nat) : Int) := u64_andNot_nat F T hF hT
  have hMl : F &&& (18446744073709551615 - T) < 18446744073709551616 := Nat.lt_of_le_of_lt Nat.and_le_left hF
  have eS := meas_span G C F T (F &&& (18446744073709551615 - T)) false (fun _ k _ => by rw [hasN_andNot F T (k : Int) hT]; rfl)
  have hMe := fun (W : World) (hW : Below w.heap.size w W) => measure_any G C vg vc F T (F &&& (18446744073709551615 - T)) W hF hT hMl (h1.below hW) (h2.below hW) lG lC ok
  rw [eS] at hMe
  generalize F &&& (18446744073709551615 - T) = D at *
  generalize spanV G C F T false = S at *
  clear eS h1 h2 ok
  go_enter Try.func19, Try.ntmps19
  go_wp2_with (go_at_call 29; (with_reducible refine Calls.mono (hMe _ (by exact belN1)) ?_); rintro e w1 ⟨rfl, hb1⟩; have hbM := bel_after belN1 (by simp) hb1; clear hb1)
  exact bodyPost_ret (v := .tuple #[.int .i64 S.1, .int .i64 S.2]) (by simp [results, Try.results19, go_sem]) rfl ⟨rfl, hbM⟩
set_option maxRecDepth 100000 in
set_option maxHeartbeats 4000000 in
theorem longest_any (G : List Gp) (C : List Cf) (vg vc : Value) (F T : Nat) (w : World) (hF : F < 18446744073709551616) (hT : T < 18446744073709551616) (h1 : Fl 5 Gp.cs w vg G) (h2 : Fl 4 Cf.cs w vc C) (lG : G.length ≤ 2932031007317) (lC : C.length ≤ 4398046511000) (ok : ∀ (i : Nat) (h : i < C.length), C[i].ok) :
    Calls Try.prog 20 #[.agg #[vg, vc], .int .u64 (F : Int), .int .u64 (T : Int)] w fun e w' => e = .returned (.tuple #[.int .i64 (spanV G C F T true).1, .int .i64 (spanV G C F T true).2]) ∧ Below w.heap.size w w' := by
  have eS := meas_span G C F T (2 ^ min G.length 64 - 1) true (fun gr k hk => by
    have h64 : G.length ≤ 64 := by simp [gridB] at gr; exact gr.1
    have e : min G.length 64 = G.length := by omega
    simp only [hasN, Nat.testBit_two_pow_sub_one, Bool.true_or, e]
    simp; omega)
  have hMe := fun (W : World) (hW : Below w.heap.size w W) => measure_any G C vg vc F T (2 ^ min G.length 64 - 1) W hF hT (allOf_lt _) (h1.below hW) (h2.below hW) lG lC ok
  rw [eS] at hMe
  obtain ⟨va, cg, rfl, -⟩ := h1.any
  have hAl := fun (W : World) => allOf_any G.length va cg W lG
  generalize 2 ^ min G.length 64 - 1 = D at *
  generalize spanV G C F T true = S at *
  clear eS h1 h2 ok
  go_enter Try.func20, Try.ntmps20
  go_wp2
  have K0 : Has (w.alloc (.cells #[.slice va G.length cg, vc] 25)) w.heap.size #[.slice va G.length cg, vc] := Has.new _ _ _ rfl
  have hb0 : Below w.heap.size w (w.alloc (.cells #[.slice va G.length cg, vc] 25)) := belN1
  generalize (w.alloc (.cells #[.slice va G.length cg, vc] 25)) = W0 at *
  have hbd := hb0.drew
  go_region_held3 (fun w' => w'.cell? ⟨w.heap.size, 0, none⟩ = some (.slice va G.length cg) ∧ w'.cell? ⟨w.heap.size, 1, none⟩ = some vc) (first | with_reducible exact has2b K0.drew | with_reducible exact has2b K1 | with_reducible exact has2b K0) (first
    | (go_at_call 25; (with_reducible refine Calls.mono (hAl _) ?_); rintro e w1 ⟨rfl, rfl⟩)
    | (go_at_call 29; (with_reducible refine Calls.mono (hMe _ hbd) ?_); rintro e w2 ⟨rfl, hb2⟩; have K1 := K0.drew.below hb2; have hbM := bel_after hbd hbd.size hb2; clear hb2))
  go_wp2
  exact bodyPost_ret (v := .tuple #[.int .i64 S.1, .int .i64 S.2]) (by simp [results, Try.results20, go_sem]) rfl ⟨rfl, hbM⟩
end Go.Proofs.Ytiaklfjpmmifjaa
