import Derived.Test.YthflpnahifpdnaaFtB
import Derived.Test.YthflpnahifpdnaaGrC
import Derived.Laws.Bits64
import Derived.Laws.Bits64b
namespace Go.Proofs.Ythflpnahifpdnaa
open Go.RowKit
set_option linter.unusedVariables false


theorem bit1 (M k : Nat) (h : M < 18446744073709551616) : (bits .and .u64 ((M : Int) / 2 ^ k) 1 == 1) = M.testBit k := by
  have e : ((M : Int) / 2 ^ k) = ((M / 2 ^ k : Nat) : Int) := by simp
  have t : bits .and .u64 ((M / 2 ^ k : Nat) : Int) 1 = ((M / 2 ^ k &&& 1 : Nat) : Int) := bits_and_u64_nat (M / 2 ^ k) 1 (Nat.lt_of_le_of_lt (Nat.div_le_self _ _) h) (by decide)
  rw [e, t, Nat.and_one_is_mod, Nat.testBit_eq_decide_div_mod_eq]
  rcases Nat.mod_two_eq_zero_or_one (M / 2 ^ k) with h | h <;> rw [h] <;> rfl
set_option maxRecDepth 100000 in
theorem has_any (M k : Nat) (w : World) (hM : M < 18446744073709551616) (hk : k < 64) :
    Calls Try.prog 35 #[.int .u64 (M : Int), .int .i64 (k : Int)] w fun e w' => e = .returned (.bool (M.testBit k)) ∧ w' = w := by
  have e := bit1 M k hM
  have t0 : (0 : Int) ≤ (k : Int) := by omega
  have t1 : (k : Int) < 64 := by omega
  have t2 : min k 64 = k := by omega
  have t3 : ((k : Int)).toNat = k := by omega
  go_enter Try.func35, Try.ntmps35
  go_wp2
  go_ret
  exact ⟨by first | rfl | exact ret_bool e | simp [e], rfl⟩
theorem half_step (M j : Nat) : (M / 2 ^ j) / 2 = M / 2 ^ (j + 1) := by rw [Nat.div_div_eq_div_mul, Nat.pow_succ]
theorem half_test (M k : Nat) : (((M / 2 ^ k : Nat) : Int) % 2 == 1) = M.testBit k := by
  rw [Nat.testBit_eq_decide_div_mod_eq]
  have e : ((M / 2 ^ k : Nat) : Int) % 2 = ((M / 2 ^ k % 2 : Nat) : Int) := by simp
  rw [e]
  rcases Nat.mod_two_eq_zero_or_one (M / 2 ^ k) with h | h <;> rw [h] <;> rfl
set_option maxRecDepth 100000 in
set_option maxHeartbeats 4000000 in
theorem sound_any (G : List Gp) (C : List Cf) (A I W : List Int) (vg vc v1 v2 v3 : Value) (w : World) (h1 : Fl 5 Gp.cs w vg G) (h2 : Fl 4 Cf.cs w vc C) (h3 : Fl 1 n64 w v1 A) (h4 : Fl 1 n32 w v2 I) (h5 : Fl 1 n32 w v3 W) (lG : G.length ≤ 2932031007317) (lC : C.length ≤ 4398046511000) (lA : A.length ≤ 17592186044000) (lI : I.length ≤ 35184372088000) (lW : W.length ≤ 35184372088000) (okI : ∀ x ∈ I, inI32 x) :
    Calls Try.prog 24 #[.agg #[vg, vc], .agg #[v1, v2, v3]] w fun e w' => e = .returned (.bool (soundB G C A I W)) ∧ Below w.heap.size w w' := by
  have hGd := fun (X : World) (hX : Below w.heap.size w X) => grid_any G C vg vc X (h1.below hX) (h2.below hX) lG lC
  have hFt := fun (X : World) (hX : Below w.heap.size w X) => fits_any G C A I W vg vc v1 v2 v3 X (h1.below hX) (h2.below hX) (h3.below hX) (h4.below hX) (h5.below hX) lG lC lA lI lW okI
  obtain ⟨va, cg, rfl, kG⟩ := h1.any
  obtain ⟨vb, cc, rfl, kC⟩ := h2.any
  obtain ⟨vA, cA, rfl, kA⟩ := h3.nums
  obtain ⟨vI, cI, rfl, kI⟩ := h4.nums
  obtain ⟨vW, cW, rfl, kW⟩ := h5.nums
  clear h1 h2 h3 h4 h5 kG kC kA kI kW
  have B0 : Has ((w.alloc (.cells #[.slice va G.length cg, .slice vb C.length cc] 25)).alloc (.cells #[.slice vA A.length cA, .slice vI I.length cI, .slice vW W.length cW] 37)) w.heap.size #[.slice va G.length cg, .slice vb C.length cc] := (Has.new _ _ _ rfl).alloc _
  have B1 : Has ((w.alloc (.cells #[.slice va G.length cg, .slice vb C.length cc] 25)).alloc (.cells #[.slice vA A.length cA, .slice vI I.length cI, .slice vW W.length cW] 37)) (w.heap.size + 1) #[.slice vA A.length cA, .slice vI I.length cI, .slice vW W.length cW] := Has.new _ _ _ (by simp)
  have hb0 : Below w.heap.size w ((w.alloc (.cells #[.slice va G.length cg, .slice vb C.length cc] 25)).alloc (.cells #[.slice vA A.length cA, .slice vI I.length cI, .slice vW W.length cW] 37)) := belA
  unfold soundB
  cases hg : gridB G C with
  | false =>
    rw [hg] at hGd
    go_enter Try.func24, Try.ntmps24
    go_wp2_with (go_at_call 36; (with_reducible refine Calls.mono (hGd _ (by exact hb0)) ?_); rintro e w2 ⟨rfl, hb2⟩; have hbM := bel_after hb0 hb0.size hb2; clear hb2)
    go_ret
    exact ⟨rfl, hbM⟩
  | true =>
    rw [hg] at hGd
    replace hFt := fun (X : World) (hX : Below w.heap.size w X) => hFt X hX hg
    generalize fitsB G C A I W = R at *
    go_enter Try.func24, Try.ntmps24
    go_wp2_with (first
      | (go_at_call 36; (with_reducible refine Calls.mono (hGd _ (by exact hb0)) ?_); rintro e w2 ⟨rfl, hb2⟩; have hbM := bel_after hb0 hb0.size hb2; have BM := B0.below hb2; have B1M := B1.below hb2; obtain ⟨_, m1, _⟩ := id BM; obtain ⟨_, m2, _⟩ := id B1M; clear hb2)
      | (go_at_call 38; (with_reducible refine Calls.mono (hFt _ (by exact hbM)) ?_); rintro e w3 ⟨rfl, hb3⟩; have hbK := bel_after hbM hbM.size hb3; clear hb3))
    go_ret
    exact ⟨by first | rfl | simp, hbK⟩
end Go.Proofs.Ythflpnahifpdnaa
