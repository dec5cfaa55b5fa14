import Derived.Test.YtddphepgcihdbaaTbG
namespace Go.Proofs.Ytddphepgcihdbaa
open Go.RowKit
set_option linter.unusedVariables false
set_option linter.unusedSimpArgs false

set_option maxRecDepth 100000 in
set_option maxHeartbeats 4000000 in
theorem sound_any (t : Tt) (aD aS aX aH : Option Addr) (cD cS cX cH : Nat) (w : World) (hR : TR w t (.slice aD t.D.length cD) (.slice aS t.S.length cS) (.slice aX t.X.length cX) (.slice aH t.H.length cH)) : Calls Try.prog 18 #[.agg #[.string t.nm, .slice aD t.D.length cD, .int .i64 t.w0, .int .i64 t.w1, .int .i64 t.w2, .int .i64 t.w3, .int .i64 t.w4, .int .i64 t.w5, .int .i64 t.w6, .slice aS t.S.length cS, .slice aX t.X.length cX, .slice aH t.H.length cH]] w fun e w' => e = .returned (.int .i64 t.err) ∧ Below w.heap.size w w' := by
  have c0 := fun W (hb : Below w.heap.size w W) => hasNames_any t aD aS aX aH cD cS cX cH W (hR.below hb)
  have c1 := fun W (hb : Below w.heap.size w W) => isWithinLimits_any t aD aS aX aH cD cS cX cH W (hR.below hb)
  have c2 := fun W (hb : Below w.heap.size w W) => hasRows_any t aD aS aX aH cD cS cX cH W (hR.below hb)
  have c3 := fun W (hb : Below w.heap.size w W) => isEachOnce_any t aD aS aX aH cD cS cX cH W (hR.below hb)
  have c4 := fun W (hb : Below w.heap.size w W) => hasClocks_any t aD aS aX aH cD cS cX cH W (hR.below hb)
  have c5 := fun W (hb : Below w.heap.size w W) => hasDates_any t aD aS aX aH cD cS cX cH W (hR.below hb)
  have c6 := fun W (hb : Below w.heap.size w W) => hasKinds_any t aD aS aX aH cD cS cX cH W (hR.below hb)
  have c7 := fun W (hb : Below w.heap.size w W) => isInOrder_any t aD aS aX aH cD cS cX cH W (hR.below hb)
  unfold Tt.err
  generalize t.nmsB = b0 at *
  generalize t.limB = b1 at *
  generalize t.rowB = b2 at *
  generalize t.oneB = b3 at *
  generalize t.clkB = b4 at *
  generalize t.datB = b5 at *
  generalize t.kinB = b6 at *
  generalize t.ordB = b7 at *
  clear hR
  cases b0 with
  | false =>
    go_enter Try.func18, Try.ntmps18
    go_wp2_with (first | (go_at_call 27; (with_reducible refine (c0 _ bel1).mono ?_); rintro e w0 ⟨rfl, hb0⟩; have B0 := ((Has.new w #[.string t.nm, .slice aD t.D.length cD, .int .i64 t.w0, .int .i64 t.w1, .int .i64 t.w2, .int .i64 t.w3, .int .i64 t.w4, .int .i64 t.w5, .int .i64 t.w6, .slice aS t.S.length cS, .slice aX t.X.length cX, .slice aH t.H.length cH] 29 rfl).below hb0); have hb0' := (belT bel1 hb0); obtain ⟨_, q0, _⟩ := id B0))
    go_ret
    exact ⟨by first | rfl | simp, hb0'⟩
  | true =>
    cases b1 with
    | false =>
      go_enter Try.func18, Try.ntmps18
      go_wp2_with (first | (go_at_call 27; (with_reducible refine (c0 _ bel1).mono ?_); rintro e w0 ⟨rfl, hb0⟩; have B0 := ((Has.new w #[.string t.nm, .slice aD t.D.length cD, .int .i64 t.w0, .int .i64 t.w1, .int .i64 t.w2, .int .i64 t.w3, .int .i64 t.w4, .int .i64 t.w5, .int .i64 t.w6, .slice aS t.S.length cS, .slice aX t.X.length cX, .slice aH t.H.length cH] 29 rfl).below hb0); have hb0' := (belT bel1 hb0); obtain ⟨_, q0, _⟩ := id B0) | (go_at_call 28; (with_reducible refine (c1 _ hb0').mono ?_); rintro e w1 ⟨rfl, hb1⟩; have B1 := (B0.below hb1); have hb1' := (belT hb0' hb1); obtain ⟨_, q1, _⟩ := id B1; clear B0 q0))
      go_ret
      exact ⟨by first | rfl | simp, hb1'⟩
    | true =>
      cases b2 with
      | false =>
        go_enter Try.func18, Try.ntmps18
        go_wp2_with (first | (go_at_call 27; (with_reducible refine (c0 _ bel1).mono ?_); rintro e w0 ⟨rfl, hb0⟩; have B0 := ((Has.new w #[.string t.nm, .slice aD t.D.length cD, .int .i64 t.w0, .int .i64 t.w1, .int .i64 t.w2, .int .i64 t.w3, .int .i64 t.w4, .int .i64 t.w5, .int .i64 t.w6, .slice aS t.S.length cS, .slice aX t.X.length cX, .slice aH t.H.length cH] 29 rfl).below hb0); have hb0' := (belT bel1 hb0); obtain ⟨_, q0, _⟩ := id B0) | (go_at_call 28; (with_reducible refine (c1 _ hb0').mono ?_); rintro e w1 ⟨rfl, hb1⟩; have B1 := (B0.below hb1); have hb1' := (belT hb0' hb1); obtain ⟨_, q1, _⟩ := id B1; clear B0 q0) | (go_at_call 29; (with_reducible refine (c2 _ hb1').mono ?_); rintro e w2 ⟨rfl, hb2⟩; have B2 := (B1.below hb2); have hb2' := (belT hb1' hb2); obtain ⟨_, q2, _⟩ := id B2; clear B1 q1))
        go_ret
        exact ⟨by first | rfl | simp, hb2'⟩
      | true =>
        cases b3 with
        | false =>
          go_enter Try.func18, Try.ntmps18
          go_wp2_with (first | (go_at_call 27; (with_reducible refine (c0 _ bel1).mono ?_); rintro e w0 ⟨rfl, hb0⟩; have B0 := ((Has.new w #[.string t.nm, .slice aD t.D.length cD, .int .i64 t.w0, .int .i64 t.w1, .int .i64 t.w2, .int .i64 t.w3, .int .i64 t.w4, .int .i64 t.w5, .int .i64 t.w6, .slice aS t.S.length cS, .slice aX t.X.length cX, .slice aH t.H.length cH] 29 rfl).below hb0); have hb0' := (belT bel1 hb0); obtain ⟨_, q0, _⟩ := id B0) | (go_at_call 28; (with_reducible refine (c1 _ hb0').mono ?_); rintro e w1 ⟨rfl, hb1⟩; have B1 := (B0.below hb1); have hb1' := (belT hb0' hb1); obtain ⟨_, q1, _⟩ := id B1; clear B0 q0) | (go_at_call 29; (with_reducible refine (c2 _ hb1').mono ?_); rintro e w2 ⟨rfl, hb2⟩; have B2 := (B1.below hb2); have hb2' := (belT hb1' hb2); obtain ⟨_, q2, _⟩ := id B2; clear B1 q1) | (go_at_call 30; (with_reducible refine (c3 _ hb2').mono ?_); rintro e w3 ⟨rfl, hb3⟩; have B3 := (B2.below hb3); have hb3' := (belT hb2' hb3); obtain ⟨_, q3, _⟩ := id B3; clear B2 q2))
          go_ret
          exact ⟨by first | rfl | simp, hb3'⟩
        | true =>
          cases b4 with
          | false =>
            go_enter Try.func18, Try.ntmps18
            go_wp2_with (first | (go_at_call 27; (with_reducible refine (c0 _ bel1).mono ?_); rintro e w0 ⟨rfl, hb0⟩; have B0 := ((Has.new w #[.string t.nm, .slice aD t.D.length cD, .int .i64 t.w0, .int .i64 t.w1, .int .i64 t.w2, .int .i64 t.w3, .int .i64 t.w4, .int .i64 t.w5, .int .i64 t.w6, .slice aS t.S.length cS, .slice aX t.X.length cX, .slice aH t.H.length cH] 29 rfl).below hb0); have hb0' := (belT bel1 hb0); obtain ⟨_, q0, _⟩ := id B0) | (go_at_call 28; (with_reducible refine (c1 _ hb0').mono ?_); rintro e w1 ⟨rfl, hb1⟩; have B1 := (B0.below hb1); have hb1' := (belT hb0' hb1); obtain ⟨_, q1, _⟩ := id B1; clear B0 q0) | (go_at_call 29; (with_reducible refine (c2 _ hb1').mono ?_); rintro e w2 ⟨rfl, hb2⟩; have B2 := (B1.below hb2); have hb2' := (belT hb1' hb2); obtain ⟨_, q2, _⟩ := id B2; clear B1 q1) | (go_at_call 30; (with_reducible refine (c3 _ hb2').mono ?_); rintro e w3 ⟨rfl, hb3⟩; have B3 := (B2.below hb3); have hb3' := (belT hb2' hb3); obtain ⟨_, q3, _⟩ := id B3; clear B2 q2) | (go_at_call 31; (with_reducible refine (c4 _ hb3').mono ?_); rintro e w4 ⟨rfl, hb4⟩; have B4 := (B3.below hb4); have hb4' := (belT hb3' hb4); obtain ⟨_, q4, _⟩ := id B4; clear B3 q3))
            go_ret
            exact ⟨by first | rfl | simp, hb4'⟩
          | true =>
            cases b5 with
            | false =>
              go_enter Try.func18, Try.ntmps18
              go_wp2_with (first | (go_at_call 27; (with_reducible refine (c0 _ bel1).mono ?_); rintro e w0 ⟨rfl, hb0⟩; have B0 := ((Has.new w #[.string t.nm, .slice aD t.D.length cD, .int .i64 t.w0, .int .i64 t.w1, .int .i64 t.w2, .int .i64 t.w3, .int .i64 t.w4, .int .i64 t.w5, .int .i64 t.w6, .slice aS t.S.length cS, .slice aX t.X.length cX, .slice aH t.H.length cH] 29 rfl).below hb0); have hb0' := (belT bel1 hb0); obtain ⟨_, q0, _⟩ := id B0) | (go_at_call 28; (with_reducible refine (c1 _ hb0').mono ?_); rintro e w1 ⟨rfl, hb1⟩; have B1 := (B0.below hb1); have hb1' := (belT hb0' hb1); obtain ⟨_, q1, _⟩ := id B1; clear B0 q0) | (go_at_call 29; (with_reducible refine (c2 _ hb1').mono ?_); rintro e w2 ⟨rfl, hb2⟩; have B2 := (B1.below hb2); have hb2' := (belT hb1' hb2); obtain ⟨_, q2, _⟩ := id B2; clear B1 q1) | (go_at_call 30; (with_reducible refine (c3 _ hb2').mono ?_); rintro e w3 ⟨rfl, hb3⟩; have B3 := (B2.below hb3); have hb3' := (belT hb2' hb3); obtain ⟨_, q3, _⟩ := id B3; clear B2 q2) | (go_at_call 31; (with_reducible refine (c4 _ hb3').mono ?_); rintro e w4 ⟨rfl, hb4⟩; have B4 := (B3.below hb4); have hb4' := (belT hb3' hb4); obtain ⟨_, q4, _⟩ := id B4; clear B3 q3) | (go_at_call 32; (with_reducible refine (c5 _ hb4').mono ?_); rintro e w5 ⟨rfl, hb5⟩; have B5 := (B4.below hb5); have hb5' := (belT hb4' hb5); obtain ⟨_, q5, _⟩ := id B5; clear B4 q4))
              go_ret
              exact ⟨by first | rfl | simp, hb5'⟩
            | true =>
              cases b6 with
              | false =>
                go_enter Try.func18, Try.ntmps18
                go_wp2_with (first | (go_at_call 27; (with_reducible refine (c0 _ bel1).mono ?_); rintro e w0 ⟨rfl, hb0⟩; have B0 := ((Has.new w #[.string t.nm, .slice aD t.D.length cD, .int .i64 t.w0, .int .i64 t.w1, .int .i64 t.w2, .int .i64 t.w3, .int .i64 t.w4, .int .i64 t.w5, .int .i64 t.w6, .slice aS t.S.length cS, .slice aX t.X.length cX, .slice aH t.H.length cH] 29 rfl).below hb0); have hb0' := (belT bel1 hb0); obtain ⟨_, q0, _⟩ := id B0) | (go_at_call 28; (with_reducible refine (c1 _ hb0').mono ?_); rintro e w1 ⟨rfl, hb1⟩; have B1 := (B0.below hb1); have hb1' := (belT hb0' hb1); obtain ⟨_, q1, _⟩ := id B1; clear B0 q0) | (go_at_call 29; (with_reducible refine (c2 _ hb1').mono ?_); rintro e w2 ⟨rfl, hb2⟩; have B2 := (B1.below hb2); have hb2' := (belT hb1' hb2); obtain ⟨_, q2, _⟩ := id B2; clear B1 q1) | (go_at_call 30; (with_reducible refine (c3 _ hb2').mono ?_); rintro e w3 ⟨rfl, hb3⟩; have B3 := (B2.below hb3); have hb3' := (belT hb2' hb3); obtain ⟨_, q3, _⟩ := id B3; clear B2 q2) | (go_at_call 31; (with_reducible refine (c4 _ hb3').mono ?_); rintro e w4 ⟨rfl, hb4⟩; have B4 := (B3.below hb4); have hb4' := (belT hb3' hb4); obtain ⟨_, q4, _⟩ := id B4; clear B3 q3) | (go_at_call 32; (with_reducible refine (c5 _ hb4').mono ?_); rintro e w5 ⟨rfl, hb5⟩; have B5 := (B4.below hb5); have hb5' := (belT hb4' hb5); obtain ⟨_, q5, _⟩ := id B5; clear B4 q4) | (go_at_call 33; (with_reducible refine (c6 _ hb5').mono ?_); rintro e w6 ⟨rfl, hb6⟩; have B6 := (B5.below hb6); have hb6' := (belT hb5' hb6); obtain ⟨_, q6, _⟩ := id B6; clear B5 q5))
                go_ret
                exact ⟨by first | rfl | simp, hb6'⟩
              | true =>
                cases b7 with
                | false =>
                  go_enter Try.func18, Try.ntmps18
                  go_wp2_with (first | (go_at_call 27; (with_reducible refine (c0 _ bel1).mono ?_); rintro e w0 ⟨rfl, hb0⟩; have B0 := ((Has.new w #[.string t.nm, .slice aD t.D.length cD, .int .i64 t.w0, .int .i64 t.w1, .int .i64 t.w2, .int .i64 t.w3, .int .i64 t.w4, .int .i64 t.w5, .int .i64 t.w6, .slice aS t.S.length cS, .slice aX t.X.length cX, .slice aH t.H.length cH] 29 rfl).below hb0); have hb0' := (belT bel1 hb0); obtain ⟨_, q0, _⟩ := id B0) | (go_at_call 28; (with_reducible refine (c1 _ hb0').mono ?_); rintro e w1 ⟨rfl, hb1⟩; have B1 := (B0.below hb1); have hb1' := (belT hb0' hb1); obtain ⟨_, q1, _⟩ := id B1; clear B0 q0) | (go_at_call 29; (with_reducible refine (c2 _ hb1').mono ?_); rintro e w2 ⟨rfl, hb2⟩; have B2 := (B1.below hb2); have hb2' := (belT hb1' hb2); obtain ⟨_, q2, _⟩ := id B2; clear B1 q1) | (go_at_call 30; (with_reducible refine (c3 _ hb2').mono ?_); rintro e w3 ⟨rfl, hb3⟩; have B3 := (B2.below hb3); have hb3' := (belT hb2' hb3); obtain ⟨_, q3, _⟩ := id B3; clear B2 q2) | (go_at_call 31; (with_reducible refine (c4 _ hb3').mono ?_); rintro e w4 ⟨rfl, hb4⟩; have B4 := (B3.below hb4); have hb4' := (belT hb3' hb4); obtain ⟨_, q4, _⟩ := id B4; clear B3 q3) | (go_at_call 32; (with_reducible refine (c5 _ hb4').mono ?_); rintro e w5 ⟨rfl, hb5⟩; have B5 := (B4.below hb5); have hb5' := (belT hb4' hb5); obtain ⟨_, q5, _⟩ := id B5; clear B4 q4) | (go_at_call 33; (with_reducible refine (c6 _ hb5').mono ?_); rintro e w6 ⟨rfl, hb6⟩; have B6 := (B5.below hb6); have hb6' := (belT hb5' hb6); obtain ⟨_, q6, _⟩ := id B6; clear B5 q5) | (go_at_call 34; (with_reducible refine (c7 _ hb6').mono ?_); rintro e w7 ⟨rfl, hb7⟩; have B7 := (B6.below hb7); have hb7' := (belT hb6' hb7); obtain ⟨_, q7, _⟩ := id B7; clear B6 q6))
                  go_ret
                  exact ⟨by first | rfl | simp, hb7'⟩
                | true =>
                  go_enter Try.func18, Try.ntmps18
                  go_wp2_with (first | (go_at_call 27; (with_reducible refine (c0 _ bel1).mono ?_); rintro e w0 ⟨rfl, hb0⟩; have B0 := ((Has.new w #[.string t.nm, .slice aD t.D.length cD, .int .i64 t.w0, .int .i64 t.w1, .int .i64 t.w2, .int .i64 t.w3, .int .i64 t.w4, .int .i64 t.w5, .int .i64 t.w6, .slice aS t.S.length cS, .slice aX t.X.length cX, .slice aH t.H.length cH] 29 rfl).below hb0); have hb0' := (belT bel1 hb0); obtain ⟨_, q0, _⟩ := id B0) | (go_at_call 28; (with_reducible refine (c1 _ hb0').mono ?_); rintro e w1 ⟨rfl, hb1⟩; have B1 := (B0.below hb1); have hb1' := (belT hb0' hb1); obtain ⟨_, q1, _⟩ := id B1; clear B0 q0) | (go_at_call 29; (with_reducible refine (c2 _ hb1').mono ?_); rintro e w2 ⟨rfl, hb2⟩; have B2 := (B1.below hb2); have hb2' := (belT hb1' hb2); obtain ⟨_, q2, _⟩ := id B2; clear B1 q1) | (go_at_call 30; (with_reducible refine (c3 _ hb2').mono ?_); rintro e w3 ⟨rfl, hb3⟩; have B3 := (B2.below hb3); have hb3' := (belT hb2' hb3); obtain ⟨_, q3, _⟩ := id B3; clear B2 q2) | (go_at_call 31; (with_reducible refine (c4 _ hb3').mono ?_); rintro e w4 ⟨rfl, hb4⟩; have B4 := (B3.below hb4); have hb4' := (belT hb3' hb4); obtain ⟨_, q4, _⟩ := id B4; clear B3 q3) | (go_at_call 32; (with_reducible refine (c5 _ hb4').mono ?_); rintro e w5 ⟨rfl, hb5⟩; have B5 := (B4.below hb5); have hb5' := (belT hb4' hb5); obtain ⟨_, q5, _⟩ := id B5; clear B4 q4) | (go_at_call 33; (with_reducible refine (c6 _ hb5').mono ?_); rintro e w6 ⟨rfl, hb6⟩; have B6 := (B5.below hb6); have hb6' := (belT hb5' hb6); obtain ⟨_, q6, _⟩ := id B6; clear B5 q5) | (go_at_call 34; (with_reducible refine (c7 _ hb6').mono ?_); rintro e w7 ⟨rfl, hb7⟩; have B7 := (B6.below hb7); have hb7' := (belT hb6' hb7); obtain ⟨_, q7, _⟩ := id B7; clear B6 q6))
                  go_ret
                  exact ⟨by first | rfl | simp, hb7'⟩
end Go.Proofs.Ytddphepgcihdbaa
