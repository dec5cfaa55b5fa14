import Derived.Test.YtjocedfdpigjcaaTeF
import Derived.Test.YtjocedfdpigjcaaTdI
namespace Go.Proofs.Ytjocedfdpigjcaa
open Go.RowKit
set_option linter.unusedVariables false
set_option linter.unusedSimpArgs false

set_option maxRecDepth 100000 in
set_option maxHeartbeats 4000000 in
theorem ats_law (m d : Int) (t : Tt) (aD aS aX aH : Option Addr) (cD cS cX cH : Nat) (w : World) (hR : TR w t (.slice aD t.D.length cD) (.slice aS t.S.length cS) (.slice aX t.X.length cX) (.slice aH t.H.length cH)) : Calls Try.prog 4 #[.agg #[.string t.nm, .slice aD t.D.length cD, .int .i64 t.w0, .int .i64 t.w1, .int .i64 t.w2, .int .i64 t.w3, .int .i64 t.w4, .int .i64 t.w5, .int .i64 t.w6, .slice aS t.S.length cS, .slice aX t.X.length cX, .slice aH t.H.length cH], .int .i64 m, .int .i64 d] w fun e w' => e = .returned (.bool true) ∧ Below w.heap.size w w' := by
  go_enter Try.func4, Try.ntmps4
  go_wp2_with fail
  have HY : Has (w.alloc (.cells #[.string t.nm, .slice aD t.D.length cD, .int .i64 t.w0, .int .i64 t.w1, .int .i64 t.w2, .int .i64 t.w3, .int .i64 t.w4, .int .i64 t.w5, .int .i64 t.w6, .slice aS t.S.length cS, .slice aX t.X.length cX, .slice aH t.H.length cH] 29)) w.heap.size #[.string t.nm, .slice aD t.D.length cD, .int .i64 t.w0, .int .i64 t.w1, .int .i64 t.w2, .int .i64 t.w3, .int .i64 t.w4, .int .i64 t.w5, .int .i64 t.w6, .slice aS t.S.length cS, .slice aX t.X.length cX, .slice aH t.H.length cH] := Has.new _ _ _ rfl
  have HB : Below w.heap.size w (w.alloc (.cells #[.string t.nm, .slice aD t.D.length cD, .int .i64 t.w0, .int .i64 t.w1, .int .i64 t.w2, .int .i64 t.w3, .int .i64 t.w4, .int .i64 t.w5, .int .i64 t.w6, .slice aS t.S.length cS, .slice aX t.X.length cX, .slice aH t.H.length cH] 29)) := bel1
  have hR1 := hR.below HB
  generalize (w.alloc (.cells #[.string t.nm, .slice aD t.D.length cD, .int .i64 t.w0, .int .i64 t.w1, .int .i64 t.w2, .int .i64 t.w3, .int .i64 t.w4, .int .i64 t.w5, .int .i64 t.w6, .slice aS t.S.length cS, .slice aX t.X.length cX, .slice aH t.H.length cH] 29)) = Y at *
  clear hR
  go_at_call 8
  refine (roomy_any t aD aS aX aH cD cS cX cH Y hR1).mono ?_
  rintro e w1 ⟨Ls, g8, cap8, ra, rcp, gS, capS, gX, capX, gH, capH, rfl, hL, q1, q2, q3, q4, hG⟩
  have hlD : (rmT t Ls).D.length = t.D.length := by show (Ls.map Rm.dk).length = _; rw [← hL]; simp
  have hT : ∀ W', Below w1.heap.size w1 W' → TR W' (rmT t Ls) (.slice (some ⟨g8, 0, none⟩) (rmT t Ls).D.length cap8) (.slice (some ⟨gS, 0, none⟩) t.S.length capS) (.slice (some ⟨gX, 0, none⟩) t.X.length capX) (.slice (some ⟨gH, 0, none⟩) t.H.length capH) := fun W' hb => room_tr hR1 hL q1 q2 q3 q4 (hG.below hb)
  have hR2 : ∀ W', Below w1.heap.size w1 W' → TR W' t (.slice aD t.D.length cD) (.slice aS t.S.length cS) (.slice aX t.X.length cX) (.slice aH t.H.length cH) := fun W' hb => hR1.below (belT hG.hb hb)
  have c9 : ∀ W', Below w1.heap.size w1 W' → Calls Try.prog 9 #[.agg #[.string t.nm, .slice (some ⟨g8, 0, none⟩) t.D.length cap8, .int .i64 t.w0, .int .i64 t.w1, .int .i64 t.w2, .int .i64 t.w3, .int .i64 t.w4, .int .i64 t.w5, .int .i64 t.w6, .slice (some ⟨gS, 0, none⟩) t.S.length capS, .slice (some ⟨gX, 0, none⟩) t.X.length capX, .slice (some ⟨gH, 0, none⟩) t.H.length capH], .int .i64 m] W' fun e w' => e = .returned (.tuple #[.int .i64 (loA t m), .int .i64 (erF t m 210379679)]) ∧ Below W'.heap.size W' w' := by
    intro W' hb
    have h9 := local_any m (rmT t Ls) (some ⟨g8, 0, none⟩) (some ⟨gS, 0, none⟩) (some ⟨gX, 0, none⟩) (some ⟨gH, 0, none⟩) cap8 capS capX capH W' (hT W' hb)
    rw [rm_lo hL, rm_er hL, hlD] at h9
    exact h9
  have c11 : ∀ W', Below w1.heap.size w1 W' → Calls Try.prog 11 #[.agg #[.string t.nm, .slice (some ⟨g8, 0, none⟩) t.D.length cap8, .int .i64 t.w0, .int .i64 t.w1, .int .i64 t.w2, .int .i64 t.w3, .int .i64 t.w4, .int .i64 t.w5, .int .i64 t.w6, .slice (some ⟨gS, 0, none⟩) t.S.length capS, .slice (some ⟨gX, 0, none⟩) t.X.length capX, .slice (some ⟨gH, 0, none⟩) t.H.length capH], .int .i64 d] W' fun e w' => e = .returned (.tuple #[.int .i64 (knA t d), .int .i64 (erF t d 146096)]) ∧ Below W'.heap.size W' w' := by
    intro W' hb
    have h9 := kindOfT_any d (rmT t Ls) (some ⟨g8, 0, none⟩) (some ⟨gS, 0, none⟩) (some ⟨gX, 0, none⟩) (some ⟨gH, 0, none⟩) cap8 capS capX capH W' (hT W' hb)
    rw [rm_ka hL, rm_er hL, hlD] at h9
    exact h9
  have c7 : ∀ W', Below w1.heap.size w1 W' → Calls Try.prog 7 #[.agg #[.string t.nm, .slice (some ⟨g8, 0, none⟩) t.D.length cap8, .int .i64 t.w0, .int .i64 t.w1, .int .i64 t.w2, .int .i64 t.w3, .int .i64 t.w4, .int .i64 t.w5, .int .i64 t.w6, .slice (some ⟨gS, 0, none⟩) t.S.length capS, .slice (some ⟨gX, 0, none⟩) t.X.length capX, .slice (some ⟨gH, 0, none⟩) t.H.length capH], .int .i64 m] W' fun e w' => e = .returned (.tuple #[.int .i64 (atA t m), .int .i64 (erF t m 210379679)]) ∧ Below W'.heap.size W' w' := by
    intro W' hb
    have h9 := at_any m (rmT t Ls) (some ⟨g8, 0, none⟩) (some ⟨gS, 0, none⟩) (some ⟨gX, 0, none⟩) (some ⟨gH, 0, none⟩) cap8 capS capX capH W' (hT W' hb)
    rw [rm_at hL, rm_er hL, hlD] at h9
    exact h9
  have c10 := fun W' (hb : Below w1.heap.size w1 W') => refLocalT_any m t aD aS aX aH cD cS cX cH W' (hR2 W' hb)
  have c12 := fun W' (hb : Below w1.heap.size w1 W') => refKindT_any d t aD aS aX aH cD cS cX cH W' (hR2 W' hb)
  have c13 := fun W' (hb : Below w1.heap.size w1 W') => refAt_any m t aD aS aX aH cD cS cX cH W' (hR2 W' hb)
  have c14 := fun W' (hb : Below w1.heap.size w1 W') => whole_any t aD aS aX aH cD cS cX cH Y W' (hR2 W' hb) hL q1 q2 q3 q4 (hG.below hb)
  have B0 := HY.below hG.hb
  have R0 := hG.room
  have hz0 := Below.refl w1.heap.size w1
  have hb0 : Below w.heap.size w w1 := belT HB hG.hb
  clear hT hR2 hG HY hR1 hlD
  generalize loA t m = a1 at *
  generalize knA t d = a2 at *
  generalize atA t m = a3 at *
  generalize erF t m 210379679 = b1 at *
  generalize erF t d 146096 = b2 at *
  obtain ⟨_, bq0, _⟩ := id B0
  obtain ⟨_, rq0, _⟩ := id R0
  go_wp2_with fail
  go_at_call 9
  refine (c9 _ hz0).mono ?_
  rintro e v1 ⟨rfl, hb1⟩
  have B1 := B0.below hb1
  have R1 := R0.below hb1
  have hz1 := belT hz0 hb1
  clear bq0 rq0 B0 R0
  obtain ⟨_, bq1, _⟩ := id B1
  obtain ⟨_, rq1, _⟩ := id R1
  go_wp2_with fail
  go_at_call 10
  refine (c10 _ hz1).mono ?_
  rintro e v2 ⟨rfl, hb2⟩
  have B2 := B1.below hb2
  have R2 := R1.below hb2
  have hz2 := belT hz1 hb2
  clear bq1 rq1 B1 R1
  obtain ⟨_, bq2, _⟩ := id B2
  obtain ⟨_, rq2, _⟩ := id R2
  go_wp2_with fail
  go_at_call 11
  refine (c11 _ hz2).mono ?_
  rintro e v3 ⟨rfl, hb3⟩
  have B3 := B2.below hb3
  have R3 := R2.below hb3
  have hz3 := belT hz2 hb3
  clear bq2 rq2 B2 R2
  obtain ⟨_, bq3, _⟩ := id B3
  obtain ⟨_, rq3, _⟩ := id R3
  go_wp2_with fail
  go_at_call 12
  refine (c12 _ hz3).mono ?_
  rintro e v4 ⟨rfl, hb4⟩
  have B4 := B3.below hb4
  have R4 := R3.below hb4
  have hz4 := belT hz3 hb4
  clear bq3 rq3 B3 R3
  obtain ⟨_, bq4, _⟩ := id B4
  obtain ⟨_, rq4, _⟩ := id R4
  go_wp2_with fail
  go_at_call 7
  refine (c7 _ hz4).mono ?_
  rintro e v5 ⟨rfl, hb5⟩
  have B5 := B4.below hb5
  have R5 := R4.below hb5
  have hz5 := belT hz4 hb5
  clear bq4 rq4 B4 R4
  obtain ⟨_, bq5, _⟩ := id B5
  obtain ⟨_, rq5, _⟩ := id R5
  go_wp2_with fail
  go_at_call 13
  refine (c13 _ hz5).mono ?_
  rintro e v6 ⟨rfl, hb6⟩
  have B6 := B5.below hb6
  have R6 := R5.below hb6
  have hz6 := belT hz5 hb6
  clear bq5 rq5 B5 R5
  obtain ⟨_, bq, _⟩ := id B6
  obtain ⟨_, rq, _⟩ := id R6
  go_wp2_with fail
  go_at_call 14
  refine (c14 _ hz6).mono ?_
  rintro e v7 ⟨rfl, hb7⟩
  go_wp2_with fail
  go_ret
  exact ⟨by first | rfl | simp, belT hb0 (belT hz6 hb7)⟩
end Go.Proofs.Ytjocedfdpigjcaa
