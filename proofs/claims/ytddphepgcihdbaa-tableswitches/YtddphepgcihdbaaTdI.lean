import Derived.Test.YtddphepgcihdbaaTdF
namespace Go.Proofs.Ytddphepgcihdbaa
open Go.RowKit
set_option linter.unusedVariables false
set_option linter.unusedSimpArgs false

theorem er_zero {t : Tt} {n most : Int} (h : erF t n most = 0) : t.err = 0 ∧ 0 ≤ n ∧ n ≤ most := by
  unfold erF at h
  split at h
  · rename_i h0
    split at h
    · rename_i h1; exact ⟨h0, h1⟩
    · omega
  · rename_i h0; exact absurd h h0
def loA (t : Tt) (m : Int) : Int := if erF t m 210379679 = 0 then loF m (plG m t.H) else 0
def knA (t : Tt) (d : Int) : Int := if erF t d 146096 = 0 then knF t d else 0
def atA (t : Tt) (m : Int) : Int := if erF t m 210379679 = 0 then slF t m else 0
theorem ret_ii {a b c d : Int} (h : a = b) (h2 : c = d) : Ending.returned (.tuple #[.int .i64 a, .int .i64 c]) = .returned (.tuple #[.int .i64 b, .int .i64 d]) := by rw [h, h2]
set_option maxRecDepth 100000 in
set_option maxHeartbeats 4000000 in
theorem at_any (n : Int) (t : Tt) (aD aS aX aH : Option Addr) (cD cS cX cH : Nat) (w : World) (hR : TR w t (.slice aD t.D.length cD) (.slice aS t.S.length cS) (.slice aX t.X.length cX) (.slice aH t.H.length cH)) : Calls Try.prog 7 #[.agg #[.string t.nm, .slice aD t.D.length cD, .int .i64 t.w0, .int .i64 t.w1, .int .i64 t.w2, .int .i64 t.w3, .int .i64 t.w4, .int .i64 t.w5, .int .i64 t.w6, .slice aS t.S.length cS, .slice aX t.X.length cX, .slice aH t.H.length cH], .int .i64 n] w fun e w' => e = .returned (.tuple #[.int .i64 (atA t n), .int .i64 (erF t n 210379679)]) ∧ Below w.heap.size w w' := by
  have cr := refusal_any n 210379679 t aD aS aX aH cD cS cX cH _ (hR.below (bel1 (o := .cells #[.string t.nm, .slice aD t.D.length cD, .int .i64 t.w0, .int .i64 t.w1, .int .i64 t.w2, .int .i64 t.w3, .int .i64 t.w4, .int .i64 t.w5, .int .i64 t.w6, .slice aS t.S.length cS, .slice aX t.X.length cX, .slice aH t.H.length cH] 29)))
  by_cases he : erF t n 210379679 = 0
  · have h1 : atA t n = slF t n := by simp only [atA, if_pos he]
    obtain ⟨h2, h3, h4⟩ := er_zero he
    obtain ⟨_, _, e3, _, e5, _, e7, _⟩ := err_zero h2
    have c1 := fun W (hb : Below w.heap.size w W) => slotAt_any n h3 h4 t aD aS aX aH cD cS cX cH W (hR.below hb) h2
    rw [h1, he]
    rw [he] at cr
    clear h1 he hR h2 e3 e5 e7
    generalize slF t n = V at *
    go_enter Try.func7, Try.ntmps7
    go_wp2_with (first | (go_at_call 24; (with_reducible refine cr.mono ?_); rintro e w1 ⟨rfl, hb0⟩; have B0 := ((Has.new w #[.string t.nm, .slice aD t.D.length cD, .int .i64 t.w0, .int .i64 t.w1, .int .i64 t.w2, .int .i64 t.w3, .int .i64 t.w4, .int .i64 t.w5, .int .i64 t.w6, .slice aS t.S.length cS, .slice aX t.X.length cX, .slice aH t.H.length cH] 29 rfl).below hb0); have hbb0 := belT bel1 hb0; obtain ⟨_, q0, _⟩ := id B0) | (go_at_call 22; (with_reducible refine (c1 _ hbb0).mono ?_); rintro e w2 ⟨rfl, hb1⟩; have hbb1 := belT hbb0 hb1))
    go_ret2
    exact ⟨rfl, hbb1⟩
  · have h1 : atA t n = 0 := by simp only [atA, if_neg he]
    rw [h1]
    clear h1 hR
    generalize erF t n 210379679 = E at *
    have hz : (E != 0) = true := by simp [bne, he]
    clear he
    go_enter Try.func7, Try.ntmps7
    go_wp2_with (go_at_call 24; (with_reducible refine cr.mono ?_); rintro e w1 ⟨rfl, hb0⟩)
    go_ret2
    exact ⟨rfl, belT bel1 hb0⟩
end Go.Proofs.Ytddphepgcihdbaa
