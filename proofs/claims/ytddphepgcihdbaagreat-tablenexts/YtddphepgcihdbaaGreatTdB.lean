import Derived.Test.YtddphepgcihdbaaGreatTdM
import Derived.Test.YtddphepgcihdbaaGreatTcH
namespace Go.Proofs.YtddphepgcihdbaaGreat
open Go.RowKit
set_option linter.unusedVariables false
set_option linter.unusedSimpArgs false

set_option maxRecDepth 100000 in
set_option maxHeartbeats 4000000 in
theorem asked_any (n most : Int) (t : Tt) (aD aS aX aH : Option Addr) (cD cS cX cH : Nat) (w : World) (hR : TR w t (.slice aD t.D.length cD) (.slice aS t.S.length cS) (.slice aX t.X.length cX) (.slice aH t.H.length cH)) : Calls Tryz.prog 14 #[.agg #[.string t.nm, .slice aD t.D.length cD, .int .i64 t.w0, .int .i64 t.w1, .int .i64 t.w2, .int .i64 t.w3, .int .i64 t.w4, .int .i64 t.w5, .int .i64 t.w6, .slice aS t.S.length cS, .slice aX t.X.length cX, .slice aH t.H.length cH], .int .i64 n, .int .i64 most] w fun e w' => e = .returned (.int .i64 (erF t n most)) ∧ Below w.heap.size w w' := by
  have c := refSound_any t aD aS aX aH cD cS cX cH _ (hR.below (bel1 (o := .cells #[.string t.nm, .slice aD t.D.length cD, .int .i64 t.w0, .int .i64 t.w1, .int .i64 t.w2, .int .i64 t.w3, .int .i64 t.w4, .int .i64 t.w5, .int .i64 t.w6, .slice aS t.S.length cS, .slice aX t.X.length cX, .slice aH t.H.length cH] 28)))
  clear hR
  by_cases he : t.err = 0
  · have hz : ((0 : Int) == 0) = true := rfl
    rw [he] at c
    by_cases h1 : 0 ≤ n
    · by_cases h2 : n ≤ most
      · have e : erF t n most = 0 := by simp [erF, he, h1, h2]
        rw [e]
        have h1' : ¬ n < 0 := by omega
        have h2' : ¬ most < n := by omega
        clear he e
        go_enter Tryz.func14, Tryz.ntmps14
        go_wp2_with (go_at_call 16; (with_reducible refine c.mono ?_); rintro e w1 ⟨rfl, hb⟩)
        go_ret
        exact ⟨rfl, belT bel1 hb⟩
      · have e : erF t n most = 189 := by simp [erF, he, h2]
        rw [e]
        have h1' : ¬ n < 0 := by omega
        have h2' : most < n := by omega
        clear he e h2
        go_enter Tryz.func14, Tryz.ntmps14
        go_wp2_with (go_at_call 16; (with_reducible refine c.mono ?_); rintro e w1 ⟨rfl, hb⟩)
        go_ret
        exact ⟨rfl, belT bel1 hb⟩
    · have e : erF t n most = 189 := by simp [erF, he, h1]
      rw [e]
      have h1' : n < 0 := by omega
      clear he e h1
      go_enter Tryz.func14, Tryz.ntmps14
      go_wp2_with (go_at_call 16; (with_reducible refine c.mono ?_); rintro e w1 ⟨rfl, hb⟩)
      go_ret
      exact ⟨rfl, belT bel1 hb⟩
  · have e : erF t n most = t.err := by simp [erF, he]
    rw [e]
    clear e
    generalize t.err = E at *
    have h1 : (E == 0) = false := beq_eq_false_iff_ne.2 he
    have h2 : (E != 0) = true := by simp [bne, h1]
    clear he
    go_enter Tryz.func14, Tryz.ntmps14
    go_wp2_with (go_at_call 16; (with_reducible refine c.mono ?_); rintro e w1 ⟨rfl, hb⟩)
    go_ret
    exact ⟨rfl, belT bel1 hb⟩
end Go.Proofs.YtddphepgcihdbaaGreat
