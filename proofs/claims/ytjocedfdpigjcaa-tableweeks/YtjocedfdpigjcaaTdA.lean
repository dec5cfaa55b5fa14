import Derived.Test.YtjocedfdpigjcaaTdM
import Derived.Test.YtjocedfdpigjcaaTbH
namespace Go.Proofs.Ytjocedfdpigjcaa
open Go.RowKit
set_option linter.unusedVariables false
set_option linter.unusedSimpArgs false

set_option maxRecDepth 100000 in
set_option maxHeartbeats 4000000 in
theorem plusAt_any (L : List Sh) (a : Option Addr) (c : Nat) (m : Int) (w : World) (hL : L = [] ∨ ∃ g o, a = some ⟨g, o, none⟩ ∧ g < w.heap.size ∧ ∀ (i : Nat) (h : i < L.length) (j : Nat) (u : Value), (Sh.cs L[i])[j]? = some u → w.cell? ⟨g, o + i * 2 + j, none⟩ = some u) (hl : L.length ≤ 8796093021952) :
    Calls Try.prog 26 #[.slice a L.length c, .int .i64 m] w fun e w' => e = .returned (.int .i64 (plG m L)) ∧ Below w.heap.size w w' := by
  have hfin := pl_end m L
  generalize plG m L = R at *
  have hfin' : Hid (plG m (L.take L.length) = R) := hfin
  clear hfin
  go_enter Try.func26, Try.ntmps26
  go_wp2
  go_loopg [5, 7, 10] L.length (fun gk s5 s7 s10 wr => ∃ (k : Nat) (p : Int), k + gk = L.length ∧ s10 = .int .i64 (k : Int) ∧ s5 = .int .i64 p ∧ Hid (p = plG m (L.take k)) ∧ Below w.heap.size w wr)
  case atStart => exact ⟨0, _, by omega, rfl, rfl, rfl, Below.refl _ _⟩
  case round =>
    obtain ⟨k, p, hk, rfl, rfl, hA, hb⟩ := hrel
    by_cases hlt : k < L.length
    · obtain ⟨g, o, rfl, hg, P⟩ := hL.resolve_left (by intro e; rw [e] at hlt; simp at hlt)
      have p0 := (hb.cell (p := ⟨g, _, none⟩) hg).trans (P k hlt 0 _ rfl)
      have p1 := (hb.cell (p := ⟨g, _, none⟩) hg).trans (P k hlt 1 _ rfl)
      simp only [Nat.add_zero] at p0
      have t1 : (k : Int) < (L.length : Int) := by omega
      have t0 : (0 : Int) ≤ (k : Int) := by omega
      have hs := pl_step m L k hlt
      have hE : Hid (plG m (L.take (k + 1)) = if L[k].m ≤ m then L[k].plus else p) := by show _ = _; rw [hs, hA.out]
      clear hs hA P hL
      generalize L[k].m = y0 at *
      generalize L[k].plus = y1 at *
      by_cases hc : y0 ≤ m
      · have hE2 : Hid (y1 = plG m (L.take (k + 1))) := by show _ = _; rw [hE.out, if_pos hc]
        go_wp2
        go_roundg (gk - 1)
        case measure => go_light; omega
        case rel => exact ⟨k + 1, _, by omega, by go_num, rfl, hE2, belT hb bel1⟩
      · have hE2 : Hid (p = plG m (L.take (k + 1))) := by show _ = _; rw [hE.out, if_neg hc]
        go_wp2
        go_roundg (gk - 1)
        case measure => go_light; omega
        case rel => exact ⟨k + 1, _, by omega, by go_num, rfl, hE2, belT hb bel1⟩
    · obtain rfl : k = L.length := by omega
      have t1 : ¬ (L.length : Int) < (L.length : Int) := by omega
      have hE2 : Hid (p = R) := by show _ = _; rw [hA.out, hfin'.out]
      clear hL hA
      go_wp2
      go_ret
      exact ⟨ret_int hE2.out, hb⟩
set_option maxRecDepth 100000 in
set_option maxHeartbeats 4000000 in
theorem localOf_any (m p : Int) (w : World) (h0 : 0 ≤ m) (h1 : m ≤ 210379679) (h2 : -720 ≤ p) (h3 : p ≤ 840) : Calls Try.prog 25 #[.int .i64 m, .int .i64 p] w fun e w' => e = .returned (.int .i64 (loF m p)) ∧ w = w' := by
  have hE : loF m p = if m + p < 0 then 0 else if 210379679 < m + p then 210379679 else m + p := by unfold loF; split <;> (try split) <;> omega
  rw [hE]
  clear hE
  by_cases a : m + p < 0
  · rw [if_pos a]
    go_enter Try.func25, Try.ntmps25
    go_wp2
    all_goals first | (exfalso; omega) | (go_ret; exact ⟨ret_int (by first | rfl | omega), rfl⟩)
  · rw [if_neg a]
    by_cases b : 210379679 < m + p
    · rw [if_pos b]
      go_enter Try.func25, Try.ntmps25
      go_wp2
      all_goals first | (exfalso; omega) | (go_ret; exact ⟨ret_int (by first | rfl | omega), rfl⟩)
    · rw [if_neg b]
      go_enter Try.func25, Try.ntmps25
      go_wp2
      all_goals first | (exfalso; omega) | (go_ret; exact ⟨ret_int (by first | rfl | omega), rfl⟩)
set_option maxRecDepth 100000 in
set_option maxHeartbeats 4000000 in
theorem weekday_any (n : Int) (w : World) (h0 : 0 ≤ n) (h1 : n ≤ 146096) : Calls Try.prog 38 #[.int .i64 n] w fun e w' => e = .returned (.int .i64 ((n + 5) % 7)) ∧ w = w' := by
  go_enter Try.func38, Try.ntmps38
  go_wp2
  go_ret
  exact ⟨rfl, rfl⟩
set_option maxRecDepth 100000 in
set_option maxHeartbeats 4000000 in
theorem refusal_any (n most : Int) (t : Tt) (aD aS aX aH : Option Addr) (cD cS cX cH : Nat) (w : World) (hR : TR w t (.slice aD t.D.length cD) (.slice aS t.S.length cS) (.slice aX t.X.length cX) (.slice aH t.H.length cH)) : Calls Try.prog 23 #[.agg #[.string t.nm, .slice aD t.D.length cD, .int .i64 t.w0, .int .i64 t.w1, .int .i64 t.w2, .int .i64 t.w3, .int .i64 t.w4, .int .i64 t.w5, .int .i64 t.w6, .slice aS t.S.length cS, .slice aX t.X.length cX, .slice aH t.H.length cH], .int .i64 n, .int .i64 most] w fun e w' => e = .returned (.int .i64 (erF t n most)) ∧ Below w.heap.size w w' := by
  have c := sound_any t aD aS aX aH cD cS cX cH _ (hR.below (bel1 (o := .cells #[.string t.nm, .slice aD t.D.length cD, .int .i64 t.w0, .int .i64 t.w1, .int .i64 t.w2, .int .i64 t.w3, .int .i64 t.w4, .int .i64 t.w5, .int .i64 t.w6, .slice aS t.S.length cS, .slice aX t.X.length cX, .slice aH t.H.length cH] 29)))
  clear hR
  by_cases he : t.err = 0
  · have hz : ((0 : Int) == 0) = true := rfl
    rw [he] at c
    by_cases h1 : 0 ≤ n
    · by_cases h2 : n ≤ most
      · have e : erF t n most = 0 := by simp [erF, he, h1, h2]
        rw [e]
        have h1' : ¬ n < 0 := by omega
        have h2' : ¬ most < n := by omega
        clear he e
        go_enter Try.func23, Try.ntmps23
        go_wp2_with (go_at_call 35; (with_reducible refine c.mono ?_); rintro e w1 ⟨rfl, hb⟩)
        go_ret
        exact ⟨rfl, belT bel1 hb⟩
      · have e : erF t n most = 189 := by simp [erF, he, h2]
        rw [e]
        have h1' : ¬ n < 0 := by omega
        have h2' : most < n := by omega
        clear he e h2
        go_enter Try.func23, Try.ntmps23
        go_wp2_with (go_at_call 35; (with_reducible refine c.mono ?_); rintro e w1 ⟨rfl, hb⟩)
        go_ret
        exact ⟨rfl, belT bel1 hb⟩
    · have e : erF t n most = 189 := by simp [erF, he, h1]
      rw [e]
      have h1' : n < 0 := by omega
      clear he e h1
      go_enter Try.func23, Try.ntmps23
      go_wp2_with (go_at_call 35; (with_reducible refine c.mono ?_); rintro e w1 ⟨rfl, hb⟩)
      go_ret
      exact ⟨rfl, belT bel1 hb⟩
  · have e : erF t n most = t.err := by simp [erF, he]
    rw [e]
    clear e
    generalize t.err = E at *
    have h1 : (E == 0) = false := beq_eq_false_iff_ne.2 he
    have h2 : (E != 0) = true := by simp [bne, h1]
    clear he
    go_enter Try.func23, Try.ntmps23
    go_wp2_with (go_at_call 35; (with_reducible refine c.mono ?_); rintro e w1 ⟨rfl, hb⟩)
    go_ret
    exact ⟨rfl, belT bel1 hb⟩
end Go.Proofs.Ytjocedfdpigjcaa
