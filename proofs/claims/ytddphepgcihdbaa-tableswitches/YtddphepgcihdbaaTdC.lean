import Derived.Test.YtddphepgcihdbaaTdM
import Derived.Test.YtddphepgcihdbaaTbH
namespace Go.Proofs.Ytddphepgcihdbaa
open Go.RowKit
set_option linter.unusedVariables false
set_option linter.unusedSimpArgs false

set_option maxRecDepth 100000 in
set_option maxHeartbeats 4000000 in
theorem plusAt_any (L : List Sh) (a : Option Addr) (c : Nat) (m : Int) (w : World) (hL : L = [] ∨ ∃ g o, a = some ⟨g, o, none⟩ ∧ g < w.heap.size ∧ ∀ (i : Nat) (h : i < L.length) (j : Nat) (u : Value), (Sh.cs L[i])[j]? = some u → w.cell? ⟨g, o + i * 2 + j, none⟩ = some u) (hl : L.length ≤ 8796093021952) :
    Calls Try.prog 41 #[.slice a L.length c, .int .i64 m] w fun e w' => e = .returned (.int .i64 (plG m L)) ∧ Below w.heap.size w w' := by
  have hfin := pl_end m L
  generalize plG m L = R at *
  have hfin' : Hid (plG m (L.take L.length) = R) := hfin
  clear hfin
  go_enter Try.func41, Try.ntmps41
  go_wp2
  go_loopg [5, 7, 10] L.length (fun gk s5 s7 s10 wr => ∃ (k : Nat) (p : Int), k + gk = L.length ∧ s10 = .int .i64 (k : Int) ∧ s5 = .int .i64 p ∧ Hid (p = plG m (L.take k)) ∧ Below w.heap.size w wr)
  case atStart => exact ⟨0, _, by omega, rfl, rfl, rfl, Below.refl _ _⟩
  case round =>
    obtain ⟨k, p, hk, rfl, rfl, hA, hb⟩ := hrel
    by_cases hlt : k < L.length
    · obtain ⟨g, o, rfl, hg, P⟩ := hL.resolve_left (by intro e; rw [e] at hlt; simp at hlt)
      have p0 := (hb.cell (p := ⟨g, _, none⟩) hg).trans (P k hlt 0 _ rfl)
      have p1 := (hb.cell (p := ⟨g, _, none⟩) hg).trans (P k hlt 1 _ rfl)
      simp only [Nat.add_zero] at p0
      have t1 : (k : Int) < (L.length : Int) := by omega
      have t0 : (0 : Int) ≤ (k : Int) := by omega
      have hs := pl_step m L k hlt
      have hE : Hid (plG m (L.take (k + 1)) = if L[k].m ≤ m then L[k].plus else p) := by show _ = _; rw [hs, hA.out]
      clear hs hA P hL
      generalize L[k].m = y0 at *
      generalize L[k].plus = y1 at *
      by_cases hc : y0 ≤ m
      · have hE2 : Hid (y1 = plG m (L.take (k + 1))) := by show _ = _; rw [hE.out, if_pos hc]
        go_wp2
        go_roundg (gk - 1)
        case measure => go_light; omega
        case rel => exact ⟨k + 1, _, by omega, by go_num, rfl, hE2, belT hb bel1⟩
      · have hE2 : Hid (p = plG m (L.take (k + 1))) := by show _ = _; rw [hE.out, if_neg hc]
        go_wp2
        go_roundg (gk - 1)
        case measure => go_light; omega
        case rel => exact ⟨k + 1, _, by omega, by go_num, rfl, hE2, belT hb bel1⟩
    · obtain rfl : k = L.length := by omega
      have t1 : ¬ (L.length : Int) < (L.length : Int) := by omega
      have hE2 : Hid (p = R) := by show _ = _; rw [hA.out, hfin'.out]
      clear hL hA
      go_wp2
      go_ret
      exact ⟨ret_int hE2.out, hb⟩
set_option maxRecDepth 100000 in
set_option maxHeartbeats 4000000 in
theorem localOf_any (m p : Int) (w : World) (h0 : 0 ≤ m) (h1 : m ≤ 210379679) (h2 : -720 ≤ p) (h3 : p ≤ 840) : Calls Try.prog 40 #[.int .i64 m, .int .i64 p] w fun e w' => e = .returned (.int .i64 (loF m p)) ∧ w = w' := by
  have hE : loF m p = if m + p < 0 then 0 else if 210379679 < m + p then 210379679 else m + p := by unfold loF; split <;> (try split) <;> omega
  rw [hE]
  clear hE
  by_cases a : m + p < 0
  · rw [if_pos a]
    go_enter Try.func40, Try.ntmps40
    go_wp2
    all_goals first | (exfalso; omega) | (go_ret; exact ⟨ret_int (by first | rfl | omega), rfl⟩)
  · rw [if_neg a]
    by_cases b : 210379679 < m + p
    · rw [if_pos b]
      go_enter Try.func40, Try.ntmps40
      go_wp2
      all_goals first | (exfalso; omega) | (go_ret; exact ⟨ret_int (by first | rfl | omega), rfl⟩)
    · rw [if_neg b]
      go_enter Try.func40, Try.ntmps40
      go_wp2
      all_goals first | (exfalso; omega) | (go_ret; exact ⟨ret_int (by first | rfl | omega), rfl⟩)
set_option maxRecDepth 100000 in
set_option maxHeartbeats 4000000 in
theorem weekday_any (n : Int) (w : World) (h0 : 0 ≤ n) (h1 : n ≤ 146096) : Calls Try.prog 93 #[.int .i64 n] w fun e w' => e = .returned (.int .i64 ((n + 5) % 7)) ∧ w = w' := by
  go_enter Try.func93, Try.ntmps93
  go_wp2
  go_ret
  exact ⟨rfl, rfl⟩
set_option maxRecDepth 100000 in
set_option maxHeartbeats 4000000 in
theorem refusal_any (n most : Int) (t : Tt) (aD aS aX aH : Option Addr) (cD cS cX cH : Nat) (w : World) (hR : TR w t (.slice aD t.D.length cD) (.slice aS t.S.length cS) (.slice aX t.X.length cX) (.slice aH t.H.length cH)) : Calls Try.prog 24 #[.agg #[.string t.nm, .slice aD t.D.length cD, .int .i64 t.w0, .int .i64 t.w1, .int .i64 t.w2, .int .i64 t.w3, .int .i64 t.w4, .int .i64 t.w5, .int .i64 t.w6, .slice aS t.S.length cS, .slice aX t.X.length cX, .slice aH t.H.length cH], .int .i64 n, .int .i64 most] w fun e w' => e = .returned (.int .i64 (erF t n most)) ∧ Below w.heap.size w w' := by
  have c := sound_any t aD aS aX aH cD cS cX cH _ (hR.below (bel1 (o := .cells #[.string t.nm, .slice aD t.D.length cD, .int .i64 t.w0, .int .i64 t.w1, .int .i64 t.w2, .int .i64 t.w3, .int .i64 t.w4, .int .i64 t.w5, .int .i64 t.w6, .slice aS t.S.length cS, .slice aX t.X.length cX, .slice aH t.H.length cH] 29)))
  clear hR
  by_cases he : t.err = 0
  · have hz : ((0 : Int) == 0) = true := rfl
    rw [he] at c
    by_cases h1 : 0 ≤ n
    · by_cases h2 : n ≤ most
      · have e : erF t n most = 0 := by simp [erF, he, h1, h2]
        rw [e]
        have h1' : ¬ n < 0 := by omega
        have h2' : ¬ most < n := by omega
        clear he e
        go_enter Try.func24, Try.ntmps24
        go_wp2_with (go_at_call 18; (with_reducible refine c.mono ?_); rintro e w1 ⟨rfl, hb⟩)
        go_ret
        exact ⟨rfl, belT bel1 hb⟩
      · have e : erF t n most = 189 := by simp [erF, he, h2]
        rw [e]
        have h1' : ¬ n < 0 := by omega
        have h2' : most < n := by omega
        clear he e h2
        go_enter Try.func24, Try.ntmps24
        go_wp2_with (go_at_call 18; (with_reducible refine c.mono ?_); rintro e w1 ⟨rfl, hb⟩)
        go_ret
        exact ⟨rfl, belT bel1 hb⟩
    · have e : erF t n most = 189 := by simp [erF, he, h1]
      rw [e]
      have h1' : n < 0 := by omega
      clear he e h1
      go_enter Try.func24, Try.ntmps24
      go_wp2_with (go_at_call 18; (with_reducible refine c.mono ?_); rintro e w1 ⟨rfl, hb⟩)
      go_ret
      exact ⟨rfl, belT bel1 hb⟩
  · have e : erF t n most = t.err := by simp [erF, he]
    rw [e]
    clear e
    generalize t.err = E at *
    have h1 : (E == 0) = false := beq_eq_false_iff_ne.2 he
    have h2 : (E != 0) = true := by simp [bne, h1]
    clear he
    go_enter Try.func24, Try.ntmps24
    go_wp2_with (go_at_call 18; (with_reducible refine c.mono ?_); rintro e w1 ⟨rfl, hb⟩)
    go_ret
    exact ⟨rfl, belT bel1 hb⟩
set_option maxRecDepth 100000 in
set_option maxHeartbeats 4000000 in
theorem has_set7 {w : World} {b : Nat} {x0 x1 x2 x3 x4 x5 x6 : Value} (h : Has w b #[x0, x1, x2, x3, x4, x5, x6]) (y0 y1 y2 y3 y4 y5 y6 : Value) :
    Has (((((((w.setCell ⟨b, 0, none⟩ y0).setCell ⟨b, 1, none⟩ y1).setCell ⟨b, 2, none⟩ y2).setCell ⟨b, 3, none⟩ y3).setCell ⟨b, 4, none⟩ y4).setCell ⟨b, 5, none⟩ y5).setCell ⟨b, 6, none⟩ y6) b #[y0, y1, y2, y3, y4, y5, y6] := by
  have := ((((((h.set 0 (by simp) y0).set 1 (by simp) y1).set 2 (by simp) y2).set 3 (by simp) y3).set 4 (by simp) y4).set 5 (by simp) y5).set 6 (by simp) y6
  simpa using this
theorem bel7 {B b : Nat} {a w : World} (h : Below B a w) (hb : B ≤ b) (y0 y1 y2 y3 y4 y5 y6 : Value) :
    Below B a (((((((w.setCell ⟨b, 0, none⟩ y0).setCell ⟨b, 1, none⟩ y1).setCell ⟨b, 2, none⟩ y2).setCell ⟨b, 3, none⟩ y3).setCell ⟨b, 4, none⟩ y4).setCell ⟨b, 5, none⟩ y5).setCell ⟨b, 6, none⟩ y6) :=
  ((((((h.setCell hb _).setCell hb _).setCell hb _).setCell hb _).setCell hb _).setCell hb _).setCell hb _
theorem has7_at {w : World} {b n : Nat} {x0 x1 x2 x3 x4 x5 x6 : Int} (h : Has w b #[.int .i64 x0, .int .i64 x1, .int .i64 x2, .int .i64 x3, .int .i64 x4, .int .i64 x5, .int .i64 x6]) (hn : n < 7) : w.cell? ⟨b, n, none⟩ = some (.int .i64 ([x0, x1, x2, x3, x4, x5, x6].getD n 0)) := by
  rw [h.2.1]
  rcases (show n = 0 ∨ n = 1 ∨ n = 2 ∨ n = 3 ∨ n = 4 ∨ n = 5 ∨ n = 6 by omega) with rfl | rfl | rfl | rfl | rfl | rfl | rfl <;> rfl
set_option maxRecDepth 100000 in
set_option maxHeartbeats 4000000 in
theorem kindOf_any (d : Int) (d0 : 0 ≤ d) (d1 : d ≤ 146096) (t : Tt) (aD aS aX aH : Option Addr) (cD cS cX cH : Nat) (w : World) (hR : TR w t (.slice aD t.D.length cD) (.slice aS t.S.length cS) (.slice aX t.X.length cX) (.slice aH t.H.length cH)) : Calls Try.prog 76 #[.agg #[.string t.nm, .slice aD t.D.length cD, .int .i64 t.w0, .int .i64 t.w1, .int .i64 t.w2, .int .i64 t.w3, .int .i64 t.w4, .int .i64 t.w5, .int .i64 t.w6, .slice aS t.S.length cS, .slice aX t.X.length cX, .slice aH t.H.length cH], .int .i64 d] w fun e w' => e = .returned (.int .i64 (knF t d)) ∧ Below w.heap.size w w' := by
  obtain ⟨n, hn, hn7⟩ : ∃ n : Nat, (d + 5) % 7 = (n : Int) ∧ n < 7 := ⟨((d + 5) % 7).toNat, by omega, by omega⟩
  have c38 := fun W => weekday_any d W d0 d1
  rw [hn] at c38
  have f1 : Hid (∀ x, t.X.find? (fun x => x.day == d) = some x → knF t d = x.kind) := by intro x h; simp only [knF, h]
  have f2 : Hid (t.X.find? (fun x => x.day == d) = none → knF t d = (wkG d t.wk t.S).getD n 0) := by intro h; simp only [knF, h, hn]; rfl
  generalize knF t d = R at *
  have hn7' : Hid (n < 7) := hn7
  have n0 : (0 : Int) ≤ (n : Int) := by omega
  have n1 : (n : Int) < 7 := by omega
  clear hn hn7
  have dl := hR.dl
  have sl := hR.sl
  have xl := hR.xl
  have hl := hR.hl
  go_enter Try.func76, Try.ntmps76
  go_wp2
  have HY : Has (w.alloc (.cells #[.string t.nm, .slice aD t.D.length cD, .int .i64 t.w0, .int .i64 t.w1, .int .i64 t.w2, .int .i64 t.w3, .int .i64 t.w4, .int .i64 t.w5, .int .i64 t.w6, .slice aS t.S.length cS, .slice aX t.X.length cX, .slice aH t.H.length cH] 29)) w.heap.size #[.string t.nm, .slice aD t.D.length cD, .int .i64 t.w0, .int .i64 t.w1, .int .i64 t.w2, .int .i64 t.w3, .int .i64 t.w4, .int .i64 t.w5, .int .i64 t.w6, .slice aS t.S.length cS, .slice aX t.X.length cX, .slice aH t.H.length cH] := Has.new _ _ _ rfl
  have HB : Below w.heap.size w (w.alloc (.cells #[.string t.nm, .slice aD t.D.length cD, .int .i64 t.w0, .int .i64 t.w1, .int .i64 t.w2, .int .i64 t.w3, .int .i64 t.w4, .int .i64 t.w5, .int .i64 t.w6, .slice aS t.S.length cS, .slice aX t.X.length cX, .slice aH t.H.length cH] 29)) := bel1
  have hRR : Hid (TR (w.alloc (.cells #[.string t.nm, .slice aD t.D.length cD, .int .i64 t.w0, .int .i64 t.w1, .int .i64 t.w2, .int .i64 t.w3, .int .i64 t.w4, .int .i64 t.w5, .int .i64 t.w6, .slice aS t.S.length cS, .slice aX t.X.length cX, .slice aH t.H.length cH] 29)) t (.slice aD t.D.length cD) (.slice aS t.S.length cS) (.slice aX t.X.length cX) (.slice aH t.H.length cH)) := hR.below HB
  generalize (w.alloc (.cells #[.string t.nm, .slice aD t.D.length cD, .int .i64 t.w0, .int .i64 t.w1, .int .i64 t.w2, .int .i64 t.w3, .int .i64 t.w4, .int .i64 t.w5, .int .i64 t.w6, .slice aS t.S.length cS, .slice aX t.X.length cX, .slice aH t.H.length cH] 29)) = Y at *
  clear hR
  go_loopg [6, 13] t.X.length (fun gk s6 s13 wr => ∃ k : Nat, k + gk = t.X.length ∧ s13 = .int .i64 (k : Int) ∧ Hid ((t.X.drop k).find? (fun x => x.day == d) = t.X.find? (fun x => x.day == d)) ∧ Below Y.heap.size Y wr)
  case atStart => exact ⟨0, by omega, rfl, rfl, Below.refl _ _⟩
  case round =>
    obtain ⟨k, hk, rfl, hA, hb⟩ := hrel
    by_cases hlt : k < t.X.length
    · have hE : Hid (t.X.find? (fun x => x.day == d) = if t.X[k].day = d then some t.X[k] else (t.X.drop (k + 1)).find? (fun x => x.day == d)) := by show _ = _; rw [← hA.out, find_drop _ _ k hlt]
      clear hA
      obtain ⟨g, o, rfl, hg, P⟩ := (hRR.out.x.ln).resolve_left (by intro e; rw [e] at hlt; simp at hlt)
      have p0 := (hb.cell (p := ⟨g, _, none⟩) hg).trans (P k hlt 0 _ rfl)
      have p1 := (hb.cell (p := ⟨g, _, none⟩) hg).trans (P k hlt 1 _ rfl)
      simp only [Nat.add_zero] at p0
      have t1 : (k : Int) < (t.X.length : Int) := by omega
      have t0 : (0 : Int) ≤ (k : Int) := by omega
      by_cases hc : t.X[k].day = d
      · have hE2 : Hid (R = t.X[k].kind) := f1.out _ (by rw [hE.out, if_pos hc])
        have hc' : (t.X[k].day == d) = true := beq_iff_eq.2 hc
        clear hE hc P
        generalize t.X[k].day = z0 at *
        generalize t.X[k].kind = z1 at *
        go_wp2
        go_ret
        exact ⟨ret_int hE2.out.symm, belT HB (belT hb bel1)⟩
      · have hE2 : Hid ((t.X.drop (k + 1)).find? (fun x => x.day == d) = t.X.find? (fun x => x.day == d)) := by show _ = _; rw [hE.out, if_neg hc]
        have hc' : (t.X[k].day == d) = false := beq_eq_false_iff_ne.2 hc
        clear hE hc P
        generalize t.X[k].day = z0 at *
        generalize t.X[k].kind = z1 at *
        go_wp2
        go_roundg (gk - 1)
        case measure => go_light; omega
        case rel => exact ⟨k + 1, by omega, by go_num, hE2, belT hb bel1⟩
    · obtain rfl : k = t.X.length := by omega
      have t1 : ¬ (t.X.length : Int) < (t.X.length : Int) := by omega
      have hN : Hid (t.X.find? (fun x => x.day == d) = none) := by show _ = _; rw [← hA.out]; simp
      have hF : Hid (R = (wkG d t.wk t.S).getD n 0) := f2.out hN.out
      clear hA hN f1 f2
      obtain ⟨_, q, _⟩ := id (HY.below hb)
      go_wp2
      have HW : Has (wr.alloc (.cells #[.int .i64 t.w0, .int .i64 t.w1, .int .i64 t.w2, .int .i64 t.w3, .int .i64 t.w4, .int .i64 t.w5, .int .i64 t.w6] 24)) wr.heap.size #[.int .i64 t.w0, .int .i64 t.w1, .int .i64 t.w2, .int .i64 t.w3, .int .i64 t.w4, .int .i64 t.w5, .int .i64 t.w6] := Has.new _ _ _ rfl
      have hbZ : Below Y.heap.size Y (wr.alloc (.cells #[.int .i64 t.w0, .int .i64 t.w1, .int .i64 t.w2, .int .i64 t.w3, .int .i64 t.w4, .int .i64 t.w5, .int .i64 t.w6] 24)) := belT hb bel1
      have hbw : Y.heap.size ≤ wr.heap.size := hb.size
      generalize (wr.alloc (.cells #[.int .i64 t.w0, .int .i64 t.w1, .int .i64 t.w2, .int .i64 t.w3, .int .i64 t.w4, .int .i64 t.w5, .int .i64 t.w6] 24)) = Z at *
      generalize wr.heap.size = bw at *
      clear q hb
      go_loopg [9, 29] t.S.length (fun gk s9 s29 wr => ∃ (k : Nat) (x0 x1 x2 x3 x4 x5 x6 : Int), k + gk = t.S.length ∧ s29 = .int .i64 (k : Int) ∧ Hid (Has wr bw #[.int .i64 x0, .int .i64 x1, .int .i64 x2, .int .i64 x3, .int .i64 x4, .int .i64 x5, .int .i64 x6]) ∧ Hid ([x0, x1, x2, x3, x4, x5, x6] = wkG d t.wk (t.S.take k)) ∧ Below Y.heap.size Y wr)
      case atStart => exact ⟨0, _, _, _, _, _, _, _, by omega, rfl, HW, rfl, hbZ⟩
      case round =>
        obtain ⟨k, x0, x1, x2, x3, x4, x5, x6, hk, rfl, hH, hA, hb⟩ := hrel
        by_cases hlt : k < t.S.length
        · have hs := wk_step d t.wk t.S k hlt
          have hE : Hid (wkG d t.wk (t.S.take (k + 1)) = if t.S[k].fr ≤ d ∧ d ≤ t.S[k].till then [t.S[k].w0, t.S[k].w1, t.S[k].w2, t.S[k].w3, t.S[k].w4, t.S[k].w5, t.S[k].w6] else [x0, x1, x2, x3, x4, x5, x6]) := by show _ = _; rw [hs, hA.out]; rfl
          clear hA hs
          obtain ⟨g, o, rfl, hg, P⟩ := (hRR.out.s.ln).resolve_left (by intro e; rw [e] at hlt; simp at hlt)
          have p0 := (hb.cell (p := ⟨g, _, none⟩) hg).trans (P k hlt 0 _ rfl)
          have p1 := (hb.cell (p := ⟨g, _, none⟩) hg).trans (P k hlt 1 _ rfl)
          have p2 := (hb.cell (p := ⟨g, _, none⟩) hg).trans (P k hlt 2 _ rfl)
          have p3 := (hb.cell (p := ⟨g, _, none⟩) hg).trans (P k hlt 3 _ rfl)
          have p4 := (hb.cell (p := ⟨g, _, none⟩) hg).trans (P k hlt 4 _ rfl)
          have p5 := (hb.cell (p := ⟨g, _, none⟩) hg).trans (P k hlt 5 _ rfl)
          have p6 := (hb.cell (p := ⟨g, _, none⟩) hg).trans (P k hlt 6 _ rfl)
          have p7 := (hb.cell (p := ⟨g, _, none⟩) hg).trans (P k hlt 7 _ rfl)
          have p8 := (hb.cell (p := ⟨g, _, none⟩) hg).trans (P k hlt 8 _ rfl)
          simp only [Nat.add_zero] at p0
          have t1 : (k : Int) < (t.S.length : Int) := by omega
          have t0 : (0 : Int) ≤ (k : Int) := by omega
          have hH1 := hH.out.alloc (.cells #[.int .i64 t.S[k].fr, .int .i64 t.S[k].till, .int .i64 t.S[k].w0, .int .i64 t.S[k].w1, .int .i64 t.S[k].w2, .int .i64 t.S[k].w3, .int .i64 t.S[k].w4, .int .i64 t.S[k].w5, .int .i64 t.S[k].w6] 56)
          have hbb := belT hb (bel1 (o := .cells #[.int .i64 t.S[k].fr, .int .i64 t.S[k].till, .int .i64 t.S[k].w0, .int .i64 t.S[k].w1, .int .i64 t.S[k].w2, .int .i64 t.S[k].w3, .int .i64 t.S[k].w4, .int .i64 t.S[k].w5, .int .i64 t.S[k].w6] 56))
          have hfz := hH1.2.2
          have hce := hH1.2.1
          have hl1 := hH1.1
          have hne : bw ≠ wr.heap.size := by have := hH.out.1; omega
          clear P
          generalize t.S[k].fr = z0 at *
          generalize t.S[k].till = z1 at *
          generalize t.S[k].w0 = z2 at *
          generalize t.S[k].w1 = z3 at *
          generalize t.S[k].w2 = z4 at *
          generalize t.S[k].w3 = z5 at *
          generalize t.S[k].w4 = z6 at *
          generalize t.S[k].w5 = z7 at *
          generalize t.S[k].w6 = z8 at *
          by_cases hc1 : z0 ≤ d
          · by_cases hc2 : d ≤ z1
            · have hE2 : Hid ([z2, z3, z4, z5, z6, z7, z8] = wkG d t.wk (t.S.take (k + 1))) := by show _ = _; rw [hE.out, if_pos ⟨hc1, hc2⟩]
              clear hE
              go_wp2
              go_roundg (gk - 1)
              case measure => go_light; omega
              case rel => exact ⟨k + 1, _, _, _, _, _, _, _, by omega, by go_num, has_set7 hH1 _ _ _ _ _ _ _, hE2, bel7 hbb hbw _ _ _ _ _ _ _⟩
            · have hE2 : Hid ([x0, x1, x2, x3, x4, x5, x6] = wkG d t.wk (t.S.take (k + 1))) := by show _ = _; rw [hE.out, if_neg (fun h => hc2 h.2)]
              clear hE
              go_wp2
              go_roundg (gk - 1)
              case measure => go_light; omega
              case rel => exact ⟨k + 1, _, _, _, _, _, _, _, by omega, by go_num, hH1, hE2, hbb⟩
          · have hE2 : Hid ([x0, x1, x2, x3, x4, x5, x6] = wkG d t.wk (t.S.take (k + 1))) := by show _ = _; rw [hE.out, if_neg (fun h => hc1 h.1)]
            clear hE
            go_wp2
            go_roundg (gk - 1)
            case measure => go_light; omega
            case rel => exact ⟨k + 1, _, _, _, _, _, _, _, by omega, by go_num, hH1, hE2, hbb⟩
        · obtain rfl : k = t.S.length := by omega
          have t1 : ¬ (t.S.length : Int) < (t.S.length : Int) := by omega
          have hc := has7_at hH.out hn7'.out
          have hE2 : Hid (R = [x0, x1, x2, x3, x4, x5, x6].getD n 0) := by show _ = _; rw [hF.out, hA.out, List.take_length]
          clear hA hH
          generalize [x0, x1, x2, x3, x4, x5, x6].getD n 0 = V at *
          go_wp2_with (go_at_call 93; (with_reducible refine (c38 _).mono ?_); rintro e w' ⟨rfl, rfl⟩)
          go_ret
          exact ⟨ret_int hE2.out.symm, belT HB hb⟩
end Go.Proofs.Ytddphepgcihdbaa
