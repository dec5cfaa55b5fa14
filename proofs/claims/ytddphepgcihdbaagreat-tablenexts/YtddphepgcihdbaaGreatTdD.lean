import Derived.Test.YtddphepgcihdbaaGreatTdB
namespace Go.Proofs.YtddphepgcihdbaaGreat
open Go.RowKit
set_option linter.unusedVariables false
set_option linter.unusedSimpArgs false

theorem cs_week (x : Sn) (n : Nat) (h : n < 7) : (Sn.cs x)[2 + n]? = some (.int .i64 (x.wk.getD n 0)) := by
  rcases (show n = 0 ∨ n = 1 ∨ n = 2 ∨ n = 3 ∨ n = 4 ∨ n = 5 ∨ n = 6 by omega) with rfl | rfl | rfl | rfl | rfl | rfl | rfl <;> rfl
set_option maxRecDepth 100000 in
set_option maxHeartbeats 4000000 in
theorem refKind_any (d : Int) (d0 : 0 ≤ d) (d1 : d ≤ 146096) (t : Tt) (aD aS aX aH : Option Addr) (cD cS cX cH : Nat) (w : World) (hR : TR w t (.slice aD t.D.length cD) (.slice aS t.S.length cS) (.slice aX t.X.length cX) (.slice aH t.H.length cH)) : Calls Tryz.prog 30 #[.agg #[.string t.nm, .slice aD t.D.length cD, .int .i64 t.w0, .int .i64 t.w1, .int .i64 t.w2, .int .i64 t.w3, .int .i64 t.w4, .int .i64 t.w5, .int .i64 t.w6, .slice aS t.S.length cS, .slice aX t.X.length cX, .slice aH t.H.length cH], .int .i64 d] w fun e w' => e = .returned (.int .i64 (knF t d)) ∧ Below w.heap.size w w' := by
  obtain ⟨n, hn, hn7⟩ : ∃ n : Nat, (d + 5) % 7 = (n : Int) ∧ n < 7 := ⟨((d + 5) % 7).toNat, by omega, by omega⟩
  have f1 : Hid (∀ x, t.X.find? (fun x => x.day == d) = some x → knF t d = x.kind) := by intro x h; simp only [knF, h]
  have f2 : Hid (t.X.find? (fun x => x.day == d) = none → knF t d = (wkG d t.wk t.S).getD n 0) := by intro h; simp only [knF, h, hn]; rfl
  have hbox : Hid ((#[.string t.nm, .slice aD t.D.length cD, .int .i64 t.w0, .int .i64 t.w1, .int .i64 t.w2, .int .i64 t.w3, .int .i64 t.w4, .int .i64 t.w5, .int .i64 t.w6, .slice aS t.S.length cS, .slice aX t.X.length cX, .slice aH t.H.length cH] : Array Value)[2 + n]? = some (.int .i64 (t.wk.getD n 0))) := by
    show _ = _
    rcases (show n = 0 ∨ n = 1 ∨ n = 2 ∨ n = 3 ∨ n = 4 ∨ n = 5 ∨ n = 6 by omega) with rfl | rfl | rfl | rfl | rfl | rfl | rfl <;> rfl
  generalize knF t d = R at *
  have hn7' : Hid (n < 7) := hn7
  have n0 : (0 : Int) ≤ (n : Int) := by omega
  have n1 : (n : Int) < 7 := by omega
  clear hn7
  have dl := hR.dl
  have sl := hR.sl
  have xl := hR.xl
  have hl := hR.hl
  go_enter Tryz.func30, Tryz.ntmps30
  go_wp2
  have HY : Has (w.alloc (.cells #[.string t.nm, .slice aD t.D.length cD, .int .i64 t.w0, .int .i64 t.w1, .int .i64 t.w2, .int .i64 t.w3, .int .i64 t.w4, .int .i64 t.w5, .int .i64 t.w6, .slice aS t.S.length cS, .slice aX t.X.length cX, .slice aH t.H.length cH] 28)) w.heap.size #[.string t.nm, .slice aD t.D.length cD, .int .i64 t.w0, .int .i64 t.w1, .int .i64 t.w2, .int .i64 t.w3, .int .i64 t.w4, .int .i64 t.w5, .int .i64 t.w6, .slice aS t.S.length cS, .slice aX t.X.length cX, .slice aH t.H.length cH] := Has.new _ _ _ rfl
  have HB : Below w.heap.size w (w.alloc (.cells #[.string t.nm, .slice aD t.D.length cD, .int .i64 t.w0, .int .i64 t.w1, .int .i64 t.w2, .int .i64 t.w3, .int .i64 t.w4, .int .i64 t.w5, .int .i64 t.w6, .slice aS t.S.length cS, .slice aX t.X.length cX, .slice aH t.H.length cH] 28)) := bel1
  have hRR : Hid (TR (w.alloc (.cells #[.string t.nm, .slice aD t.D.length cD, .int .i64 t.w0, .int .i64 t.w1, .int .i64 t.w2, .int .i64 t.w3, .int .i64 t.w4, .int .i64 t.w5, .int .i64 t.w6, .slice aS t.S.length cS, .slice aX t.X.length cX, .slice aH t.H.length cH] 28)) t (.slice aD t.D.length cD) (.slice aS t.S.length cS) (.slice aX t.X.length cX) (.slice aH t.H.length cH)) := hR.below HB
  generalize (w.alloc (.cells #[.string t.nm, .slice aD t.D.length cD, .int .i64 t.w0, .int .i64 t.w1, .int .i64 t.w2, .int .i64 t.w3, .int .i64 t.w4, .int .i64 t.w5, .int .i64 t.w6, .slice aS t.S.length cS, .slice aX t.X.length cX, .slice aH t.H.length cH] 28)) = Y at *
  clear hR
  go_loopg [5] t.X.length (fun gk s5 wr => ∃ k : Nat, k + gk = t.X.length ∧ s5 = .int .i64 (k : Int) ∧ Hid ((t.X.drop k).find? (fun x => x.day == d) = t.X.find? (fun x => x.day == d)) ∧ Y = wr)
  case atStart => exact ⟨0, by omega, rfl, rfl, rfl⟩
  case round =>
    obtain ⟨k, hk, rfl, hA, rfl⟩ := hrel
    obtain ⟨_, q, _⟩ := id HY
    have hb := Below.refl Y.heap.size Y
    by_cases hlt : k < t.X.length
    · have hE : Hid (t.X.find? (fun x => x.day == d) = if t.X[k].day = d then some t.X[k] else (t.X.drop (k + 1)).find? (fun x => x.day == d)) := by show _ = _; rw [← hA.out, find_drop _ _ k hlt]
      clear hA
      obtain ⟨g, o, rfl, hg, P⟩ := (hRR.out.x.ln).resolve_left (by intro e; rw [e] at hlt; simp at hlt)
      have p0 := (hb.cell (p := ⟨g, _, none⟩) hg).trans (P k hlt 0 _ rfl)
      have p1 := (hb.cell (p := ⟨g, _, none⟩) hg).trans (P k hlt 1 _ rfl)
      simp only [Nat.add_zero] at p0
      have t1 : (k : Int) < (t.X.length : Int) := by omega
      have t0 : (0 : Int) ≤ (k : Int) := by omega
      by_cases hc : t.X[k].day = d
      · have hE2 : Hid (R = t.X[k].kind) := f1.out _ (by rw [hE.out, if_pos hc])
        have hc' : (t.X[k].day == d) = true := beq_iff_eq.2 hc
        clear hE hc P
        generalize t.X[k].day = z0 at *
        generalize t.X[k].kind = z1 at *
        go_wp2
        go_ret
        exact ⟨ret_int hE2.out.symm, HB⟩
      · have hE2 : Hid ((t.X.drop (k + 1)).find? (fun x => x.day == d) = t.X.find? (fun x => x.day == d)) := by show _ = _; rw [hE.out, if_neg hc]
        have hc' : (t.X[k].day == d) = false := beq_eq_false_iff_ne.2 hc
        clear hE hc P
        generalize t.X[k].day = z0 at *
        generalize t.X[k].kind = z1 at *
        go_wp2
        go_roundg (gk - 1)
        case measure => go_light; omega
        case rel => exact ⟨k + 1, by omega, by go_num, hE2, rfl⟩
    · obtain rfl : k = t.X.length := by omega
      have t1 : ¬ (t.X.length : Int) < (t.X.length : Int) := by omega
      have hN : Hid (t.X.find? (fun x => x.day == d) = none) := by show _ = _; rw [← hA.out]; simp
      have hF : Hid (R = (wkG d t.wk t.S).getD n 0) := f2.out hN.out
      clear hA hN f1 f2 hb
      go_wp2
      go_loopg [6] t.S.length (fun gk s6 wr => ∃ (z : Int), Hid (z = (gk : Int) - 1) ∧ gk ≤ t.S.length ∧ s6 = .int .i64 z ∧ Hid (wkG d t.wk (t.S.take gk) = wkG d t.wk t.S) ∧ Y = wr)
      case atStart => exact ⟨_, rfl, Nat.le_refl _, rfl, by show _ = _; rw [List.take_length], rfl⟩
      case round =>
        obtain ⟨z, hz, hk, rfl, hA, rfl⟩ := hrel
        cases gk with
        | succ k =>
          have hlt : k < t.S.length := by omega
          obtain rfl : z = (k : Int) := by have := hz.out; omega
          have hb := Below.refl Y.heap.size Y
          have hs := wk_step d t.wk t.S k hlt
          have hE : Hid (wkG d t.wk t.S = if t.S[k].fr ≤ d ∧ d ≤ t.S[k].till then t.S[k].wk else wkG d t.wk (t.S.take k)) := by show _ = _; rw [← hA.out, hs]
          clear hA hs hz
          obtain ⟨g, o, rfl, hg, P⟩ := (hRR.out.s.ln).resolve_left (by intro e; rw [e] at hlt; simp at hlt)
          have p0 := (hb.cell (p := ⟨g, _, none⟩) hg).trans (P k hlt 0 _ rfl)
          have p1 := (hb.cell (p := ⟨g, _, none⟩) hg).trans (P k hlt 1 _ rfl)
          have p2 := (hb.cell (p := ⟨g, _, none⟩) hg).trans (P k hlt 2 _ rfl)
          have p3 := (hb.cell (p := ⟨g, _, none⟩) hg).trans (P k hlt 3 _ rfl)
          have p4 := (hb.cell (p := ⟨g, _, none⟩) hg).trans (P k hlt 4 _ rfl)
          have p5 := (hb.cell (p := ⟨g, _, none⟩) hg).trans (P k hlt 5 _ rfl)
          have p6 := (hb.cell (p := ⟨g, _, none⟩) hg).trans (P k hlt 6 _ rfl)
          have p7 := (hb.cell (p := ⟨g, _, none⟩) hg).trans (P k hlt 7 _ rfl)
          have p8 := (hb.cell (p := ⟨g, _, none⟩) hg).trans (P k hlt 8 _ rfl)
          simp only [Nat.add_zero] at p0
          have t1 : (k : Int) < (t.S.length : Int) := by omega
          have t0 : (0 : Int) ≤ (k : Int) := by omega
          have pw := (P k hlt (2 + n) _ (cs_week t.S[k] n hn7'.out))
          rw [← Nat.add_assoc] at pw
          have hwk : Hid (t.S[k].wk.getD n 0 = t.S[k].wk.getD n 0) := rfl
          clear P p2 p3 p4 p5 p6 p7 p8
          generalize hV : t.S[k].wk = V at *
          generalize t.S[k].fr = z0 at *
          generalize t.S[k].till = z1 at *
          by_cases hc1 : z0 ≤ d
          · by_cases hc2 : d ≤ z1
            · have hE2 : Hid (R = V.getD n 0) := by show _ = _; rw [hF.out, hE.out, if_pos ⟨hc1, hc2⟩]
              clear hE hV hwk
              generalize V.getD n 0 = v at *
              go_wp2
              go_ret
              exact ⟨ret_int hE2.out.symm, HB⟩
            · have hE2 : Hid (wkG d t.wk (t.S.take k) = wkG d t.wk t.S) := by show _ = _; rw [hE.out, if_neg (fun h => hc2 h.2)]
              clear hE hV hwk pw
              go_wp2
              go_roundg k
              case measure => go_light; omega
              case rel => exact ⟨_, rfl, by omega, rfl, hE2, rfl⟩
          · have hE2 : Hid (wkG d t.wk (t.S.take k) = wkG d t.wk t.S) := by show _ = _; rw [hE.out, if_neg (fun h => hc1 h.1)]
            clear hE hV hwk pw
            go_wp2
            go_roundg k
            case measure => go_light; omega
            case rel => exact ⟨_, rfl, by omega, rfl, hE2, rfl⟩
        | zero =>
          have hz' : ¬ 0 ≤ z := by have := hz.out; omega
          have hE2 : Hid (R = t.wk.getD n 0) := by show _ = _; rw [hF.out, ← hA.out]; rfl
          have pw : Y.cell? ⟨w.heap.size, 2 + n, none⟩ = some (.int .i64 (t.wk.getD n 0)) := (HY.2.1 (2 + n)).trans hbox.out
          clear hA q
          generalize t.wk.getD n 0 = v at *
          go_wp2
          go_ret
          exact ⟨ret_int hE2.out.symm, HB⟩
end Go.Proofs.YtddphepgcihdbaaGreat
