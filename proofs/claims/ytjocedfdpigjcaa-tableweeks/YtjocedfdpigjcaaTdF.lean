import Derived.Test.YtjocedfdpigjcaaTdE
namespace Go.Proofs.Ytjocedfdpigjcaa
open Go.RowKit
set_option linter.unusedVariables false
set_option linter.unusedSimpArgs false

theorem row_ix {t : Tt} (h : t.kinB = true) (d : Int) : ∃ (i : Nat) (hi : i < t.D.length), knF t d = (i : Int) ∧ rwF t d = t.D[i].rows := by
  obtain ⟨hi, e⟩ := row_at h d
  exact ⟨_, hi, by have := kn_bounds h d; omega, e⟩
set_option maxRecDepth 100000 in
set_option maxHeartbeats 4000000 in
theorem slotAt_any (m : Int) (m0 : 0 ≤ m) (m1 : m ≤ 210379679) (t : Tt) (aD aS aX aH : Option Addr) (cD cS cX cH : Nat) (w : World) (hR : TR w t (.slice aD t.D.length cD) (.slice aS t.S.length cS) (.slice aX t.X.length cX) (.slice aH t.H.length cH)) (he : t.err = 0) : Calls Try.prog 24 #[.agg #[.string t.nm, .slice aD t.D.length cD, .int .i64 t.w0, .int .i64 t.w1, .int .i64 t.w2, .int .i64 t.w3, .int .i64 t.w4, .int .i64 t.w5, .int .i64 t.w6, .slice aS t.S.length cS, .slice aX t.X.length cX, .slice aH t.H.length cH], .int .i64 m] w fun e w' => e = .returned (.int .i64 (slF t m)) ∧ Below w.heap.size w w' := by
  obtain ⟨_, _, e3, _, e5, _, e7, _⟩ := err_zero he
  have hpb := pl_bounds e5 m
  have hlb := lo_bounds m (plG m t.H)
  obtain ⟨i1, hi1, hk1, hr1⟩ := row_ix e7 (loF m (plG m t.H) / 1440)
  obtain ⟨i2, hi2, hk2, hr2⟩ := row_ix e7 (loF m (plG m t.H) / 1440 - 1)
  have hp2 := row_pos e7 e3 (loF m (plG m t.H) / 1440 - 1)
  have f1 : Hid (∀ x, lrG (loF m (plG m t.H) % 1440) (rwF t (loF m (plG m t.H) / 1440)) = some x → slF t m = x.s) := by intro x h; simp only [slF, h]
  have f2 : Hid (lrG (loF m (plG m t.H) % 1440) (rwF t (loF m (plG m t.H) / 1440)) = none → loF m (plG m t.H) / 1440 = 0 → slF t m = -1) := by intro h h2; simp only [slF, h, if_pos h2]
  have f3 : Hid (lrG (loF m (plG m t.H) % 1440) (rwF t (loF m (plG m t.H) / 1440)) = none → loF m (plG m t.H) / 1440 ≠ 0 → ∀ x, (rwF t (loF m (plG m t.H) / 1440 - 1)).getLast? = some x → slF t m = x.s) := by intro h h2 x h3; simp only [slF, h, if_neg h2, h3]
  rw [hr1] at f1 f2 f3
  rw [hr2] at f3 hp2
  have g1 := hR.r _ (List.getElem_mem hi1)
  have g2 := hR.r _ (List.getElem_mem hi2)
  have b1 := hR.rl _ (List.getElem_mem hi1)
  have b2 := hR.rl _ (List.getElem_mem hi2)
  have c26 := plusAt_any t.H aH cH m _ (hR.below (bel1 (o := .cells #[.string t.nm, .slice aD t.D.length cD, .int .i64 t.w0, .int .i64 t.w1, .int .i64 t.w2, .int .i64 t.w3, .int .i64 t.w4, .int .i64 t.w5, .int .i64 t.w6, .slice aS t.S.length cS, .slice aX t.X.length cX, .slice aH t.H.length cH] 29))).h.ln hR.hl
  have c25 := fun W => localOf_any m (plG m t.H) W m0 m1 hpb.1 hpb.2
  have c36 := fun W (hb : Below w.heap.size w W) => rowsOf_any (loF m (plG m t.H) / 1440) (by omega) (by omega) t aD aS aX aH cD cS cX cH W (hR.below hb) i1 hi1 hk1
  have c36b := fun W (hb : Below w.heap.size w W) (hd : ¬ loF m (plG m t.H) / 1440 = 0) => rowsOf_any (loF m (plG m t.H) / 1440 - 1) (by omega) (by omega) t aD aS aX aH cD cS cX cH W (hR.below hb) i2 hi2 hk2
  have hcc : 0 ≤ loF m (plG m t.H) % 1440 := by omega
  clear hR hr1 hr2 hk1 hk2
  generalize slF t m = R at *
  obtain ⟨a1, c1, v1, k1⟩ := g1.any
  obtain ⟨a2, c2, v2, k2⟩ := g2.any
  simp only [v1] at c36
  simp only [v2] at c36b
  clear v1 v2 g1 g2 e3 e5 e7 he hpb
  generalize t.D[i1].rows = r1 at *
  generalize t.D[i2].rows = r2 at *
  generalize plG m t.H = pl at *
  generalize loF m pl = l at *
  have hl0 : 0 ≤ l := hlb.1
  have hl1 : l ≤ 210379679 := hlb.2
  clear hlb hi1 hi2
  go_enter Try.func24, Try.ntmps24
  go_wp2_with (first | (go_at_call 26; (with_reducible refine c26.mono ?_); rintro e w1 ⟨rfl, hb0⟩; have B0 := ((Has.new w #[.string t.nm, .slice aD t.D.length cD, .int .i64 t.w0, .int .i64 t.w1, .int .i64 t.w2, .int .i64 t.w3, .int .i64 t.w4, .int .i64 t.w5, .int .i64 t.w6, .slice aS t.S.length cS, .slice aX t.X.length cX, .slice aH t.H.length cH] 29 rfl).below hb0); have hbb0 := belT bel1 hb0; obtain ⟨_, q0, _⟩ := id B0) | (go_at_call 25; (with_reducible refine (c25 _).mono ?_); rintro e w' ⟨rfl, rfl⟩) | (go_at_call 36; (with_reducible refine (c36 _ hbb0).mono ?_); rintro e w2 ⟨rfl, hb1⟩; have B1 := B0.below hb1; have hbb1 := belT hbb0 hb1; obtain ⟨_, q1, _⟩ := id B1))
  have hbx := hbb1
  have hB1 := B1
  generalize w2 = W1 at *
  clear q0 q1 B0 hb0 hb1 hbb0 B1
  generalize l % 1440 = cc at *
  go_loopg [9] r1.length (fun gk s9 wr => ∃ (z : Int), Hid (z = (gk : Int) - 1) ∧ gk ≤ r1.length ∧ s9 = .int .i64 z ∧ Hid (lrG cc (r1.take gk) = lrG cc r1) ∧ W1 = wr)
  case atStart => exact ⟨_, rfl, Nat.le_refl _, rfl, by show _ = _; rw [List.take_length], rfl⟩
  case round =>
    obtain ⟨z, hz, hk, rfl, hA, rfl⟩ := hrel
    cases gk with
    | succ k =>
      have hlt : k < r1.length := by omega
      obtain rfl : z = (k : Int) := by have := hz.out; omega
      have hE : Hid (lrG cc r1 = if r1[k].m ≤ cc then some r1[k] else lrG cc (r1.take k)) := by show _ = _; rw [← hA.out, lr_step cc r1 k hlt]
      clear hA hz
      obtain ⟨g, o, rfl, hg, P⟩ := k1.resolve_left (by intro e; rw [e] at hlt; simp at hlt)
      have p0 := (hbx.cell (p := ⟨g, _, none⟩) hg).trans (P k hlt 0 _ rfl)
      have p1 := (hbx.cell (p := ⟨g, _, none⟩) hg).trans (P k hlt 1 _ rfl)
      simp only [Nat.add_zero] at p0
      have t1 : (k : Int) < (r1.length : Int) := by omega
      have t0 : (0 : Int) ≤ (k : Int) := by omega
      clear P k1
      by_cases hc : r1[k].m ≤ cc
      · have hE2 : Hid (R = r1[k].s) := f1.out _ (by rw [hE.out, if_pos hc])
        clear hE
        generalize r1[k].m = y0 at *
        generalize r1[k].s = y1 at *
        go_wp2
        go_ret
        exact ⟨ret_int hE2.out.symm, hbx⟩
      · have hE2 : Hid (lrG cc (r1.take k) = lrG cc r1) := by show _ = _; rw [hE.out, if_neg hc]
        clear hE
        generalize r1[k].m = y0 at *
        generalize r1[k].s = y1 at *
        go_wp2
        go_roundg k
        case measure => go_light; omega
        case rel => exact ⟨_, rfl, by omega, rfl, hE2, rfl⟩
    | zero =>
      have hz' : ¬ 0 ≤ z := by have := hz.out; omega
      have hN : Hid (lrG cc r1 = none) := by show _ = _; rw [← hA.out]; rfl
      clear hA
      obtain ⟨_, q2, _⟩ := id hB1
      by_cases hd : l / 1440 = 0
      · have hd' : (l / 1440 == 0) = true := beq_iff_eq.2 hd
        have hE2 : Hid (R = -1) := f2.out hN.out hd
        clear hd
        go_wp2
        go_ret
        exact ⟨ret_int hE2.out.symm, hbx⟩
      · have hd' : (l / 1440 == 0) = false := beq_eq_false_iff_ne.2 hd
        have c36c := c36b W1 hbx hd
        obtain ⟨j, hjl, hj⟩ : ∃ (j : Nat) (_ : j < r2.length), Hid (r2.length = j + 1) := ⟨r2.length - 1, by omega, by show _ = _; omega⟩
        have hlast : r2.getLast? = some r2[j] := by
          have e1 : r2.length - 1 = j := by have := hj.out; omega
          rw [List.getLast?_eq_getElem?, e1, List.getElem?_eq_getElem hjl]
        have hE2 : Hid (R = r2[j].s) := f3.out hN.out hd _ hlast
        obtain ⟨g, o, rfl, hg, P⟩ := k2.resolve_left (by intro e; rw [e] at hp2; simp at hp2)
        have p1 := (hbx.cell (p := ⟨g, _, none⟩) hg).trans (P j hjl 1 _ rfl)
        have t1 : (j : Int) < (r2.length : Int) := by have := hj.out; omega
        have t0 : (0 : Int) ≤ (j : Int) := by omega
        have t2 : (r2.length : Int) - 1 = (j : Int) := by have := hj.out; omega
        have hlg : g < W1.heap.size := Nat.lt_of_lt_of_le hg hbx.size
        clear hlast P k2 c36b hd hp2 k1
        generalize r2[j].s = y1 at *
        go_wp2_with (go_at_call 36; (with_reducible refine c36c.mono ?_); rintro e w3 ⟨rfl, hb3⟩; have p2 := (hb3.cell (p := ⟨g, _, none⟩) hlg).trans p1)
        go_ret
        exact ⟨ret_int hE2.out.symm, belT hbx hb3⟩
end Go.Proofs.Ytjocedfdpigjcaa
