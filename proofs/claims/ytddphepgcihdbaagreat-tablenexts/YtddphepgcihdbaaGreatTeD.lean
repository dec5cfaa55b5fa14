import Derived.Test.YtddphepgcihdbaaGreatTeC
import Derived.Test.YtddphepgcihdbaaGreatTbD
import Derived.Deep.QuietTactic
import Derived.BigQuiet
namespace Go.Proofs.YtddphepgcihdbaaGreat
open Go.RowKit
set_option linter.unusedVariables false
set_option linter.unusedSimpArgs false

set_option maxRecDepth 100000 in
theorem eq65 (W : World) (x y : Int) : (Op.equalIn 10000 54 (.agg #[.int .i64 x, .int .i64 y]) (.agg #[.int .i64 x, .int .i64 y])).run Tryz.prog W = .ok true W := by
  simp [go_sem]
set_option maxRecDepth 100000 in
theorem eq68 (W : World) (x y : Int) : (Op.equalIn 10000 56 (.agg #[.int .i64 x, .int .i64 y]) (.agg #[.int .i64 x, .int .i64 y])).run Tryz.prog W = .ok true W := by
  simp [go_sem]
/-- A list of days that reads as t's. -/
def DayR (w : World) (D : List Dk) (a : Option Addr) : Prop := D.length = 0 ∨ ∃ g o, a = some ⟨g, o, none⟩ ∧ g < w.heap.size ∧ ∀ (i : Nat) (h : i < D.length), ∃ (fa : Option Addr) (fc : Nat), w.cell? ⟨g, o + i * 2, none⟩ = some (.string D[i].name) ∧ w.cell? ⟨g, o + i * 2 + 1, none⟩ = some (.slice fa D[i].rows.length fc) ∧ Fl 2 Rw.cs w (.slice fa D[i].rows.length fc) D[i].rows
theorem DayR.below {w w' : World} {D : List Dk} {a : Option Addr} (h : DayR w D a) (hb : Below w.heap.size w w') : DayR w' D a := by
  rcases h with h | ⟨g, o, h1, h2, h3⟩
  · exact .inl h
  · refine .inr ⟨g, o, h1, Nat.lt_of_lt_of_le h2 hb.size, fun i hi => ?_⟩
    obtain ⟨fa, fc, c1, c2, c3⟩ := h3 i hi
    exact ⟨fa, fc, (hb.cell (p := ⟨g, _, none⟩) h2).trans c1, (hb.cell (p := ⟨g, _, none⟩) h2).trans c2, c3.below hb⟩
theorem TR.days {w : World} {t : Tt} {a : Option Addr} {c : Nat} {vS vX vH : Value} (h : TR w t (.slice a t.D.length c) vS vX vH) : DayR w t.D a := by
  rcases h.d.ln with e | ⟨g, o, h1, h2, h3⟩
  · left; rw [e]; rfl
  · refine .inr ⟨g, o, h1, h2, fun i hi => ?_⟩
    obtain ⟨fa, fc, e, _⟩ := (h.r _ (List.getElem_mem hi)).any
    refine ⟨fa, fc, by simpa using h3 i hi 0 _ rfl, by have := h3 i hi 1 _ rfl; rw [e] at this; exact this, ?_⟩
    rw [← e]; exact h.r _ (List.getElem_mem hi)
set_option maxRecDepth 100000 in
set_option maxHeartbeats 4000000 in
theorem same_any (t : Tt) (aD aS aX aH bD bS bX bH : Option Addr) (cD cS cX cH dD dS dX dH : Nat) (w : World) (hR : TR w t (.slice aD t.D.length cD) (.slice aS t.S.length cS) (.slice aX t.X.length cX) (.slice aH t.H.length cH))
    (gD : DayR w t.D bD) (gS : Fl 9 Sn.cs w (.slice bS t.S.length dS) t.S) (gX : Fl 2 Ex.cs w (.slice bX t.X.length dX) t.X) (gH : Fl 2 Sh.cs w (.slice bH t.H.length dH) t.H) :
    Calls Tryz.prog 22 #[.agg #[.string t.nm, .slice bD t.D.length dD, .int .i64 t.w0, .int .i64 t.w1, .int .i64 t.w2, .int .i64 t.w3, .int .i64 t.w4, .int .i64 t.w5, .int .i64 t.w6, .slice bS t.S.length dS, .slice bX t.X.length dX, .slice bH t.H.length dH], .agg #[.string t.nm, .slice aD t.D.length cD, .int .i64 t.w0, .int .i64 t.w1, .int .i64 t.w2, .int .i64 t.w3, .int .i64 t.w4, .int .i64 t.w5, .int .i64 t.w6, .slice aS t.S.length cS, .slice aX t.X.length cX, .slice aH t.H.length cH]] w fun e w' => e = .returned (.bool true) ∧ Below w.heap.size w w' := by
  have dl := hR.dl
  have sl := hR.sl
  have xl := hR.xl
  have hl := hR.hl
  have rl : Hid (∀ x ∈ t.D, x.rows.length ≤ 8796093021952) := hR.rl
  have e24 := fun W => eq24 9998 W t.w0 t.w1 t.w2 t.w3 t.w4 t.w5 t.w6
  simp only [Nat.reduceAdd] at e24
  go_enter Tryz.func22, Tryz.ntmps22
  go_wp2
  have HA : Has ((w.alloc (.cells #[.string t.nm, .slice bD t.D.length dD, .int .i64 t.w0, .int .i64 t.w1, .int .i64 t.w2, .int .i64 t.w3, .int .i64 t.w4, .int .i64 t.w5, .int .i64 t.w6, .slice bS t.S.length dS, .slice bX t.X.length dX, .slice bH t.H.length dH] 28)).alloc (.cells #[.string t.nm, .slice aD t.D.length cD, .int .i64 t.w0, .int .i64 t.w1, .int .i64 t.w2, .int .i64 t.w3, .int .i64 t.w4, .int .i64 t.w5, .int .i64 t.w6, .slice aS t.S.length cS, .slice aX t.X.length cX, .slice aH t.H.length cH] 28)) w.heap.size #[.string t.nm, .slice bD t.D.length dD, .int .i64 t.w0, .int .i64 t.w1, .int .i64 t.w2, .int .i64 t.w3, .int .i64 t.w4, .int .i64 t.w5, .int .i64 t.w6, .slice bS t.S.length dS, .slice bX t.X.length dX, .slice bH t.H.length dH] := (Has.new _ _ _ rfl).alloc _
  have HC : Has ((w.alloc (.cells #[.string t.nm, .slice bD t.D.length dD, .int .i64 t.w0, .int .i64 t.w1, .int .i64 t.w2, .int .i64 t.w3, .int .i64 t.w4, .int .i64 t.w5, .int .i64 t.w6, .slice bS t.S.length dS, .slice bX t.X.length dX, .slice bH t.H.length dH] 28)).alloc (.cells #[.string t.nm, .slice aD t.D.length cD, .int .i64 t.w0, .int .i64 t.w1, .int .i64 t.w2, .int .i64 t.w3, .int .i64 t.w4, .int .i64 t.w5, .int .i64 t.w6, .slice aS t.S.length cS, .slice aX t.X.length cX, .slice aH t.H.length cH] 28)) (w.heap.size + 1) #[.string t.nm, .slice aD t.D.length cD, .int .i64 t.w0, .int .i64 t.w1, .int .i64 t.w2, .int .i64 t.w3, .int .i64 t.w4, .int .i64 t.w5, .int .i64 t.w6, .slice aS t.S.length cS, .slice aX t.X.length cX, .slice aH t.H.length cH] := Has.new _ _ _ (by simp)
  have HB : Below w.heap.size w ((w.alloc (.cells #[.string t.nm, .slice bD t.D.length dD, .int .i64 t.w0, .int .i64 t.w1, .int .i64 t.w2, .int .i64 t.w3, .int .i64 t.w4, .int .i64 t.w5, .int .i64 t.w6, .slice bS t.S.length dS, .slice bX t.X.length dX, .slice bH t.H.length dH] 28)).alloc (.cells #[.string t.nm, .slice aD t.D.length cD, .int .i64 t.w0, .int .i64 t.w1, .int .i64 t.w2, .int .i64 t.w3, .int .i64 t.w4, .int .i64 t.w5, .int .i64 t.w6, .slice aS t.S.length cS, .slice aX t.X.length cX, .slice aH t.H.length cH] 28)) := ((Below.refl _ _).alloc (Nat.le_refl _) _).alloc (by simp) _
  have gD' : Hid (DayR ((w.alloc (.cells #[.string t.nm, .slice bD t.D.length dD, .int .i64 t.w0, .int .i64 t.w1, .int .i64 t.w2, .int .i64 t.w3, .int .i64 t.w4, .int .i64 t.w5, .int .i64 t.w6, .slice bS t.S.length dS, .slice bX t.X.length dX, .slice bH t.H.length dH] 28)).alloc (.cells #[.string t.nm, .slice aD t.D.length cD, .int .i64 t.w0, .int .i64 t.w1, .int .i64 t.w2, .int .i64 t.w3, .int .i64 t.w4, .int .i64 t.w5, .int .i64 t.w6, .slice aS t.S.length cS, .slice aX t.X.length cX, .slice aH t.H.length cH] 28)) t.D bD) := gD.below HB
  have hD' : Hid (DayR ((w.alloc (.cells #[.string t.nm, .slice bD t.D.length dD, .int .i64 t.w0, .int .i64 t.w1, .int .i64 t.w2, .int .i64 t.w3, .int .i64 t.w4, .int .i64 t.w5, .int .i64 t.w6, .slice bS t.S.length dS, .slice bX t.X.length dX, .slice bH t.H.length dH] 28)).alloc (.cells #[.string t.nm, .slice aD t.D.length cD, .int .i64 t.w0, .int .i64 t.w1, .int .i64 t.w2, .int .i64 t.w3, .int .i64 t.w4, .int .i64 t.w5, .int .i64 t.w6, .slice aS t.S.length cS, .slice aX t.X.length cX, .slice aH t.H.length cH] 28)) t.D aD) := hR.days.below HB
  have gS' : Hid (Fl 9 Sn.cs ((w.alloc (.cells #[.string t.nm, .slice bD t.D.length dD, .int .i64 t.w0, .int .i64 t.w1, .int .i64 t.w2, .int .i64 t.w3, .int .i64 t.w4, .int .i64 t.w5, .int .i64 t.w6, .slice bS t.S.length dS, .slice bX t.X.length dX, .slice bH t.H.length dH] 28)).alloc (.cells #[.string t.nm, .slice aD t.D.length cD, .int .i64 t.w0, .int .i64 t.w1, .int .i64 t.w2, .int .i64 t.w3, .int .i64 t.w4, .int .i64 t.w5, .int .i64 t.w6, .slice aS t.S.length cS, .slice aX t.X.length cX, .slice aH t.H.length cH] 28)) (.slice bS t.S.length dS) t.S) := gS.below HB
  have gX' : Hid (Fl 2 Ex.cs ((w.alloc (.cells #[.string t.nm, .slice bD t.D.length dD, .int .i64 t.w0, .int .i64 t.w1, .int .i64 t.w2, .int .i64 t.w3, .int .i64 t.w4, .int .i64 t.w5, .int .i64 t.w6, .slice bS t.S.length dS, .slice bX t.X.length dX, .slice bH t.H.length dH] 28)).alloc (.cells #[.string t.nm, .slice aD t.D.length cD, .int .i64 t.w0, .int .i64 t.w1, .int .i64 t.w2, .int .i64 t.w3, .int .i64 t.w4, .int .i64 t.w5, .int .i64 t.w6, .slice aS t.S.length cS, .slice aX t.X.length cX, .slice aH t.H.length cH] 28)) (.slice bX t.X.length dX) t.X) := gX.below HB
  have gH' : Hid (Fl 2 Sh.cs ((w.alloc (.cells #[.string t.nm, .slice bD t.D.length dD, .int .i64 t.w0, .int .i64 t.w1, .int .i64 t.w2, .int .i64 t.w3, .int .i64 t.w4, .int .i64 t.w5, .int .i64 t.w6, .slice bS t.S.length dS, .slice bX t.X.length dX, .slice bH t.H.length dH] 28)).alloc (.cells #[.string t.nm, .slice aD t.D.length cD, .int .i64 t.w0, .int .i64 t.w1, .int .i64 t.w2, .int .i64 t.w3, .int .i64 t.w4, .int .i64 t.w5, .int .i64 t.w6, .slice aS t.S.length cS, .slice aX t.X.length cX, .slice aH t.H.length cH] 28)) (.slice bH t.H.length dH) t.H) := gH.below HB
  have hS' : Hid (Fl 9 Sn.cs ((w.alloc (.cells #[.string t.nm, .slice bD t.D.length dD, .int .i64 t.w0, .int .i64 t.w1, .int .i64 t.w2, .int .i64 t.w3, .int .i64 t.w4, .int .i64 t.w5, .int .i64 t.w6, .slice bS t.S.length dS, .slice bX t.X.length dX, .slice bH t.H.length dH] 28)).alloc (.cells #[.string t.nm, .slice aD t.D.length cD, .int .i64 t.w0, .int .i64 t.w1, .int .i64 t.w2, .int .i64 t.w3, .int .i64 t.w4, .int .i64 t.w5, .int .i64 t.w6, .slice aS t.S.length cS, .slice aX t.X.length cX, .slice aH t.H.length cH] 28)) (.slice aS t.S.length cS) t.S) := hR.s.below HB
  have hX' : Hid (Fl 2 Ex.cs ((w.alloc (.cells #[.string t.nm, .slice bD t.D.length dD, .int .i64 t.w0, .int .i64 t.w1, .int .i64 t.w2, .int .i64 t.w3, .int .i64 t.w4, .int .i64 t.w5, .int .i64 t.w6, .slice bS t.S.length dS, .slice bX t.X.length dX, .slice bH t.H.length dH] 28)).alloc (.cells #[.string t.nm, .slice aD t.D.length cD, .int .i64 t.w0, .int .i64 t.w1, .int .i64 t.w2, .int .i64 t.w3, .int .i64 t.w4, .int .i64 t.w5, .int .i64 t.w6, .slice aS t.S.length cS, .slice aX t.X.length cX, .slice aH t.H.length cH] 28)) (.slice aX t.X.length cX) t.X) := hR.x.below HB
  have hH' : Hid (Fl 2 Sh.cs ((w.alloc (.cells #[.string t.nm, .slice bD t.D.length dD, .int .i64 t.w0, .int .i64 t.w1, .int .i64 t.w2, .int .i64 t.w3, .int .i64 t.w4, .int .i64 t.w5, .int .i64 t.w6, .slice bS t.S.length dS, .slice bX t.X.length dX, .slice bH t.H.length dH] 28)).alloc (.cells #[.string t.nm, .slice aD t.D.length cD, .int .i64 t.w0, .int .i64 t.w1, .int .i64 t.w2, .int .i64 t.w3, .int .i64 t.w4, .int .i64 t.w5, .int .i64 t.w6, .slice aS t.S.length cS, .slice aX t.X.length cX, .slice aH t.H.length cH] 28)) (.slice aH t.H.length cH) t.H) := hR.h.below HB
  generalize ((w.alloc (.cells #[.string t.nm, .slice bD t.D.length dD, .int .i64 t.w0, .int .i64 t.w1, .int .i64 t.w2, .int .i64 t.w3, .int .i64 t.w4, .int .i64 t.w5, .int .i64 t.w6, .slice bS t.S.length dS, .slice bX t.X.length dX, .slice bH t.H.length dH] 28)).alloc (.cells #[.string t.nm, .slice aD t.D.length cD, .int .i64 t.w0, .int .i64 t.w1, .int .i64 t.w2, .int .i64 t.w3, .int .i64 t.w4, .int .i64 t.w5, .int .i64 t.w6, .slice aS t.S.length cS, .slice aX t.X.length cX, .slice aH t.H.length cH] 28)) = Y at *
  clear hR gD gS gX gH
  go_loopg [5, 6, 7, 8] t.D.length (fun gk s5 s6 s7 s8 wr => ∃ k : Nat, k + gk = t.D.length ∧ s5 = .int .i64 (k : Int) ∧ Below Y.heap.size Y wr)
  case atStart => exact ⟨0, by omega, rfl, Below.refl _ _⟩
  case round =>
    obtain ⟨k, hk, rfl, hb⟩ := hrel
    obtain ⟨_, q, _⟩ := id (HA.below hb)
    obtain ⟨_, q2, _⟩ := id (HC.below hb)
    by_cases hlt : k < t.D.length
    · obtain ⟨g, o, rfl, hg, P⟩ := (gD'.out.below hb).resolve_left (by omega)
      obtain ⟨g2, o2, rfl, hg2, P2⟩ := (hD'.out.below hb).resolve_left (by omega)
      obtain ⟨fa, fc, p0, p1, fl1⟩ := P k hlt
      obtain ⟨fa2, fc2, r0, r1, fl2⟩ := P2 k hlt
      have lr := rl.out _ (List.getElem_mem hlt)
      have t1 : (k : Int) < (t.D.length : Int) := by omega
      have t0 : (0 : Int) ≤ (k : Int) := by omega
      have k1 := fl1.ln
      have k2 := fl2.ln
      clear P P2 fl1 fl2
      generalize t.D[k] = x at *
      obtain ⟨xn, xv, xr⟩ := x
      dsimp only at *
      go_wp2
      have M1 : Has ((wr.alloc (.cells #[.string xn, .slice fa xr.length fc] 49)).alloc (.cells #[.string xn, .slice fa2 xr.length fc2] 49)) wr.heap.size #[.string xn, .slice fa xr.length fc] := (Has.new _ _ _ rfl).alloc _
      have M2 : Has ((wr.alloc (.cells #[.string xn, .slice fa xr.length fc] 49)).alloc (.cells #[.string xn, .slice fa2 xr.length fc2] 49)) (wr.heap.size + 1) #[.string xn, .slice fa2 xr.length fc2] := Has.new _ _ _ (by simp)
      have hbw : Below wr.heap.size wr ((wr.alloc (.cells #[.string xn, .slice fa xr.length fc] 49)).alloc (.cells #[.string xn, .slice fa2 xr.length fc2] 49)) := ((Below.refl _ _).alloc (Nat.le_refl _) _).alloc (by simp) _
      generalize ((wr.alloc (.cells #[.string xn, .slice fa xr.length fc] 49)).alloc (.cells #[.string xn, .slice fa2 xr.length fc2] 49)) = W2 at *
      obtain ⟨gko, rfl⟩ : ∃ x, x = gk := ⟨_, rfl⟩
      obtain ⟨wo, rfl⟩ : ∃ x, x = wr := ⟨_, rfl⟩
      clear q q2
      go_loopg [8] xr.length (fun gk s8 wr => ∃ j : Nat, j + gk = xr.length ∧ s8 = .int .i64 (j : Int) ∧ Below W2.heap.size W2 wr)
      case atStart => exact ⟨0, by omega, rfl, Below.refl _ _⟩
      case round =>
        obtain ⟨j, hj, rfl, hbi⟩ := hrel
        obtain ⟨_, m1, _⟩ := id (M1.below hbi)
        obtain ⟨_, m2, _⟩ := id (M2.below hbi)
        by_cases hlj : j < xr.length
        · obtain ⟨g3, o3, rfl, hg3, P3⟩ := k1.resolve_left (by intro e; rw [e] at hlj; simp at hlj)
          obtain ⟨g4, o4, rfl, hg4, P4⟩ := k2.resolve_left (by intro e; rw [e] at hlj; simp at hlj)
          have hbo := belT hbw hbi
          have s0 := (hbo.cell (p := ⟨g3, _, none⟩) hg3).trans (P3 j hlj 0 _ rfl)
          have s1 := (hbo.cell (p := ⟨g3, _, none⟩) hg3).trans (P3 j hlj 1 _ rfl)
          have v0 := (hbo.cell (p := ⟨g4, _, none⟩) hg4).trans (P4 j hlj 0 _ rfl)
          have v1 := (hbo.cell (p := ⟨g4, _, none⟩) hg4).trans (P4 j hlj 1 _ rfl)
          simp only [Nat.add_zero] at s0 v0
          have u1 : (j : Int) < (xr.length : Int) := by omega
          have u0 : (0 : Int) ≤ (j : Int) := by omega
          have eE := fun W => eq40 W xr[j].m xr[j].s
          clear P3 P4 k1 k2
          generalize xr[j].m = y0 at *
          generalize xr[j].s = y1 at *
          go_wp2
          go_quiet (fail)
          go_wp2
          go_roundg (gk - 1)
          case measure => go_light; omega
          case rel => exact ⟨j + 1, by omega, by go_num, bel_drewN hbi⟩
        · obtain rfl : j = xr.length := by omega
          have u1 : ¬ (xr.length : Int) < (xr.length : Int) := by omega
          clear k1 k2
          go_wp2
          go_roundg (gko - 1)
          case measure => go_light; omega
          case rel => exact ⟨k + 1, by omega, by go_num, belT hb (belT hbw hbi)⟩
    · obtain rfl : k = t.D.length := by omega
      have t1 : ¬ (t.D.length : Int) < (t.D.length : Int) := by omega
      go_wp2
      clear q q2
      go_loopg [9] t.S.length (fun gk s9 wr => ∃ k : Nat, k + gk = t.S.length ∧ s9 = .int .i64 (k : Int) ∧ Below Y.heap.size Y wr)
      case atStart => exact ⟨0, by omega, rfl, hb⟩
      case round =>
        obtain ⟨k, hk, rfl, hb⟩ := hrel
        obtain ⟨_, q, _⟩ := id (HA.below hb)
        obtain ⟨_, q2, _⟩ := id (HC.below hb)
        by_cases hlt : k < t.S.length
        · obtain ⟨g, o, rfl, hg, P⟩ := (gS'.out.ln).resolve_left (by intro e; rw [e] at hlt; simp at hlt)
          obtain ⟨g2, o2, rfl, hg2, P2⟩ := (hS'.out.ln).resolve_left (by intro e; rw [e] at hlt; simp at hlt)
          have p0 := (hb.cell (p := ⟨g, _, none⟩) hg).trans (P k hlt 0 _ rfl)
          have r0 := (hb.cell (p := ⟨g2, _, none⟩) hg2).trans (P2 k hlt 0 _ rfl)
          have p1 := (hb.cell (p := ⟨g, _, none⟩) hg).trans (P k hlt 1 _ rfl)
          have r1 := (hb.cell (p := ⟨g2, _, none⟩) hg2).trans (P2 k hlt 1 _ rfl)
          have p2 := (hb.cell (p := ⟨g, _, none⟩) hg).trans (P k hlt 2 _ rfl)
          have r2 := (hb.cell (p := ⟨g2, _, none⟩) hg2).trans (P2 k hlt 2 _ rfl)
          have p3 := (hb.cell (p := ⟨g, _, none⟩) hg).trans (P k hlt 3 _ rfl)
          have r3 := (hb.cell (p := ⟨g2, _, none⟩) hg2).trans (P2 k hlt 3 _ rfl)
          have p4 := (hb.cell (p := ⟨g, _, none⟩) hg).trans (P k hlt 4 _ rfl)
          have r4 := (hb.cell (p := ⟨g2, _, none⟩) hg2).trans (P2 k hlt 4 _ rfl)
          have p5 := (hb.cell (p := ⟨g, _, none⟩) hg).trans (P k hlt 5 _ rfl)
          have r5 := (hb.cell (p := ⟨g2, _, none⟩) hg2).trans (P2 k hlt 5 _ rfl)
          have p6 := (hb.cell (p := ⟨g, _, none⟩) hg).trans (P k hlt 6 _ rfl)
          have r6 := (hb.cell (p := ⟨g2, _, none⟩) hg2).trans (P2 k hlt 6 _ rfl)
          have p7 := (hb.cell (p := ⟨g, _, none⟩) hg).trans (P k hlt 7 _ rfl)
          have r7 := (hb.cell (p := ⟨g2, _, none⟩) hg2).trans (P2 k hlt 7 _ rfl)
          have p8 := (hb.cell (p := ⟨g, _, none⟩) hg).trans (P k hlt 8 _ rfl)
          have r8 := (hb.cell (p := ⟨g2, _, none⟩) hg2).trans (P2 k hlt 8 _ rfl)
          simp only [Nat.add_zero] at p0 r0
          have t1 : (k : Int) < (t.S.length : Int) := by omega
          have t0 : (0 : Int) ≤ (k : Int) := by omega
          have eE := fun W => eq63 W t.S[k].fr t.S[k].till t.S[k].w0 t.S[k].w1 t.S[k].w2 t.S[k].w3 t.S[k].w4 t.S[k].w5 t.S[k].w6
          clear P P2
          generalize t.S[k].fr = z0 at *
          generalize t.S[k].till = z1 at *
          generalize t.S[k].w0 = z2 at *
          generalize t.S[k].w1 = z3 at *
          generalize t.S[k].w2 = z4 at *
          generalize t.S[k].w3 = z5 at *
          generalize t.S[k].w4 = z6 at *
          generalize t.S[k].w5 = z7 at *
          generalize t.S[k].w6 = z8 at *
          go_wp2
          go_quiet (fail)
          go_wp2
          go_roundg (gk - 1)
          case measure => go_light; omega
          case rel => exact ⟨k + 1, by omega, by go_num, bel_drewN hb⟩
        · obtain rfl : k = t.S.length := by omega
          have t1 : ¬ (t.S.length : Int) < (t.S.length : Int) := by omega
          go_wp2
          clear q q2
          go_loopg [10] t.X.length (fun gk s10 wr => ∃ k : Nat, k + gk = t.X.length ∧ s10 = .int .i64 (k : Int) ∧ Below Y.heap.size Y wr)
          case atStart => exact ⟨0, by omega, rfl, hb⟩
          case round =>
            obtain ⟨k, hk, rfl, hb⟩ := hrel
            obtain ⟨_, q, _⟩ := id (HA.below hb)
            obtain ⟨_, q2, _⟩ := id (HC.below hb)
            by_cases hlt : k < t.X.length
            · obtain ⟨g, o, rfl, hg, P⟩ := (gX'.out.ln).resolve_left (by intro e; rw [e] at hlt; simp at hlt)
              obtain ⟨g2, o2, rfl, hg2, P2⟩ := (hX'.out.ln).resolve_left (by intro e; rw [e] at hlt; simp at hlt)
              have p0 := (hb.cell (p := ⟨g, _, none⟩) hg).trans (P k hlt 0 _ rfl)
              have r0 := (hb.cell (p := ⟨g2, _, none⟩) hg2).trans (P2 k hlt 0 _ rfl)
              have p1 := (hb.cell (p := ⟨g, _, none⟩) hg).trans (P k hlt 1 _ rfl)
              have r1 := (hb.cell (p := ⟨g2, _, none⟩) hg2).trans (P2 k hlt 1 _ rfl)
              simp only [Nat.add_zero] at p0 r0
              have t1 : (k : Int) < (t.X.length : Int) := by omega
              have t0 : (0 : Int) ≤ (k : Int) := by omega
              have eE := fun W => eq65 W t.X[k].day t.X[k].kind
              clear P P2
              generalize t.X[k].day = z0 at *
              generalize t.X[k].kind = z1 at *
              go_wp2
              go_quiet (fail)
              go_wp2
              go_roundg (gk - 1)
              case measure => go_light; omega
              case rel => exact ⟨k + 1, by omega, by go_num, bel_drewN hb⟩
            · obtain rfl : k = t.X.length := by omega
              have t1 : ¬ (t.X.length : Int) < (t.X.length : Int) := by omega
              go_wp2
              clear q q2
              go_loopg [11] t.H.length (fun gk s11 wr => ∃ k : Nat, k + gk = t.H.length ∧ s11 = .int .i64 (k : Int) ∧ Below Y.heap.size Y wr)
              case atStart => exact ⟨0, by omega, rfl, hb⟩
              case round =>
                obtain ⟨k, hk, rfl, hb⟩ := hrel
                obtain ⟨_, q, _⟩ := id (HA.below hb)
                obtain ⟨_, q2, _⟩ := id (HC.below hb)
                by_cases hlt : k < t.H.length
                · obtain ⟨g, o, rfl, hg, P⟩ := (gH'.out.ln).resolve_left (by intro e; rw [e] at hlt; simp at hlt)
                  obtain ⟨g2, o2, rfl, hg2, P2⟩ := (hH'.out.ln).resolve_left (by intro e; rw [e] at hlt; simp at hlt)
                  have p0 := (hb.cell (p := ⟨g, _, none⟩) hg).trans (P k hlt 0 _ rfl)
                  have r0 := (hb.cell (p := ⟨g2, _, none⟩) hg2).trans (P2 k hlt 0 _ rfl)
                  have p1 := (hb.cell (p := ⟨g, _, none⟩) hg).trans (P k hlt 1 _ rfl)
                  have r1 := (hb.cell (p := ⟨g2, _, none⟩) hg2).trans (P2 k hlt 1 _ rfl)
                  simp only [Nat.add_zero] at p0 r0
                  have t1 : (k : Int) < (t.H.length : Int) := by omega
                  have t0 : (0 : Int) ≤ (k : Int) := by omega
                  have eE := fun W => eq68 W t.H[k].m t.H[k].plus
                  clear P P2
                  generalize t.H[k].m = z0 at *
                  generalize t.H[k].plus = z1 at *
                  go_wp2
                  go_quiet (fail)
                  go_wp2
                  go_roundg (gk - 1)
                  case measure => go_light; omega
                  case rel => exact ⟨k + 1, by omega, by go_num, bel_drewN hb⟩
                · obtain rfl : k = t.H.length := by omega
                  have t1 : ¬ (t.H.length : Int) < (t.H.length : Int) := by omega
                  go_wp2
                  go_ret
                  exact ⟨rfl, belT HB hb⟩
end Go.Proofs.YtddphepgcihdbaaGreat
