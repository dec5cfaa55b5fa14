import Derived.Test.YtkeoebllblbkgaaGreatDoorTcA
namespace Go.Proofs.YtkeoebllblbkgaaGreatDoor
open Go.RowKit
set_option linter.unusedVariables false
set_option linter.unusedSimpArgs false

/-- The second and the third error. -/
def Tt.flE (t : Tt) : Int := if t.limB = true then (if t.rowB = true then 0 else 188) else 187
set_option maxRecDepth 100000 in
set_option maxHeartbeats 4000000 in
theorem full_any (t : Tt) (aD aS aX aH : Option Addr) (cD cS cX cH : Nat) (w : World) (hR : TR w t (.slice aD t.D.length cD) (.slice aS t.S.length cS) (.slice aX t.X.length cX) (.slice aH t.H.length cH)) : Calls Tryz.prog 30 #[.agg #[.string t.nm, .slice aD t.D.length cD, .int .i64 t.w0, .int .i64 t.w1, .int .i64 t.w2, .int .i64 t.w3, .int .i64 t.w4, .int .i64 t.w5, .int .i64 t.w6, .slice aS t.S.length cS, .slice aX t.X.length cX, .slice aH t.H.length cH]] w fun e w' => e = .returned (.int .i64 t.flE) ∧ Below w.heap.size w w' := by
  have f0 : Hid (¬ (t.D.length ≤ 16 ∧ t.S.length ≤ 16 ∧ t.X.length ≤ 64 ∧ t.H.length ≤ 16) → t.flE = 187) := by
    intro h
    have : t.limB = false := by
      simp only [Tt.limB, Bool.and_eq_false_iff, decide_eq_false_iff_not]; omega
    simp [Tt.flE, this]
  have f1 : Hid (t.D.all (fun x => decide (x.rows.length ≤ 48)) = false → t.flE = 187) := by
    intro h
    have : t.limB = false := by simp only [Tt.limB, h, Bool.and_false]
    simp [Tt.flE, this]
  have fl : Hid (t.D.length ≤ 16 ∧ t.S.length ≤ 16 ∧ t.X.length ≤ 64 ∧ t.H.length ≤ 16 → t.D.all (fun x => decide (x.rows.length ≤ 48)) = true → t.limB = true) := by
    intro h h2
    simp only [Tt.limB, h2, Bool.and_true, Bool.and_eq_true, decide_eq_true_eq]; omega
  have f2 : Hid (t.limB = true → t.D.all (fun x => decide (0 < x.rows.length)) = false → t.flE = 188) := by
    intro h0 h
    have : t.rowB = false := by simp only [Tt.rowB, h, Bool.and_false]
    simp [Tt.flE, h0, this]
  have f3 : Hid (t.limB = true → t.D.length = 0 → t.flE = 188) := by
    intro h0 h
    have : t.rowB = false := by simp [Tt.rowB, h]
    simp [Tt.flE, h0, this]
  have f4 : Hid (t.limB = true → t.D.all (fun x => decide (0 < x.rows.length)) = true → 0 < t.D.length → t.flE = 0) := by
    intro h0 h h2
    have : t.rowB = true := by simp only [Tt.rowB, h, Bool.and_true, decide_eq_true_eq]; exact h2
    simp [Tt.flE, h0, this]
  generalize t.flE = R at *
  have dl := hR.dl
  have sl := hR.sl
  have xl := hR.xl
  have hl := hR.hl
  by_cases hlim : t.D.length ≤ 16 ∧ t.S.length ≤ 16 ∧ t.X.length ≤ 64 ∧ t.H.length ≤ 16
  case neg =>
    have hE2 : Hid (R = 187) := f0.out hlim
    by_cases h1 : t.D.length ≤ 16
    case neg =>
      have h1' : (16 : Int) < (t.D.length : Int) := by omega
      clear hlim
      go_enter Tryz.func30, Tryz.ntmps30
      go_wp2
      go_ret
      exact ⟨ret_int hE2.out.symm, bel1⟩
    by_cases h2 : t.S.length ≤ 16
    case neg =>
      have h1' : ¬ (16 : Int) < (t.D.length : Int) := by omega
      have h2' : (16 : Int) < (t.S.length : Int) := by omega
      clear hlim
      go_enter Tryz.func30, Tryz.ntmps30
      go_wp2
      go_ret
      exact ⟨ret_int hE2.out.symm, bel1⟩
    by_cases h3 : t.X.length ≤ 64
    case neg =>
      have h1' : ¬ (16 : Int) < (t.D.length : Int) := by omega
      have h2' : ¬ (16 : Int) < (t.S.length : Int) := by omega
      have h3' : (64 : Int) < (t.X.length : Int) := by omega
      clear hlim
      go_enter Tryz.func30, Tryz.ntmps30
      go_wp2
      go_ret
      exact ⟨ret_int hE2.out.symm, bel1⟩
    have h1' : ¬ (16 : Int) < (t.D.length : Int) := by omega
    have h2' : ¬ (16 : Int) < (t.S.length : Int) := by omega
    have h3' : ¬ (64 : Int) < (t.X.length : Int) := by omega
    have h4' : (16 : Int) < (t.H.length : Int) := by omega
    clear hlim
    go_enter Tryz.func30, Tryz.ntmps30
    go_wp2
    go_ret
    exact ⟨ret_int hE2.out.symm, bel1⟩
  have hlim' : Hid (t.D.length ≤ 16 ∧ t.S.length ≤ 16 ∧ t.X.length ≤ 64 ∧ t.H.length ≤ 16) := hlim
  have h1' : ¬ (16 : Int) < (t.D.length : Int) := by omega
  have h2' : ¬ (16 : Int) < (t.S.length : Int) := by omega
  have h3' : ¬ (64 : Int) < (t.X.length : Int) := by omega
  have h4' : ¬ (16 : Int) < (t.H.length : Int) := by omega
  clear hlim
  go_enter Tryz.func30, Tryz.ntmps30
  go_wp2
  have HY : Has (w.alloc (.cells #[.string t.nm, .slice aD t.D.length cD, .int .i64 t.w0, .int .i64 t.w1, .int .i64 t.w2, .int .i64 t.w3, .int .i64 t.w4, .int .i64 t.w5, .int .i64 t.w6, .slice aS t.S.length cS, .slice aX t.X.length cX, .slice aH t.H.length cH] 28)) w.heap.size #[.string t.nm, .slice aD t.D.length cD, .int .i64 t.w0, .int .i64 t.w1, .int .i64 t.w2, .int .i64 t.w3, .int .i64 t.w4, .int .i64 t.w5, .int .i64 t.w6, .slice aS t.S.length cS, .slice aX t.X.length cX, .slice aH t.H.length cH] := Has.new _ _ _ rfl
  have HB : Below w.heap.size w (w.alloc (.cells #[.string t.nm, .slice aD t.D.length cD, .int .i64 t.w0, .int .i64 t.w1, .int .i64 t.w2, .int .i64 t.w3, .int .i64 t.w4, .int .i64 t.w5, .int .i64 t.w6, .slice aS t.S.length cS, .slice aX t.X.length cX, .slice aH t.H.length cH] 28)) := bel1
  have hRR : Hid (TR (w.alloc (.cells #[.string t.nm, .slice aD t.D.length cD, .int .i64 t.w0, .int .i64 t.w1, .int .i64 t.w2, .int .i64 t.w3, .int .i64 t.w4, .int .i64 t.w5, .int .i64 t.w6, .slice aS t.S.length cS, .slice aX t.X.length cX, .slice aH t.H.length cH] 28)) t (.slice aD t.D.length cD) (.slice aS t.S.length cS) (.slice aX t.X.length cX) (.slice aH t.H.length cH)) := hR.below HB
  generalize (w.alloc (.cells #[.string t.nm, .slice aD t.D.length cD, .int .i64 t.w0, .int .i64 t.w1, .int .i64 t.w2, .int .i64 t.w3, .int .i64 t.w4, .int .i64 t.w5, .int .i64 t.w6, .slice aS t.S.length cS, .slice aX t.X.length cX, .slice aH t.H.length cH] 28)) = Y at *
  clear hR
  go_loopg [3] t.D.length (fun gk s3 wr => ∃ k : Nat, k + gk = t.D.length ∧ s3 = .int .i64 (k : Int) ∧ Hid ((t.D.drop k).all (fun x => decide (x.rows.length ≤ 48)) = t.D.all (fun x => decide (x.rows.length ≤ 48))) ∧ Below Y.heap.size Y wr)
  case atStart => exact ⟨0, by omega, rfl, rfl, Below.refl _ _⟩
  case round =>
    obtain ⟨k, hk, rfl, hA, hb⟩ := hrel
    obtain ⟨_, q, _⟩ := id (HY.below hb)
    by_cases hlt : k < t.D.length
    · have hE : Hid (t.D.all (fun x => decide (x.rows.length ≤ 48)) = ((fun x => decide (x.rows.length ≤ 48)) t.D[k] && (t.D.drop (k + 1)).all (fun x => decide (x.rows.length ≤ 48)))) := by show _ = _; rw [← hA.out, all_drop _ _ k hlt]
      clear hA
      obtain ⟨g, o, rfl, hg, P⟩ := (hRR.out.d.ln).resolve_left (by intro e; rw [e] at hlt; simp at hlt)
      have p0 := (hb.cell (p := ⟨g, _, none⟩) hg).trans (P k hlt 0 _ rfl)
      have p1 := (hb.cell (p := ⟨g, _, none⟩) hg).trans (P k hlt 1 _ rfl)
      simp only [Nat.add_zero] at p0
      have t1 : (k : Int) < (t.D.length : Int) := by omega
      have t0 : (0 : Int) ≤ (k : Int) := by omega
      have hsn : (fun x => decide (x.rows.length ≤ 48)) t.D[k] = decide (t.D[k].rows.length ≤ 48) := rfl
      rw [hsn] at hE
      clear hsn
      obtain ⟨ra, rc, hrv, kr⟩ := (hRR.out.r _ (List.getElem_mem hlt)).any
      have lr := hRR.out.rl _ (List.getElem_mem hlt)
      rw [hrv] at p1
      clear hrv kr P
      generalize t.D[k].name = z0 at *
      generalize t.D[k].rows.length = n at *
      by_cases hc : n ≤ 48
      · have hc' : ¬ (48 : Int) < (n : Int) := by omega
        have hE2 : Hid ((t.D.drop (k + 1)).all (fun x => decide (x.rows.length ≤ 48)) = t.D.all (fun x => decide (x.rows.length ≤ 48))) := by show _ = _; rw [hE.out]; simp [hc]
        go_wp2
        go_roundg (gk - 1)
        case measure => go_light; omega
        case rel => exact ⟨k + 1, by omega, by go_num, hE2, hb⟩
      · have hc' : (48 : Int) < (n : Int) := by omega
        have hE2 : Hid (R = 187) := f1.out (by rw [hE.out]; simp [hc])
        clear hc
        go_wp2
        go_ret
        exact ⟨ret_int hE2.out.symm, belT HB hb⟩
    · obtain rfl : k = t.D.length := by omega
      have t1 : ¬ (t.D.length : Int) < (t.D.length : Int) := by omega
      have hTD : Hid (t.D.all (fun x => decide (x.rows.length ≤ 48)) = true) := by show _ = _; rw [← hA.out]; simp
      clear hA
      have hlm : Hid (t.limB = true) := fl.out hlim'.out hTD.out
      go_wp2
      go_loopg [4] t.D.length (fun gk s4 wr => ∃ k : Nat, k + gk = t.D.length ∧ s4 = .int .i64 (k : Int) ∧ Hid ((t.D.drop k).all (fun x => decide (0 < x.rows.length)) = t.D.all (fun x => decide (0 < x.rows.length))) ∧ Below Y.heap.size Y wr)
      case atStart => exact ⟨0, by omega, rfl, rfl, hb⟩
      case round =>
        obtain ⟨k, hk, rfl, hA, hb⟩ := hrel
        obtain ⟨_, q, _⟩ := id (HY.below hb)
        by_cases hlt : k < t.D.length
        · have hE : Hid (t.D.all (fun x => decide (0 < x.rows.length)) = ((fun x => decide (0 < x.rows.length)) t.D[k] && (t.D.drop (k + 1)).all (fun x => decide (0 < x.rows.length)))) := by show _ = _; rw [← hA.out, all_drop _ _ k hlt]
          clear hA
          obtain ⟨g, o, rfl, hg, P⟩ := (hRR.out.d.ln).resolve_left (by intro e; rw [e] at hlt; simp at hlt)
          have p0 := (hb.cell (p := ⟨g, _, none⟩) hg).trans (P k hlt 0 _ rfl)
          have p1 := (hb.cell (p := ⟨g, _, none⟩) hg).trans (P k hlt 1 _ rfl)
          simp only [Nat.add_zero] at p0
          have t1 : (k : Int) < (t.D.length : Int) := by omega
          have t0 : (0 : Int) ≤ (k : Int) := by omega
          have hsn : (fun x => decide (0 < x.rows.length)) t.D[k] = decide (0 < t.D[k].rows.length) := rfl
          rw [hsn] at hE
          clear hsn
          obtain ⟨ra, rc, hrv, kr⟩ := (hRR.out.r _ (List.getElem_mem hlt)).any
          have lr := hRR.out.rl _ (List.getElem_mem hlt)
          rw [hrv] at p1
          clear hrv kr P
          generalize t.D[k].name = z0 at *
          generalize t.D[k].rows.length = n at *
          by_cases hc : 0 < n
          · have hc' : ((n : Int) == 0) = false := beq_eq_false_iff_ne.2 (by omega)
            have hE2 : Hid ((t.D.drop (k + 1)).all (fun x => decide (0 < x.rows.length)) = t.D.all (fun x => decide (0 < x.rows.length))) := by show _ = _; rw [hE.out]; simp [hc]
            go_wp2
            go_roundg (gk - 1)
            case measure => go_light; omega
            case rel => exact ⟨k + 1, by omega, by go_num, hE2, hb⟩
          · have hc' : ((n : Int) == 0) = true := beq_iff_eq.2 (by omega)
            have hE2 : Hid (R = 188) := f2.out hlm.out (by rw [hE.out]; simp [hc])
            clear hc
            go_wp2
            go_ret
            exact ⟨ret_int hE2.out.symm, belT HB hb⟩
        · obtain rfl : k = t.D.length := by omega
          have t1 : ¬ (t.D.length : Int) < (t.D.length : Int) := by omega
          have hTD2 : Hid (t.D.all (fun x => decide (0 < x.rows.length)) = true) := by show _ = _; rw [← hA.out]; simp
          clear hA
          by_cases hz : 0 < t.D.length
          · have hz' : ((t.D.length : Int) == 0) = false := beq_eq_false_iff_ne.2 (by omega)
            have hE2 : Hid (R = 0) := f4.out hlm.out hTD2.out hz
            go_wp2
            go_ret
            exact ⟨ret_int hE2.out.symm, belT HB hb⟩
          · have hz' : ((t.D.length : Int) == 0) = true := beq_iff_eq.2 (by omega)
            have hE2 : Hid (R = 188) := f3.out hlm.out (by omega)
            go_wp2
            go_ret
            exact ⟨ret_int hE2.out.symm, belT HB hb⟩
end Go.Proofs.YtkeoebllblbkgaaGreatDoor
