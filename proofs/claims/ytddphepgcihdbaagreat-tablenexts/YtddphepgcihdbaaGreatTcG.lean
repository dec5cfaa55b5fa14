import Derived.Test.YtddphepgcihdbaaGreatTcD
import Derived.Test.YtddphepgcihdbaaGreatTbD
import Derived.Lib.Strings
namespace Go.Proofs.YtddphepgcihdbaaGreat
open Go.RowKit
set_option linter.unusedVariables false
set_option linter.unusedSimpArgs false

set_option maxRecDepth 100000 in
set_option maxHeartbeats 4000000 in
theorem rising_any (t : Tt) (aD aS aX aH : Option Addr) (cD cS cX cH : Nat) (w : World) (hR : TR w t (.slice aD t.D.length cD) (.slice aS t.S.length cS) (.slice aX t.X.length cX) (.slice aH t.H.length cH)) : Calls Tryz.prog 37 #[.agg #[.string t.nm, .slice aD t.D.length cD, .int .i64 t.w0, .int .i64 t.w1, .int .i64 t.w2, .int .i64 t.w3, .int .i64 t.w4, .int .i64 t.w5, .int .i64 t.w6, .slice aS t.S.length cS, .slice aX t.X.length cX, .slice aH t.H.length cH]] w fun e w' => e = .returned (.bool t.ordB) ∧ Below w.heap.size w w' := by
  have f1 : Hid (t.D.all (fun x => riB (x.rows.map (·.m))) = false → t.ordB = false) := by intro h; simp only [Tt.ordB, h]; simp
  have f2 : Hid (riB (t.H.map (·.m)) = false → t.ordB = false) := by intro h; simp only [Tt.ordB, h]; simp
  have f4 : Hid (t.D.all (fun x => riB (x.rows.map (·.m))) = true → riB (t.H.map (·.m)) = true → t.ordB = true) := by intro h1 h2; simp only [Tt.ordB, h1, h2]; simp
  generalize t.ordB = R at *
  have dl := hR.dl
  have sl := hR.sl
  have xl := hR.xl
  have hl := hR.hl
  go_enter Tryz.func37, Tryz.ntmps37
  go_wp2
  have HY : Has (w.alloc (.cells #[.string t.nm, .slice aD t.D.length cD, .int .i64 t.w0, .int .i64 t.w1, .int .i64 t.w2, .int .i64 t.w3, .int .i64 t.w4, .int .i64 t.w5, .int .i64 t.w6, .slice aS t.S.length cS, .slice aX t.X.length cX, .slice aH t.H.length cH] 28)) w.heap.size #[.string t.nm, .slice aD t.D.length cD, .int .i64 t.w0, .int .i64 t.w1, .int .i64 t.w2, .int .i64 t.w3, .int .i64 t.w4, .int .i64 t.w5, .int .i64 t.w6, .slice aS t.S.length cS, .slice aX t.X.length cX, .slice aH t.H.length cH] := Has.new _ _ _ rfl
  have HB : Below w.heap.size w (w.alloc (.cells #[.string t.nm, .slice aD t.D.length cD, .int .i64 t.w0, .int .i64 t.w1, .int .i64 t.w2, .int .i64 t.w3, .int .i64 t.w4, .int .i64 t.w5, .int .i64 t.w6, .slice aS t.S.length cS, .slice aX t.X.length cX, .slice aH t.H.length cH] 28)) := bel1
  have hRR : Hid (TR (w.alloc (.cells #[.string t.nm, .slice aD t.D.length cD, .int .i64 t.w0, .int .i64 t.w1, .int .i64 t.w2, .int .i64 t.w3, .int .i64 t.w4, .int .i64 t.w5, .int .i64 t.w6, .slice aS t.S.length cS, .slice aX t.X.length cX, .slice aH t.H.length cH] 28)) t (.slice aD t.D.length cD) (.slice aS t.S.length cS) (.slice aX t.X.length cX) (.slice aH t.H.length cH)) := hR.below HB
  generalize (w.alloc (.cells #[.string t.nm, .slice aD t.D.length cD, .int .i64 t.w0, .int .i64 t.w1, .int .i64 t.w2, .int .i64 t.w3, .int .i64 t.w4, .int .i64 t.w5, .int .i64 t.w6, .slice aS t.S.length cS, .slice aX t.X.length cX, .slice aH t.H.length cH] 28)) = Y at *
  clear hR
  go_loopg [3, 4, 5] t.D.length (fun gk s3 s4 s5 wr => ∃ k : Nat, k + gk = t.D.length ∧ s3 = .int .i64 (k : Int) ∧ Hid ((t.D.drop k).all (fun x => riB (x.rows.map (·.m))) = t.D.all (fun x => riB (x.rows.map (·.m)))) ∧ Below Y.heap.size Y wr)
  case atStart => exact ⟨0, by omega, rfl, rfl, Below.refl _ _⟩
  case round =>
    obtain ⟨k, hk, rfl, hA, hb⟩ := hrel
    obtain ⟨_, q, _⟩ := id (HY.below hb)
    by_cases hlt : k < t.D.length
    · have hE : Hid (t.D.all (fun x => riB (x.rows.map (·.m))) = ((fun x => riB (x.rows.map (·.m))) t.D[k] && (t.D.drop (k + 1)).all (fun x => riB (x.rows.map (·.m))))) := by show _ = _; rw [← hA.out, all_drop _ _ k hlt]
      clear hA
      obtain ⟨g, o, rfl, hg, P⟩ := (hRR.out.d.ln).resolve_left (by intro e; rw [e] at hlt; simp at hlt)
      have p0 := (hb.cell (p := ⟨g, _, none⟩) hg).trans (P k hlt 0 _ rfl)
      have p1 := (hb.cell (p := ⟨g, _, none⟩) hg).trans (P k hlt 1 _ rfl)
      simp only [Nat.add_zero] at p0
      have t1 : (k : Int) < (t.D.length : Int) := by omega
      have t0 : (0 : Int) ≤ (k : Int) := by omega
      have hsn : (fun x => riB (x.rows.map (·.m))) t.D[k] = riB (t.D[k].rows.map (·.m)) := rfl
      rw [hsn] at hE
      clear hsn
      obtain ⟨ra, rc, hrv, kr⟩ := (hRR.out.r _ (List.getElem_mem hlt)).any
      have lr := hRR.out.rl _ (List.getElem_mem hlt)
      rw [hrv] at p1
      clear hrv
      generalize t.D[k].name = z0 at *
      generalize t.D[k].rows = rws at *
      go_wp2
      obtain ⟨gko, rfl⟩ : ∃ x, x = gk := ⟨_, rfl⟩
      obtain ⟨wo, rfl⟩ : ∃ x, x = wr := ⟨_, rfl⟩
      have hst : Hid (∀ j, ∀ h : j + 1 < rws.length, riB ((rws.map (·.m)).drop j) = (decide (rws[j].m < rws[j + 1].m) && riB ((rws.map (·.m)).drop (j + 1)))) := by
        intro j h; rw [ri_step _ j (by simpa using h)]; simp
      have hen : Hid (∀ j, rws.length ≤ j + 1 → riB ((rws.map (·.m)).drop j) = true) := fun j h => ri_end _ j (by simpa using h)
      go_loopg [5] (rws.length - 1) (fun gk s5 wr => ∃ j : Nat, j + gk = rws.length - 1 ∧ s5 = .int .i64 ((j : Int) + 1) ∧ Hid (riB ((rws.map (·.m)).drop j) = riB (rws.map (·.m))) ∧ Below Y.heap.size Y wr)
      case atStart => exact ⟨0, by omega, rfl, rfl, hb⟩
      case round =>
        obtain ⟨j, hj, rfl, hA, hbi⟩ := hrel
        obtain ⟨_, qi, _⟩ := id (HY.below hbi)
        by_cases hlj : j + 1 < rws.length
        · have hEj : Hid (riB (rws.map (·.m)) = (decide (rws[j].m < rws[j + 1].m) && riB ((rws.map (·.m)).drop (j + 1)))) := by show _ = _; rw [← hA.out, hst.out j hlj]
          obtain ⟨gr, og, rfl, hgr, Pr⟩ := kr.resolve_left (by intro e; rw [e] at hlj; simp at hlj)
          have r0 := (hbi.cell (p := ⟨gr, _, none⟩) hgr).trans (Pr j (by omega) 0 _ rfl)
          have r2 := (hbi.cell (p := ⟨gr, _, none⟩) hgr).trans (Pr (j + 1) hlj 0 _ rfl)
          simp only [Nat.add_zero] at r0 r2
          have u1 : (j : Int) + 1 < (rws.length : Int) := by omega
          have u0 : (0 : Int) ≤ (j : Int) := by omega
          have u2 : (j : Int) < (rws.length : Int) := by omega
          have u3 : (0 : Int) ≤ (j : Int) + 1 := by omega
          have wj : IntKind.i64.wrap (j : Int) = (j : Int) := wrap64 _ (by omega)
          clear Pr hA P kr
          generalize rws[j].m = y0 at *
          generalize rws[j + 1].m = y1 at *
          by_cases hlt2 : y0 < y1
          · have hle : ¬ y1 ≤ y0 := by omega
            have hE2 : Hid (riB ((rws.map (·.m)).drop (j + 1)) = riB (rws.map (·.m))) := by show _ = _; rw [hEj.out]; simp [hlt2]
            go_wp2
            go_quiet (fail)
            go_wp2
            go_roundg (gk - 1)
            case measure => go_light; omega
            case rel => exact ⟨j + 1, by omega, by go_num, hE2, bel_drewN hbi⟩
          · have hle : y1 ≤ y0 := by omega
            have hE2 : Hid (R = false) := f1.out (by rw [hE.out, hEj.out]; simp [hlt2])
            go_wp2
            go_quiet (fail)
            go_wp2
            go_ret
            exact ⟨ret_bool hE2.out.symm, belT HB (bel_drewN hbi)⟩
        · have u1 : ¬ (j : Int) + 1 < (rws.length : Int) := by omega
          have hTj : Hid (riB (rws.map (·.m)) = true) := by show _ = _; rw [← hA.out, hen.out j (by omega)]
          clear hA P kr
          have hE2 : Hid ((t.D.drop (k + 1)).all (fun x => riB (x.rows.map (·.m))) = t.D.all (fun x => riB (x.rows.map (·.m)))) := by show _ = _; rw [hE.out, hTj.out]; simp
          go_wp2
          go_roundg (gko - 1)
          case measure => go_light; omega
          case rel => exact ⟨k + 1, by omega, by go_num, hE2, hbi⟩
    · obtain rfl : k = t.D.length := by omega
      have t1 : ¬ (t.D.length : Int) < (t.D.length : Int) := by omega
      have hTD : Hid (t.D.all (fun x => riB (x.rows.map (·.m))) = true) := by show _ = _; rw [← hA.out]; simp
      clear hA
      go_wp2
      have hst : Hid (∀ j, ∀ h : j + 1 < t.H.length, riB ((t.H.map (·.m)).drop j) = (decide (t.H[j].m < t.H[j + 1].m) && riB ((t.H.map (·.m)).drop (j + 1)))) := by
        intro j h; rw [ri_step _ j (by simpa using h)]; simp
      have hen : Hid (∀ j, t.H.length ≤ j + 1 → riB ((t.H.map (·.m)).drop j) = true) := fun j h => ri_end _ j (by simpa using h)
      go_loopg [6] (t.H.length - 1) (fun gk s6 wr => ∃ j : Nat, j + gk = t.H.length - 1 ∧ s6 = .int .i64 ((j : Int) + 1) ∧ Hid (riB ((t.H.map (·.m)).drop j) = riB (t.H.map (·.m))) ∧ Below Y.heap.size Y wr)
      case atStart => exact ⟨0, by omega, rfl, rfl, hb⟩
      case round =>
        obtain ⟨j, hj, rfl, hA, hbi⟩ := hrel
        obtain ⟨_, qi, _⟩ := id (HY.below hbi)
        by_cases hlj : j + 1 < t.H.length
        · have hEj : Hid (riB (t.H.map (·.m)) = (decide (t.H[j].m < t.H[j + 1].m) && riB ((t.H.map (·.m)).drop (j + 1)))) := by show _ = _; rw [← hA.out, hst.out j hlj]
          obtain ⟨gr, og, rfl, hgr, Pr⟩ := (hRR.out.h.ln).resolve_left (by intro e; rw [e] at hlj; simp at hlj)
          have r0 := (hbi.cell (p := ⟨gr, _, none⟩) hgr).trans (Pr j (by omega) 0 _ rfl)
          have r2 := (hbi.cell (p := ⟨gr, _, none⟩) hgr).trans (Pr (j + 1) hlj 0 _ rfl)
          simp only [Nat.add_zero] at r0 r2
          have u1 : (j : Int) + 1 < (t.H.length : Int) := by omega
          have u0 : (0 : Int) ≤ (j : Int) := by omega
          have u2 : (j : Int) < (t.H.length : Int) := by omega
          have u3 : (0 : Int) ≤ (j : Int) + 1 := by omega
          have wj : IntKind.i64.wrap (j : Int) = (j : Int) := wrap64 _ (by omega)
          clear Pr hA 
          generalize t.H[j].m = y0 at *
          generalize t.H[j + 1].m = y1 at *
          by_cases hlt2 : y0 < y1
          · have hle : ¬ y1 ≤ y0 := by omega
            have hE2 : Hid (riB ((t.H.map (·.m)).drop (j + 1)) = riB (t.H.map (·.m))) := by show _ = _; rw [hEj.out]; simp [hlt2]
            go_wp2
            go_quiet (fail)
            go_wp2
            go_roundg (gk - 1)
            case measure => go_light; omega
            case rel => exact ⟨j + 1, by omega, by go_num, hE2, bel_drewN hbi⟩
          · have hle : y1 ≤ y0 := by omega
            have hE2 : Hid (R = false) := f2.out (by rw [hEj.out]; simp [hlt2])
            go_wp2
            go_quiet (fail)
            go_wp2
            go_ret
            exact ⟨ret_bool hE2.out.symm, belT HB (bel_drewN hbi)⟩
        · have u1 : ¬ (j : Int) + 1 < (t.H.length : Int) := by omega
          have hTj : Hid (riB (t.H.map (·.m)) = true) := by show _ = _; rw [← hA.out, hen.out j (by omega)]
          clear hA 
          have hE2 : Hid (R = true) := f4.out hTD.out hTj.out
          go_wp2
          go_ret
          exact ⟨ret_bool hE2.out.symm, belT HB hbi⟩
/-- The second and the third error. -/
def Tt.flE (t : Tt) : Int := if t.limB = true then (if t.rowB = true then 0 else 188) else 187
set_option maxRecDepth 100000 in
set_option maxHeartbeats 4000000 in
theorem full_any (t : Tt) (aD aS aX aH : Option Addr) (cD cS cX cH : Nat) (w : World) (hR : TR w t (.slice aD t.D.length cD) (.slice aS t.S.length cS) (.slice aX t.X.length cX) (.slice aH t.H.length cH)) : Calls Tryz.prog 32 #[.agg #[.string t.nm, .slice aD t.D.length cD, .int .i64 t.w0, .int .i64 t.w1, .int .i64 t.w2, .int .i64 t.w3, .int .i64 t.w4, .int .i64 t.w5, .int .i64 t.w6, .slice aS t.S.length cS, .slice aX t.X.length cX, .slice aH t.H.length cH]] w fun e w' => e = .returned (.int .i64 t.flE) ∧ Below w.heap.size w w' := by
  have f0 : Hid (¬ (t.D.length ≤ 16 ∧ t.S.length ≤ 16 ∧ t.X.length ≤ 64 ∧ t.H.length ≤ 16) → t.flE = 187) := by
    intro h
    have : t.limB = false := by
      simp only [Tt.limB, Bool.and_eq_false_iff, decide_eq_false_iff_not]; omega
    simp [Tt.flE, this]
  have f1 : Hid (t.D.all (fun x => decide (x.rows.length ≤ 48)) = false → t.flE = 187) := by
    intro h
    have : t.limB = false := by simp only [Tt.limB, h, Bool.and_false]
    simp [Tt.flE, this]
  have fl : Hid (t.D.length ≤ 16 ∧ t.S.length ≤ 16 ∧ t.X.length ≤ 64 ∧ t.H.length ≤ 16 → t.D.all (fun x => decide (x.rows.length ≤ 48)) = true → t.limB = true) := by
    intro h h2
    simp only [Tt.limB, h2, Bool.and_true, Bool.and_eq_true, decide_eq_true_eq]; omega
  have f2 : Hid (t.limB = true → t.D.all (fun x => decide (0 < x.rows.length)) = false → t.flE = 188) := by
    intro h0 h
    have : t.rowB = false := by simp only [Tt.rowB, h, Bool.and_false]
    simp [Tt.flE, h0, this]
  have f3 : Hid (t.limB = true → t.D.length = 0 → t.flE = 188) := by
    intro h0 h
    have : t.rowB = false := by simp [Tt.rowB, h]
    simp [Tt.flE, h0, this]
  have f4 : Hid (t.limB = true → t.D.all (fun x => decide (0 < x.rows.length)) = true → 0 < t.D.length → t.flE = 0) := by
    intro h0 h h2
    have : t.rowB = true := by simp only [Tt.rowB, h, Bool.and_true, decide_eq_true_eq]; exact h2
    simp [Tt.flE, h0, this]
  generalize t.flE = R at *
  have dl := hR.dl
  have sl := hR.sl
  have xl := hR.xl
  have hl := hR.hl
  by_cases hlim : t.D.length ≤ 16 ∧ t.S.length ≤ 16 ∧ t.X.length ≤ 64 ∧ t.H.length ≤ 16
  case neg =>
    have hE2 : Hid (R = 187) := f0.out hlim
    by_cases h1 : t.D.length ≤ 16
    case neg =>
      have h1' : (16 : Int) < (t.D.length : Int) := by omega
      clear hlim
      go_enter Tryz.func32, Tryz.ntmps32
      go_wp2
      go_ret
      exact ⟨ret_int hE2.out.symm, bel1⟩
    by_cases h2 : t.S.length ≤ 16
    case neg =>
      have h1' : ¬ (16 : Int) < (t.D.length : Int) := by omega
      have h2' : (16 : Int) < (t.S.length : Int) := by omega
      clear hlim
      go_enter Tryz.func32, Tryz.ntmps32
      go_wp2
      go_ret
      exact ⟨ret_int hE2.out.symm, bel1⟩
    by_cases h3 : t.X.length ≤ 64
    case neg =>
      have h1' : ¬ (16 : Int) < (t.D.length : Int) := by omega
      have h2' : ¬ (16 : Int) < (t.S.length : Int) := by omega
      have h3' : (64 : Int) < (t.X.length : Int) := by omega
      clear hlim
      go_enter Tryz.func32, Tryz.ntmps32
      go_wp2
      go_ret
      exact ⟨ret_int hE2.out.symm, bel1⟩
    have h1' : ¬ (16 : Int) < (t.D.length : Int) := by omega
    have h2' : ¬ (16 : Int) < (t.S.length : Int) := by omega
    have h3' : ¬ (64 : Int) < (t.X.length : Int) := by omega
    have h4' : (16 : Int) < (t.H.length : Int) := by omega
    clear hlim
    go_enter Tryz.func32, Tryz.ntmps32
    go_wp2
    go_ret
    exact ⟨ret_int hE2.out.symm, bel1⟩
  have hlim' : Hid (t.D.length ≤ 16 ∧ t.S.length ≤ 16 ∧ t.X.length ≤ 64 ∧ t.H.length ≤ 16) := hlim
  have h1' : ¬ (16 : Int) < (t.D.length : Int) := by omega
  have h2' : ¬ (16 : Int) < (t.S.length : Int) := by omega
  have h3' : ¬ (64 : Int) < (t.X.length : Int) := by omega
  have h4' : ¬ (16 : Int) < (t.H.length : Int) := by omega
  clear hlim
  go_enter Tryz.func32, Tryz.ntmps32
  go_wp2
  have HY : Has (w.alloc (.cells #[.string t.nm, .slice aD t.D.length cD, .int .i64 t.w0, .int .i64 t.w1, .int .i64 t.w2, .int .i64 t.w3, .int .i64 t.w4, .int .i64 t.w5, .int .i64 t.w6, .slice aS t.S.length cS, .slice aX t.X.length cX, .slice aH t.H.length cH] 28)) w.heap.size #[.string t.nm, .slice aD t.D.length cD, .int .i64 t.w0, .int .i64 t.w1, .int .i64 t.w2, .int .i64 t.w3, .int .i64 t.w4, .int .i64 t.w5, .int .i64 t.w6, .slice aS t.S.length cS, .slice aX t.X.length cX, .slice aH t.H.length cH] := Has.new _ _ _ rfl
  have HB : Below w.heap.size w (w.alloc (.cells #[.string t.nm, .slice aD t.D.length cD, .int .i64 t.w0, .int .i64 t.w1, .int .i64 t.w2, .int .i64 t.w3, .int .i64 t.w4, .int .i64 t.w5, .int .i64 t.w6, .slice aS t.S.length cS, .slice aX t.X.length cX, .slice aH t.H.length cH] 28)) := bel1
  have hRR : Hid (TR (w.alloc (.cells #[.string t.nm, .slice aD t.D.length cD, .int .i64 t.w0, .int .i64 t.w1, .int .i64 t.w2, .int .i64 t.w3, .int .i64 t.w4, .int .i64 t.w5, .int .i64 t.w6, .slice aS t.S.length cS, .slice aX t.X.length cX, .slice aH t.H.length cH] 28)) t (.slice aD t.D.length cD) (.slice aS t.S.length cS) (.slice aX t.X.length cX) (.slice aH t.H.length cH)) := hR.below HB
  generalize (w.alloc (.cells #[.string t.nm, .slice aD t.D.length cD, .int .i64 t.w0, .int .i64 t.w1, .int .i64 t.w2, .int .i64 t.w3, .int .i64 t.w4, .int .i64 t.w5, .int .i64 t.w6, .slice aS t.S.length cS, .slice aX t.X.length cX, .slice aH t.H.length cH] 28)) = Y at *
  clear hR
  go_loopg [3] t.D.length (fun gk s3 wr => ∃ k : Nat, k + gk = t.D.length ∧ s3 = .int .i64 (k : Int) ∧ Hid ((t.D.drop k).all (fun x => decide (x.rows.length ≤ 48)) = t.D.all (fun x => decide (x.rows.length ≤ 48))) ∧ Below Y.heap.size Y wr)
  case atStart => exact ⟨0, by omega, rfl, rfl, Below.refl _ _⟩
  case round =>
    obtain ⟨k, hk, rfl, hA, hb⟩ := hrel
    obtain ⟨_, q, _⟩ := id (HY.below hb)
    by_cases hlt : k < t.D.length
    · have hE : Hid (t.D.all (fun x => decide (x.rows.length ≤ 48)) = ((fun x => decide (x.rows.length ≤ 48)) t.D[k] && (t.D.drop (k + 1)).all (fun x => decide (x.rows.length ≤ 48)))) := by show _ = _; rw [← hA.out, all_drop _ _ k hlt]
      clear hA
      obtain ⟨g, o, rfl, hg, P⟩ := (hRR.out.d.ln).resolve_left (by intro e; rw [e] at hlt; simp at hlt)
      have p0 := (hb.cell (p := ⟨g, _, none⟩) hg).trans (P k hlt 0 _ rfl)
      have p1 := (hb.cell (p := ⟨g, _, none⟩) hg).trans (P k hlt 1 _ rfl)
      simp only [Nat.add_zero] at p0
      have t1 : (k : Int) < (t.D.length : Int) := by omega
      have t0 : (0 : Int) ≤ (k : Int) := by omega
      have hsn : (fun x => decide (x.rows.length ≤ 48)) t.D[k] = decide (t.D[k].rows.length ≤ 48) := rfl
      rw [hsn] at hE
      clear hsn
      obtain ⟨ra, rc, hrv, kr⟩ := (hRR.out.r _ (List.getElem_mem hlt)).any
      have lr := hRR.out.rl _ (List.getElem_mem hlt)
      rw [hrv] at p1
      clear hrv kr P
      generalize t.D[k].name = z0 at *
      generalize t.D[k].rows.length = n at *
      by_cases hc : n ≤ 48
      · have hc' : ¬ (48 : Int) < (n : Int) := by omega
        have hE2 : Hid ((t.D.drop (k + 1)).all (fun x => decide (x.rows.length ≤ 48)) = t.D.all (fun x => decide (x.rows.length ≤ 48))) := by show _ = _; rw [hE.out]; simp [hc]
        go_wp2
        go_roundg (gk - 1)
        case measure => go_light; omega
        case rel => exact ⟨k + 1, by omega, by go_num, hE2, hb⟩
      · have hc' : (48 : Int) < (n : Int) := by omega
        have hE2 : Hid (R = 187) := f1.out (by rw [hE.out]; simp [hc])
        clear hc
        go_wp2
        go_ret
        exact ⟨ret_int hE2.out.symm, belT HB hb⟩
    · obtain rfl : k = t.D.length := by omega
      have t1 : ¬ (t.D.length : Int) < (t.D.length : Int) := by omega
      have hTD : Hid (t.D.all (fun x => decide (x.rows.length ≤ 48)) = true) := by show _ = _; rw [← hA.out]; simp
      clear hA
      have hlm : Hid (t.limB = true) := fl.out hlim'.out hTD.out
      go_wp2
      go_loopg [4] t.D.length (fun gk s4 wr => ∃ k : Nat, k + gk = t.D.length ∧ s4 = .int .i64 (k : Int) ∧ Hid ((t.D.drop k).all (fun x => decide (0 < x.rows.length)) = t.D.all (fun x => decide (0 < x.rows.length))) ∧ Below Y.heap.size Y wr)
      case atStart => exact ⟨0, by omega, rfl, rfl, hb⟩
      case round =>
        obtain ⟨k, hk, rfl, hA, hb⟩ := hrel
        obtain ⟨_, q, _⟩ := id (HY.below hb)
        by_cases hlt : k < t.D.length
        · have hE : Hid (t.D.all (fun x => decide (0 < x.rows.length)) = ((fun x => decide (0 < x.rows.length)) t.D[k] && (t.D.drop (k + 1)).all (fun x => decide (0 < x.rows.length)))) := by show _ = _; rw [← hA.out, all_drop _ _ k hlt]
          clear hA
          obtain ⟨g, o, rfl, hg, P⟩ := (hRR.out.d.ln).resolve_left (by intro e; rw [e] at hlt; simp at hlt)
          have p0 := (hb.cell (p := ⟨g, _, none⟩) hg).trans (P k hlt 0 _ rfl)
          have p1 := (hb.cell (p := ⟨g, _, none⟩) hg).trans (P k hlt 1 _ rfl)
          simp only [Nat.add_zero] at p0
          have t1 : (k : Int) < (t.D.length : Int) := by omega
          have t0 : (0 : Int) ≤ (k : Int) := by omega
          have hsn : (fun x => decide (0 < x.rows.length)) t.D[k] = decide (0 < t.D[k].rows.length) := rfl
          rw [hsn] at hE
          clear hsn
          obtain ⟨ra, rc, hrv, kr⟩ := (hRR.out.r _ (List.getElem_mem hlt)).any
          have lr := hRR.out.rl _ (List.getElem_mem hlt)
          rw [hrv] at p1
          clear hrv kr P
          generalize t.D[k].name = z0 at *
          generalize t.D[k].rows.length = n at *
          by_cases hc : 0 < n
          · have hc' : ((n : Int) == 0) = false := beq_eq_false_iff_ne.2 (by omega)
            have hE2 : Hid ((t.D.drop (k + 1)).all (fun x => decide (0 < x.rows.length)) = t.D.all (fun x => decide (0 < x.rows.length))) := by show _ = _; rw [hE.out]; simp [hc]
            go_wp2
            go_roundg (gk - 1)
            case measure => go_light; omega
            case rel => exact ⟨k + 1, by omega, by go_num, hE2, hb⟩
          · have hc' : ((n : Int) == 0) = true := beq_iff_eq.2 (by omega)
            have hE2 : Hid (R = 188) := f2.out hlm.out (by rw [hE.out]; simp [hc])
            clear hc
            go_wp2
            go_ret
            exact ⟨ret_int hE2.out.symm, belT HB hb⟩
        · obtain rfl : k = t.D.length := by omega
          have t1 : ¬ (t.D.length : Int) < (t.D.length : Int) := by omega
          have hTD2 : Hid (t.D.all (fun x => decide (0 < x.rows.length)) = true) := by show _ = _; rw [← hA.out]; simp
          clear hA
          by_cases hz : 0 < t.D.length
          · have hz' : ((t.D.length : Int) == 0) = false := beq_eq_false_iff_ne.2 (by omega)
            have hE2 : Hid (R = 0) := f4.out hlm.out hTD2.out hz
            go_wp2
            go_ret
            exact ⟨ret_int hE2.out.symm, belT HB hb⟩
          · have hz' : ((t.D.length : Int) == 0) = true := beq_iff_eq.2 (by omega)
            have hE2 : Hid (R = 188) := f3.out hlm.out (by omega)
            go_wp2
            go_ret
            exact ⟨ret_int hE2.out.symm, belT HB hb⟩
theorem tl_inj {a b : ByteArray} (h : a.toList = b.toList) : a = b := by
  rw [ByteArray.toList_eq, ByteArray.toList_eq] at h
  cases a; cases b
  simp only [ByteArray.mk.injEq]
  exact Array.toList_inj.1 h
theorem nd_take {α : Type} (L : List α) (k : Nat) (h : k < L.length) (h1 : (L.take k).Nodup) (h2 : ∀ j, ∀ hj : j < k, L[j]'(by omega) ≠ L[k]) : (L.take (k + 1)).Nodup := by
  rw [List.take_succ_eq_append_getElem h, List.nodup_append]
  refine ⟨h1, by simp, fun a ha c hc => ?_⟩
  simp at hc
  subst hc
  obtain ⟨j, hj, rfl⟩ := List.mem_iff_getElem.1 ha
  simp at hj
  rw [List.getElem_take]
  exact h2 j (by omega)
theorem nd_not {α : Type} (L : List α) (j k : Nat) (hj : j < k) (hk : k < L.length) (h : L[j]'(by omega) = L[k]) : ¬ L.Nodup := by
  intro hn
  have := List.pairwise_iff_getElem.1 hn j k (by omega) hk hj
  exact this h
set_option maxRecDepth 100000 in
set_option maxHeartbeats 4000000 in
theorem twice_any (t : Tt) (aD aS aX aH : Option Addr) (cD cS cX cH : Nat) (w : World) (hR : TR w t (.slice aD t.D.length cD) (.slice aS t.S.length cS) (.slice aX t.X.length cX) (.slice aH t.H.length cH)) : Calls Tryz.prog 33 #[.agg #[.string t.nm, .slice aD t.D.length cD, .int .i64 t.w0, .int .i64 t.w1, .int .i64 t.w2, .int .i64 t.w3, .int .i64 t.w4, .int .i64 t.w5, .int .i64 t.w6, .slice aS t.S.length cS, .slice aX t.X.length cX, .slice aH t.H.length cH]] w fun e w' => e = .returned (.bool (!t.oneB)) ∧ Below w.heap.size w w' := by
  have f1 : Hid (¬ (t.D.map (·.name)).Nodup → (!t.oneB) = true) := by intro h; simp [Tt.oneB, h]
  have f2 : Hid (¬ (t.X.map (·.day)).Nodup → (!t.oneB) = true) := by intro h; simp [Tt.oneB, h]
  have f4 : Hid ((t.D.map (·.name)).Nodup → (t.X.map (·.day)).Nodup → (!t.oneB) = false) := by intro h1 h2; simp [Tt.oneB, h1, h2]
  generalize (!t.oneB) = R at *
  have dl := hR.dl
  have sl := hR.sl
  have xl := hR.xl
  have hl := hR.hl
  go_enter Tryz.func33, Tryz.ntmps33
  go_wp2
  have HY : Has (w.alloc (.cells #[.string t.nm, .slice aD t.D.length cD, .int .i64 t.w0, .int .i64 t.w1, .int .i64 t.w2, .int .i64 t.w3, .int .i64 t.w4, .int .i64 t.w5, .int .i64 t.w6, .slice aS t.S.length cS, .slice aX t.X.length cX, .slice aH t.H.length cH] 28)) w.heap.size #[.string t.nm, .slice aD t.D.length cD, .int .i64 t.w0, .int .i64 t.w1, .int .i64 t.w2, .int .i64 t.w3, .int .i64 t.w4, .int .i64 t.w5, .int .i64 t.w6, .slice aS t.S.length cS, .slice aX t.X.length cX, .slice aH t.H.length cH] := Has.new _ _ _ rfl
  have HB : Below w.heap.size w (w.alloc (.cells #[.string t.nm, .slice aD t.D.length cD, .int .i64 t.w0, .int .i64 t.w1, .int .i64 t.w2, .int .i64 t.w3, .int .i64 t.w4, .int .i64 t.w5, .int .i64 t.w6, .slice aS t.S.length cS, .slice aX t.X.length cX, .slice aH t.H.length cH] 28)) := bel1
  have hRR : Hid (TR (w.alloc (.cells #[.string t.nm, .slice aD t.D.length cD, .int .i64 t.w0, .int .i64 t.w1, .int .i64 t.w2, .int .i64 t.w3, .int .i64 t.w4, .int .i64 t.w5, .int .i64 t.w6, .slice aS t.S.length cS, .slice aX t.X.length cX, .slice aH t.H.length cH] 28)) t (.slice aD t.D.length cD) (.slice aS t.S.length cS) (.slice aX t.X.length cX) (.slice aH t.H.length cH)) := hR.below HB
  generalize (w.alloc (.cells #[.string t.nm, .slice aD t.D.length cD, .int .i64 t.w0, .int .i64 t.w1, .int .i64 t.w2, .int .i64 t.w3, .int .i64 t.w4, .int .i64 t.w5, .int .i64 t.w6, .slice aS t.S.length cS, .slice aX t.X.length cX, .slice aH t.H.length cH] 28)) = Y at *
  clear hR
  go_loopg [3, 4] t.D.length (fun gk s3 s4 wr => ∃ k : Nat, k + gk = t.D.length ∧ s3 = .int .i64 (k : Int) ∧ Hid (((t.D.map (·.name)).take k).Nodup) ∧ Below Y.heap.size Y wr)
  case atStart => exact ⟨0, by omega, rfl, by show List.Nodup _; simp, Below.refl _ _⟩
  case round =>
    obtain ⟨k, hk, rfl, hA, hb⟩ := hrel
    obtain ⟨_, q, _⟩ := id (HY.below hb)
    by_cases hlt : k < t.D.length
    · have t1 : (k : Int) < (t.D.length : Int) := by omega
      have t0 : (0 : Int) ≤ (k : Int) := by omega
      go_wp2
      obtain ⟨gko, rfl⟩ : ∃ x, x = gk := ⟨_, rfl⟩
      obtain ⟨wo, rfl⟩ : ∃ x, x = wr := ⟨_, rfl⟩
      go_loopg [4] k (fun gk s4 wr => ∃ j : Nat, j + gk = k ∧ s4 = .int .i64 (j : Int) ∧ Hid (∀ i, ∀ hi : i < j, ∀ hj : j ≤ k, (t.D[i]'(by omega)).name ≠ t.D[k].name) ∧ Below Y.heap.size Y wr)
      case atStart => exact ⟨0, by omega, rfl, fun i hi => by omega, hb⟩
      case round =>
        obtain ⟨j, hj, rfl, hI, hbi⟩ := hrel
        obtain ⟨_, qi, _⟩ := id (HY.below hbi)
        by_cases hlj : j < k
        · obtain ⟨g, o, rfl, hg, P⟩ := (hRR.out.d.ln).resolve_left (by intro e; rw [e] at hlt; simp at hlt)
          have p0 := (hbi.cell (p := ⟨g, _, none⟩) hg).trans (P k hlt 0 _ rfl)
          have r0 := (hbi.cell (p := ⟨g, _, none⟩) hg).trans (P j (by omega) 0 _ rfl)
          simp only [Nat.add_zero] at p0 r0
          have u1 : (j : Int) < (k : Int) := by omega
          have u0 : (0 : Int) ≤ (j : Int) := by omega
          have u2 : (j : Int) < (t.D.length : Int) := by omega
          have hjl : j < t.D.length := by omega
          have hbad : Hid (t.D[j].name = t.D[k].name → R = true) := by
            intro e
            exact f1.out (nd_not _ j k hlj (by simpa using hlt) (by simpa using e))
          have hgood : Hid (t.D[j].name ≠ t.D[k].name → ∀ i, ∀ hi : i < j + 1, ∀ hj : j + 1 ≤ k, (t.D[i]'(by omega)).name ≠ t.D[k].name) := by
            intro h i hi _
            rcases Nat.lt_or_ge i j with h2 | h2
            · exact hI.out i h2 (by omega)
            · obtain rfl : i = j := by omega
              exact h
          clear P hI hA
          generalize t.D[k].name = x at *
          generalize t.D[j].name = y at *
          by_cases hxy : y = x
          · have hE2 : Hid (R = true) := hbad.out hxy
            have hq : (x.toList == y.toList) = true := by rw [hxy]; simp
            have hq2 : (y.toList == x.toList) = true := by rw [hxy]; simp
            clear hxy hgood hbad
            go_wp2
            go_quiet (fail)
            go_wp2
            go_ret
            exact ⟨ret_bool hE2.out.symm, belT HB (bel_drewN hbi)⟩
          · have hE2 := hgood.out hxy
            have hE3 : Hid (∀ i, ∀ hi : i < j + 1, ∀ hj : j + 1 ≤ k, (t.D[i]'(by omega)).name ≠ x) := hE2
            have hq : (x.toList == y.toList) = false := beq_eq_false_iff_ne.2 (fun e => hxy (tl_inj e).symm)
            have hq2 : (y.toList == x.toList) = false := beq_eq_false_iff_ne.2 (fun e => hxy (tl_inj e))
            clear hxy hgood hbad hE2
            go_wp2
            go_quiet (fail)
            go_wp2
            go_roundg (gk - 1)
            case measure => go_light; omega
            case rel => exact ⟨j + 1, by omega, by go_num, hE3, bel_drewN hbi⟩
        · obtain rfl : j = k := by omega
          have u1 : ¬ (j : Int) < (j : Int) := by omega
          have hA2 : Hid (((t.D.map (·.name)).take (j + 1)).Nodup) := nd_take _ j (by simpa using hlt) hA.out (fun i hi => by simpa using hI.out i hi (Nat.le_refl _))
          clear hI hA
          go_wp2
          go_roundg (gko - 1)
          case measure => go_light; omega
          case rel => exact ⟨j + 1, by omega, by go_num, hA2, hbi⟩
    · obtain rfl : k = t.D.length := by omega
      have t1 : ¬ (t.D.length : Int) < (t.D.length : Int) := by omega
      have hTD : Hid ((t.D.map (·.name)).Nodup) := by
        have := hA.out
        rwa [List.take_of_length_le (by simp)] at this
      clear hA
      go_wp2
      go_loopg [5, 6] t.X.length (fun gk s5 s6 wr => ∃ k : Nat, k + gk = t.X.length ∧ s5 = .int .i64 (k : Int) ∧ Hid (((t.X.map (·.day)).take k).Nodup) ∧ Below Y.heap.size Y wr)
      case atStart => exact ⟨0, by omega, rfl, by show List.Nodup _; simp, hb⟩
      case round =>
        obtain ⟨k, hk, rfl, hA, hb⟩ := hrel
        obtain ⟨_, q, _⟩ := id (HY.below hb)
        by_cases hlt : k < t.X.length
        · have t1 : (k : Int) < (t.X.length : Int) := by omega
          have t0 : (0 : Int) ≤ (k : Int) := by omega
          go_wp2
          obtain ⟨gko, rfl⟩ : ∃ x, x = gk := ⟨_, rfl⟩
          obtain ⟨wo, rfl⟩ : ∃ x, x = wr := ⟨_, rfl⟩
          go_loopg [6] k (fun gk s6 wr => ∃ j : Nat, j + gk = k ∧ s6 = .int .i64 (j : Int) ∧ Hid (∀ i, ∀ hi : i < j, ∀ hj : j ≤ k, (t.X[i]'(by omega)).day ≠ t.X[k].day) ∧ Below Y.heap.size Y wr)
          case atStart => exact ⟨0, by omega, rfl, fun i hi => by omega, hb⟩
          case round =>
            obtain ⟨j, hj, rfl, hI, hbi⟩ := hrel
            obtain ⟨_, qi, _⟩ := id (HY.below hbi)
            by_cases hlj : j < k
            · obtain ⟨g, o, rfl, hg, P⟩ := (hRR.out.x.ln).resolve_left (by intro e; rw [e] at hlt; simp at hlt)
              have p0 := (hbi.cell (p := ⟨g, _, none⟩) hg).trans (P k hlt 0 _ rfl)
              have r0 := (hbi.cell (p := ⟨g, _, none⟩) hg).trans (P j (by omega) 0 _ rfl)
              simp only [Nat.add_zero] at p0 r0
              have u1 : (j : Int) < (k : Int) := by omega
              have u0 : (0 : Int) ≤ (j : Int) := by omega
              have u2 : (j : Int) < (t.X.length : Int) := by omega
              have hjl : j < t.X.length := by omega
              have hbad : Hid (t.X[j].day = t.X[k].day → R = true) := by
                intro e
                exact f2.out (nd_not _ j k hlj (by simpa using hlt) (by simpa using e))
              have hgood : Hid (t.X[j].day ≠ t.X[k].day → ∀ i, ∀ hi : i < j + 1, ∀ hj : j + 1 ≤ k, (t.X[i]'(by omega)).day ≠ t.X[k].day) := by
                intro h i hi _
                rcases Nat.lt_or_ge i j with h2 | h2
                · exact hI.out i h2 (by omega)
                · obtain rfl : i = j := by omega
                  exact h
              clear P hI hA
              generalize t.X[k].day = x at *
              generalize t.X[j].day = y at *
              by_cases hxy : y = x
              · have hE2 : Hid (R = true) := hbad.out hxy
                have hq : (x == y) = true := beq_iff_eq.2 hxy.symm
                clear hxy hgood hbad
                go_wp2
                go_quiet (fail)
                go_wp2
                go_ret
                exact ⟨ret_bool hE2.out.symm, belT HB (bel_drewN hbi)⟩
              · have hE2 := hgood.out hxy
                have hE3 : Hid (∀ i, ∀ hi : i < j + 1, ∀ hj : j + 1 ≤ k, (t.X[i]'(by omega)).day ≠ x) := hE2
                have hq : (x == y) = false := beq_eq_false_iff_ne.2 (fun e => hxy e.symm)
                clear hxy hgood hbad hE2
                go_wp2
                go_quiet (fail)
                go_wp2
                go_roundg (gk - 1)
                case measure => go_light; omega
                case rel => exact ⟨j + 1, by omega, by go_num, hE3, bel_drewN hbi⟩
            · obtain rfl : j = k := by omega
              have u1 : ¬ (j : Int) < (j : Int) := by omega
              have hA2 : Hid (((t.X.map (·.day)).take (j + 1)).Nodup) := nd_take _ j (by simpa using hlt) hA.out (fun i hi => by simpa using hI.out i hi (Nat.le_refl _))
              clear hI hA
              go_wp2
              go_roundg (gko - 1)
              case measure => go_light; omega
              case rel => exact ⟨j + 1, by omega, by go_num, hA2, hbi⟩
        · obtain rfl : k = t.X.length := by omega
          have t1 : ¬ (t.X.length : Int) < (t.X.length : Int) := by omega
          have hTX : Hid ((t.X.map (·.day)).Nodup) := by
            have := hA.out
            rwa [List.take_of_length_le (by simp)] at this
          clear hA
          have hE2 : Hid (R = false) := f4.out hTD.out hTX.out
          go_wp2
          go_ret
          exact ⟨ret_bool hE2.out.symm, belT HB hb⟩
end Go.Proofs.YtddphepgcihdbaaGreat
