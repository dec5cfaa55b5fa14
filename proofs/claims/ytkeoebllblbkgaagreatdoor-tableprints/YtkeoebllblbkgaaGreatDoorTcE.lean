import Derived.Test.YtkeoebllblbkgaaGreatDoorTcA
import Derived.Test.YtkeoebllblbkgaaGreatDoorTbC
namespace Go.Proofs.YtkeoebllblbkgaaGreatDoor
open Go.RowKit
set_option linter.unusedVariables false
set_option linter.unusedSimpArgs false

set_option maxRecDepth 100000 in
set_option maxHeartbeats 4000000 in
theorem rising_any (t : Tt) (aD aS aX aH : Option Addr) (cD cS cX cH : Nat) (w : World) (hR : TR w t (.slice aD t.D.length cD) (.slice aS t.S.length cS) (.slice aX t.X.length cX) (.slice aH t.H.length cH)) : Calls Tryz.prog 35 #[.agg #[.string t.nm, .slice aD t.D.length cD, .int .i64 t.w0, .int .i64 t.w1, .int .i64 t.w2, .int .i64 t.w3, .int .i64 t.w4, .int .i64 t.w5, .int .i64 t.w6, .slice aS t.S.length cS, .slice aX t.X.length cX, .slice aH t.H.length cH]] w fun e w' => e = .returned (.bool t.ordB) ∧ Below w.heap.size w w' := by
  have f1 : Hid (t.D.all (fun x => riB (x.rows.map (·.m))) = false → t.ordB = false) := by intro h; simp only [Tt.ordB, h]; simp
  have f2 : Hid (riB (t.H.map (·.m)) = false → t.ordB = false) := by intro h; simp only [Tt.ordB, h]; simp
  have f4 : Hid (t.D.all (fun x => riB (x.rows.map (·.m))) = true → riB (t.H.map (·.m)) = true → t.ordB = true) := by intro h1 h2; simp only [Tt.ordB, h1, h2]; simp
  generalize t.ordB = R at *
  have dl := hR.dl
  have sl := hR.sl
  have xl := hR.xl
  have hl := hR.hl
  go_enter Tryz.func35, Tryz.ntmps35
  go_wp2
  have HY : Has (w.alloc (.cells #[.string t.nm, .slice aD t.D.length cD, .int .i64 t.w0, .int .i64 t.w1, .int .i64 t.w2, .int .i64 t.w3, .int .i64 t.w4, .int .i64 t.w5, .int .i64 t.w6, .slice aS t.S.length cS, .slice aX t.X.length cX, .slice aH t.H.length cH] 28)) w.heap.size #[.string t.nm, .slice aD t.D.length cD, .int .i64 t.w0, .int .i64 t.w1, .int .i64 t.w2, .int .i64 t.w3, .int .i64 t.w4, .int .i64 t.w5, .int .i64 t.w6, .slice aS t.S.length cS, .slice aX t.X.length cX, .slice aH t.H.length cH] := Has.new _ _ _ rfl
  have HB : Below w.heap.size w (w.alloc (.cells #[.string t.nm, .slice aD t.D.length cD, .int .i64 t.w0, .int .i64 t.w1, .int .i64 t.w2, .int .i64 t.w3, .int .i64 t.w4, .int .i64 t.w5, .int .i64 t.w6, .slice aS t.S.length cS, .slice aX t.X.length cX, .slice aH t.H.length cH] 28)) := bel1
  have hRR : Hid (TR (w.alloc (.cells #[.string t.nm, .slice aD t.D.length cD, .int .i64 t.w0, .int .i64 t.w1, .int .i64 t.w2, .int .i64 t.w3, .int .i64 t.w4, .int .i64 t.w5, .int .i64 t.w6, .slice aS t.S.length cS, .slice aX t.X.length cX, .slice aH t.H.length cH] 28)) t (.slice aD t.D.length cD) (.slice aS t.S.length cS) (.slice aX t.X.length cX) (.slice aH t.H.length cH)) := hR.below HB
  generalize (w.alloc (.cells #[.string t.nm, .slice aD t.D.length cD, .int .i64 t.w0, .int .i64 t.w1, .int .i64 t.w2, .int .i64 t.w3, .int .i64 t.w4, .int .i64 t.w5, .int .i64 t.w6, .slice aS t.S.length cS, .slice aX t.X.length cX, .slice aH t.H.length cH] 28)) = Y at *
  clear hR
  go_loopg [3, 4, 5] t.D.length (fun gk s3 s4 s5 wr => ∃ k : Nat, k + gk = t.D.length ∧ s3 = .int .i64 (k : Int) ∧ Hid ((t.D.drop k).all (fun x => riB (x.rows.map (·.m))) = t.D.all (fun x => riB (x.rows.map (·.m)))) ∧ Below Y.heap.size Y wr)
  case atStart => exact ⟨0, by omega, rfl, rfl, Below.refl _ _⟩
  case round =>
    obtain ⟨k, hk, rfl, hA, hb⟩ := hrel
    obtain ⟨_, q, _⟩ := id (HY.below hb)
    by_cases hlt : k < t.D.length
    · have hE : Hid (t.D.all (fun x => riB (x.rows.map (·.m))) = ((fun x => riB (x.rows.map (·.m))) t.D[k] && (t.D.drop (k + 1)).all (fun x => riB (x.rows.map (·.m))))) := by show _ = _; rw [← hA.out, all_drop _ _ k hlt]
      clear hA
      obtain ⟨g, o, rfl, hg, P⟩ := (hRR.out.d.ln).resolve_left (by intro e; rw [e] at hlt; simp at hlt)
      have p0 := (hb.cell (p := ⟨g, _, none⟩) hg).trans (P k hlt 0 _ rfl)
      have p1 := (hb.cell (p := ⟨g, _, none⟩) hg).trans (P k hlt 1 _ rfl)
      simp only [Nat.add_zero] at p0
      have t1 : (k : Int) < (t.D.length : Int) := by omega
      have t0 : (0 : Int) ≤ (k : Int) := by omega
      have hsn : (fun x => riB (x.rows.map (·.m))) t.D[k] = riB (t.D[k].rows.map (·.m)) := rfl
      rw [hsn] at hE
      clear hsn
      obtain ⟨ra, rc, hrv, kr⟩ := (hRR.out.r _ (List.getElem_mem hlt)).any
      have lr := hRR.out.rl _ (List.getElem_mem hlt)
      rw [hrv] at p1
      clear hrv
      generalize t.D[k].name = z0 at *
      generalize t.D[k].rows = rws at *
      go_wp2
      obtain ⟨gko, rfl⟩ : ∃ x, x = gk := ⟨_, rfl⟩
      obtain ⟨wo, rfl⟩ : ∃ x, x = wr := ⟨_, rfl⟩
      have hst : Hid (∀ j, ∀ h : j + 1 < rws.length, riB ((rws.map (·.m)).drop j) = (decide (rws[j].m < rws[j + 1].m) && riB ((rws.map (·.m)).drop (j + 1)))) := by
        intro j h; rw [ri_step _ j (by simpa using h)]; simp
      have hen : Hid (∀ j, rws.length ≤ j + 1 → riB ((rws.map (·.m)).drop j) = true) := fun j h => ri_end _ j (by simpa using h)
      go_loopg [5] (rws.length - 1) (fun gk s5 wr => ∃ j : Nat, j + gk = rws.length - 1 ∧ s5 = .int .i64 ((j : Int) + 1) ∧ Hid (riB ((rws.map (·.m)).drop j) = riB (rws.map (·.m))) ∧ Below Y.heap.size Y wr)
      case atStart => exact ⟨0, by omega, rfl, rfl, hb⟩
      case round =>
        obtain ⟨j, hj, rfl, hA, hbi⟩ := hrel
        obtain ⟨_, qi, _⟩ := id (HY.below hbi)
        by_cases hlj : j + 1 < rws.length
        · have hEj : Hid (riB (rws.map (·.m)) = (decide (rws[j].m < rws[j + 1].m) && riB ((rws.map (·.m)).drop (j + 1)))) := by show _ = _; rw [← hA.out, hst.out j hlj]
          obtain ⟨gr, og, rfl, hgr, Pr⟩ := kr.resolve_left (by intro e; rw [e] at hlj; simp at hlj)
          have r0 := (hbi.cell (p := ⟨gr, _, none⟩) hgr).trans (Pr j (by omega) 0 _ rfl)
          have r2 := (hbi.cell (p := ⟨gr, _, none⟩) hgr).trans (Pr (j + 1) hlj 0 _ rfl)
          simp only [Nat.add_zero] at r0 r2
          have u1 : (j : Int) + 1 < (rws.length : Int) := by omega
          have u0 : (0 : Int) ≤ (j : Int) := by omega
          have u2 : (j : Int) < (rws.length : Int) := by omega
          have u3 : (0 : Int) ≤ (j : Int) + 1 := by omega
          have wj : IntKind.i64.wrap (j : Int) = (j : Int) := wrap64 _ (by omega)
          clear Pr hA P kr
          generalize rws[j].m = y0 at *
          generalize rws[j + 1].m = y1 at *
          by_cases hlt2 : y0 < y1
          · have hle : ¬ y1 ≤ y0 := by omega
            have hE2 : Hid (riB ((rws.map (·.m)).drop (j + 1)) = riB (rws.map (·.m))) := by show _ = _; rw [hEj.out]; simp [hlt2]
            go_wp2
            go_quiet (fail)
            go_wp2
            go_roundg (gk - 1)
            case measure => go_light; omega
            case rel => exact ⟨j + 1, by omega, by go_num, hE2, bel_drewN hbi⟩
          · have hle : y1 ≤ y0 := by omega
            have hE2 : Hid (R = false) := f1.out (by rw [hE.out, hEj.out]; simp [hlt2])
            go_wp2
            go_quiet (fail)
            go_wp2
            go_ret
            exact ⟨ret_bool hE2.out.symm, belT HB (bel_drewN hbi)⟩
        · have u1 : ¬ (j : Int) + 1 < (rws.length : Int) := by omega
          have hTj : Hid (riB (rws.map (·.m)) = true) := by show _ = _; rw [← hA.out, hen.out j (by omega)]
          clear hA P kr
          have hE2 : Hid ((t.D.drop (k + 1)).all (fun x => riB (x.rows.map (·.m))) = t.D.all (fun x => riB (x.rows.map (·.m)))) := by show _ = _; rw [hE.out, hTj.out]; simp
          go_wp2
          go_roundg (gko - 1)
          case measure => go_light; omega
          case rel => exact ⟨k + 1, by omega, by go_num, hE2, hbi⟩
    · obtain rfl : k = t.D.length := by omega
      have t1 : ¬ (t.D.length : Int) < (t.D.length : Int) := by omega
      have hTD : Hid (t.D.all (fun x => riB (x.rows.map (·.m))) = true) := by show _ = _; rw [← hA.out]; simp
      clear hA
      go_wp2
      have hst : Hid (∀ j, ∀ h : j + 1 < t.H.length, riB ((t.H.map (·.m)).drop j) = (decide (t.H[j].m < t.H[j + 1].m) && riB ((t.H.map (·.m)).drop (j + 1)))) := by
        intro j h; rw [ri_step _ j (by simpa using h)]; simp
      have hen : Hid (∀ j, t.H.length ≤ j + 1 → riB ((t.H.map (·.m)).drop j) = true) := fun j h => ri_end _ j (by simpa using h)
      go_loopg [6] (t.H.length - 1) (fun gk s6 wr => ∃ j : Nat, j + gk = t.H.length - 1 ∧ s6 = .int .i64 ((j : Int) + 1) ∧ Hid (riB ((t.H.map (·.m)).drop j) = riB (t.H.map (·.m))) ∧ Below Y.heap.size Y wr)
      case atStart => exact ⟨0, by omega, rfl, rfl, hb⟩
      case round =>
        obtain ⟨j, hj, rfl, hA, hbi⟩ := hrel
        obtain ⟨_, qi, _⟩ := id (HY.below hbi)
        by_cases hlj : j + 1 < t.H.length
        · have hEj : Hid (riB (t.H.map (·.m)) = (decide (t.H[j].m < t.H[j + 1].m) && riB ((t.H.map (·.m)).drop (j + 1)))) := by show _ = _; rw [← hA.out, hst.out j hlj]
          obtain ⟨gr, og, rfl, hgr, Pr⟩ := (hRR.out.h.ln).resolve_left (by intro e; rw [e] at hlj; simp at hlj)
          have r0 := (hbi.cell (p := ⟨gr, _, none⟩) hgr).trans (Pr j (by omega) 0 _ rfl)
          have r2 := (hbi.cell (p := ⟨gr, _, none⟩) hgr).trans (Pr (j + 1) hlj 0 _ rfl)
          simp only [Nat.add_zero] at r0 r2
          have u1 : (j : Int) + 1 < (t.H.length : Int) := by omega
          have u0 : (0 : Int) ≤ (j : Int) := by omega
          have u2 : (j : Int) < (t.H.length : Int) := by omega
          have u3 : (0 : Int) ≤ (j : Int) + 1 := by omega
          have wj : IntKind.i64.wrap (j : Int) = (j : Int) := wrap64 _ (by omega)
          clear Pr hA 
          generalize t.H[j].m = y0 at *
          generalize t.H[j + 1].m = y1 at *
          by_cases hlt2 : y0 < y1
          · have hle : ¬ y1 ≤ y0 := by omega
            have hE2 : Hid (riB ((t.H.map (·.m)).drop (j + 1)) = riB (t.H.map (·.m))) := by show _ = _; rw [hEj.out]; simp [hlt2]
            go_wp2
            go_quiet (fail)
            go_wp2
            go_roundg (gk - 1)
            case measure => go_light; omega
            case rel => exact ⟨j + 1, by omega, by go_num, hE2, bel_drewN hbi⟩
          · have hle : y1 ≤ y0 := by omega
            have hE2 : Hid (R = false) := f2.out (by rw [hEj.out]; simp [hlt2])
            go_wp2
            go_quiet (fail)
            go_wp2
            go_ret
            exact ⟨ret_bool hE2.out.symm, belT HB (bel_drewN hbi)⟩
        · have u1 : ¬ (j : Int) + 1 < (t.H.length : Int) := by omega
          have hTj : Hid (riB (t.H.map (·.m)) = true) := by show _ = _; rw [← hA.out, hen.out j (by omega)]
          clear hA 
          have hE2 : Hid (R = true) := f4.out hTD.out hTj.out
          go_wp2
          go_ret
          exact ⟨ret_bool hE2.out.symm, belT HB hbi⟩
end Go.Proofs.YtkeoebllblbkgaaGreatDoor
