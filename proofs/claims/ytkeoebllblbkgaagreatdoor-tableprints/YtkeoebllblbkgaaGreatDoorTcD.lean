import Derived.Test.YtkeoebllblbkgaaGreatDoorTcA
namespace Go.Proofs.YtkeoebllblbkgaaGreatDoor
open Go.RowKit
set_option linter.unusedVariables false
set_option linter.unusedSimpArgs false

set_option maxRecDepth 100000 in
set_option maxHeartbeats 4000000 in
theorem clocks_any (t : Tt) (aD aS aX aH : Option Addr) (cD cS cX cH : Nat) (w : World) (hR : TR w t (.slice aD t.D.length cD) (.slice aS t.S.length cS) (.slice aX t.X.length cX) (.slice aH t.H.length cH)) : Calls Tryz.prog 32 #[.agg #[.string t.nm, .slice aD t.D.length cD, .int .i64 t.w0, .int .i64 t.w1, .int .i64 t.w2, .int .i64 t.w3, .int .i64 t.w4, .int .i64 t.w5, .int .i64 t.w6, .slice aS t.S.length cS, .slice aX t.X.length cX, .slice aH t.H.length cH]] w fun e w' => e = .returned (.bool t.clkB) ∧ Below w.heap.size w w' := by
  have f1 : Hid (t.D.all (fun x => x.rows.all rwB) = false → t.clkB = false) := by intro h; simp only [Tt.clkB, h]; simp
  have f2 : Hid (t.H.all (fun x => inB x.plus (-720) 840) = false → t.clkB = false) := by intro h; simp only [Tt.clkB, h]; simp
  have f4 : Hid (t.D.all (fun x => x.rows.all rwB) = true → t.H.all (fun x => inB x.plus (-720) 840) = true → t.clkB = true) := by intro h1 h2; simp only [Tt.clkB, h1, h2]; simp
  generalize t.clkB = R at *
  have dl := hR.dl
  have sl := hR.sl
  have xl := hR.xl
  have hl := hR.hl
  go_enter Tryz.func32, Tryz.ntmps32
  go_wp2
  have HY : Has (w.alloc (.cells #[.string t.nm, .slice aD t.D.length cD, .int .i64 t.w0, .int .i64 t.w1, .int .i64 t.w2, .int .i64 t.w3, .int .i64 t.w4, .int .i64 t.w5, .int .i64 t.w6, .slice aS t.S.length cS, .slice aX t.X.length cX, .slice aH t.H.length cH] 28)) w.heap.size #[.string t.nm, .slice aD t.D.length cD, .int .i64 t.w0, .int .i64 t.w1, .int .i64 t.w2, .int .i64 t.w3, .int .i64 t.w4, .int .i64 t.w5, .int .i64 t.w6, .slice aS t.S.length cS, .slice aX t.X.length cX, .slice aH t.H.length cH] := Has.new _ _ _ rfl
  have HB : Below w.heap.size w (w.alloc (.cells #[.string t.nm, .slice aD t.D.length cD, .int .i64 t.w0, .int .i64 t.w1, .int .i64 t.w2, .int .i64 t.w3, .int .i64 t.w4, .int .i64 t.w5, .int .i64 t.w6, .slice aS t.S.length cS, .slice aX t.X.length cX, .slice aH t.H.length cH] 28)) := bel1
  have hRR : Hid (TR (w.alloc (.cells #[.string t.nm, .slice aD t.D.length cD, .int .i64 t.w0, .int .i64 t.w1, .int .i64 t.w2, .int .i64 t.w3, .int .i64 t.w4, .int .i64 t.w5, .int .i64 t.w6, .slice aS t.S.length cS, .slice aX t.X.length cX, .slice aH t.H.length cH] 28)) t (.slice aD t.D.length cD) (.slice aS t.S.length cS) (.slice aX t.X.length cX) (.slice aH t.H.length cH)) := hR.below HB
  generalize (w.alloc (.cells #[.string t.nm, .slice aD t.D.length cD, .int .i64 t.w0, .int .i64 t.w1, .int .i64 t.w2, .int .i64 t.w3, .int .i64 t.w4, .int .i64 t.w5, .int .i64 t.w6, .slice aS t.S.length cS, .slice aX t.X.length cX, .slice aH t.H.length cH] 28)) = Y at *
  clear hR
  go_loopg [3, 4, 5] t.D.length (fun gk s3 s4 s5 wr => ∃ k : Nat, k + gk = t.D.length ∧ s3 = .int .i64 (k : Int) ∧ Hid ((t.D.drop k).all (fun x => x.rows.all rwB) = t.D.all (fun x => x.rows.all rwB)) ∧ Below Y.heap.size Y wr)
  case atStart => exact ⟨0, by omega, rfl, rfl, Below.refl _ _⟩
  case round =>
    obtain ⟨k, hk, rfl, hA, hb⟩ := hrel
    obtain ⟨_, q, _⟩ := id (HY.below hb)
    by_cases hlt : k < t.D.length
    · have hE : Hid (t.D.all (fun x => x.rows.all rwB) = ((fun x => x.rows.all rwB) t.D[k] && (t.D.drop (k + 1)).all (fun x => x.rows.all rwB))) := by show _ = _; rw [← hA.out, all_drop _ _ k hlt]
      clear hA
      obtain ⟨g, o, rfl, hg, P⟩ := (hRR.out.d.ln).resolve_left (by intro e; rw [e] at hlt; simp at hlt)
      have p0 := (hb.cell (p := ⟨g, _, none⟩) hg).trans (P k hlt 0 _ rfl)
      have p1 := (hb.cell (p := ⟨g, _, none⟩) hg).trans (P k hlt 1 _ rfl)
      simp only [Nat.add_zero] at p0
      have t1 : (k : Int) < (t.D.length : Int) := by omega
      have t0 : (0 : Int) ≤ (k : Int) := by omega
      have hsn : (fun x => x.rows.all rwB) t.D[k] = t.D[k].rows.all rwB := rfl
      rw [hsn] at hE
      clear hsn
      obtain ⟨ra, rc, hrv, kr⟩ := (hRR.out.r _ (List.getElem_mem hlt)).any
      have lr := hRR.out.rl _ (List.getElem_mem hlt)
      rw [hrv] at p1
      clear hrv
      generalize t.D[k].name = z0 at *
      generalize t.D[k].rows = rws at *
      go_wp2
      obtain ⟨gko, rfl⟩ : ∃ x, x = gk := ⟨_, rfl⟩
      obtain ⟨wo, rfl⟩ : ∃ x, x = wr := ⟨_, rfl⟩
      go_loopg [4, 5] rws.length (fun gj s4 s5 wi => ∃ j : Nat, j + gj = rws.length ∧ s4 = .int .i64 (j : Int) ∧ Hid ((rws.drop j).all rwB = rws.all rwB) ∧ Below Y.heap.size Y wi)
      case atStart => exact ⟨0, by omega, rfl, rfl, hb⟩
      case round =>
        obtain ⟨j, hj, rfl, hA, hbi⟩ := hrel
        obtain ⟨_, qi, _⟩ := id (HY.below hbi)
        have m1 := (hbi.cell (p := ⟨g, _, none⟩) hg).trans ((hb.cell (p := ⟨g, _, none⟩) hg).symm.trans p1)
        by_cases hlj : j < rws.length
        · have hEj : Hid (rws.all rwB = (rwB rws[j] && (rws.drop (j + 1)).all rwB)) := by show _ = _; rw [← hA.out, all_drop _ _ j hlj]
          obtain ⟨gr, og, rfl, hgr, Pr⟩ := kr.resolve_left (by intro e; rw [e] at hlj; simp at hlj)
          have r0 := (hbi.cell (p := ⟨gr, _, none⟩) hgr).trans (Pr j hlj 0 _ rfl)
          have r1 := (hbi.cell (p := ⟨gr, _, none⟩) hgr).trans (Pr j hlj 1 _ rfl)
          simp only [Nat.add_zero] at r0
          have u1 : (j : Int) < (rws.length : Int) := by omega
          have u0 : (0 : Int) ≤ (j : Int) := by omega
          have c1 := fun W => within_any rws[j].m 0 1439 W
          have c2 := fun W => within_any rws[j].s (-1) 7 W
          have hsn : rwB rws[j] = (inB rws[j].m 0 1439 && inB rws[j].s (-1) 7) := rfl
          have hbb : Below Y.heap.size Y (wr.alloc (.cells #[.int .i64 rws[j].m, .int .i64 rws[j].s] 43)) := belT hbi bel1
          rw [hsn] at hEj
          clear hsn Pr hA P kr
          generalize inB rws[j].m 0 1439 = a at *
          generalize inB rws[j].s (-1) 7 = b at *
          generalize rws[j].m = y0 at *
          generalize rws[j].s = y1 at *
          cases a with
          | false =>
            have hE2 : Hid (R = false) := f1.out (by rw [hE.out, hEj.out]; simp)
            go_wp2_with (first | (go_at_call 75; (with_reducible refine (c1 _).mono ?_); rintro e w' ⟨rfl, rfl⟩) | (go_at_call 75; (with_reducible refine (c2 _).mono ?_); rintro e w' ⟨rfl, rfl⟩))
            go_ret
            exact ⟨ret_bool hE2.out.symm, belT HB hbb⟩
          | true =>
            cases b with
            | false =>
              have hE2 : Hid (R = false) := f1.out (by rw [hE.out, hEj.out]; simp)
              go_wp2_with (first | (go_at_call 75; (with_reducible refine (c1 _).mono ?_); rintro e w' ⟨rfl, rfl⟩) | (go_at_call 75; (with_reducible refine (c2 _).mono ?_); rintro e w' ⟨rfl, rfl⟩))
              go_ret
              exact ⟨ret_bool hE2.out.symm, belT HB hbb⟩
            | true =>
              have hE2 : Hid ((rws.drop (j + 1)).all rwB = rws.all rwB) := by show _ = _; rw [hEj.out]; simp
              go_wp2_with (first | (go_at_call 75; (with_reducible refine (c1 _).mono ?_); rintro e w' ⟨rfl, rfl⟩) | (go_at_call 75; (with_reducible refine (c2 _).mono ?_); rintro e w' ⟨rfl, rfl⟩))
              go_roundg (gk - 1)
              case measure => go_light; omega
              case rel => exact ⟨j + 1, by omega, by go_num, hE2, hbb⟩
        · obtain rfl : j = rws.length := by omega
          have u1 : ¬ (rws.length : Int) < (rws.length : Int) := by omega
          have hTj : Hid (rws.all rwB = true) := by show _ = _; rw [← hA.out]; simp
          have hE2 : Hid ((t.D.drop (k + 1)).all (fun x => x.rows.all rwB) = t.D.all (fun x => x.rows.all rwB)) := by show _ = _; rw [hE.out, hTj.out]; simp
          clear hA P kr
          go_wp2
          go_roundg (gko - 1)
          case measure => go_light; omega
          case rel => exact ⟨k + 1, by omega, by go_num, hE2, hbi⟩
    · obtain rfl : k = t.D.length := by omega
      have t1 : ¬ (t.D.length : Int) < (t.D.length : Int) := by omega
      have hTD : Hid (t.D.all (fun x => x.rows.all rwB) = true) := by show _ = _; rw [← hA.out]; simp
      clear hA
      go_wp2
      go_loopg [6] t.H.length (fun gk s6 wr => ∃ k : Nat, k + gk = t.H.length ∧ s6 = .int .i64 (k : Int) ∧ Hid ((t.H.drop k).all (fun x => inB x.plus (-720) 840) = t.H.all (fun x => inB x.plus (-720) 840)) ∧ Below Y.heap.size Y wr)
      case atStart => exact ⟨0, by omega, rfl, rfl, hb⟩
      case round =>
        obtain ⟨k, hk, rfl, hA, hb⟩ := hrel
        obtain ⟨_, q, _⟩ := id (HY.below hb)
        by_cases hlt : k < t.H.length
        · have hE : Hid (t.H.all (fun x => inB x.plus (-720) 840) = ((fun x => inB x.plus (-720) 840) t.H[k] && (t.H.drop (k + 1)).all (fun x => inB x.plus (-720) 840))) := by show _ = _; rw [← hA.out, all_drop _ _ k hlt]
          clear hA
          obtain ⟨g, o, rfl, hg, P⟩ := (hRR.out.h.ln).resolve_left (by intro e; rw [e] at hlt; simp at hlt)
          have p0 := (hb.cell (p := ⟨g, _, none⟩) hg).trans (P k hlt 0 _ rfl)
          have p1 := (hb.cell (p := ⟨g, _, none⟩) hg).trans (P k hlt 1 _ rfl)
          simp only [Nat.add_zero] at p0
          have t1 : (k : Int) < (t.H.length : Int) := by omega
          have t0 : (0 : Int) ≤ (k : Int) := by omega
          have c1 := fun W => within_any t.H[k].plus (-720) 840 W
          have hsn : (fun x => inB x.plus (-720) 840) t.H[k] = inB t.H[k].plus (-720) 840 := rfl
          rw [hsn] at hE
          clear hsn P
          generalize inB t.H[k].plus (-720) 840 = a at *
          generalize t.H[k].m = z0 at *
          generalize t.H[k].plus = z1 at *
          cases a with
          | false =>
            have hE2 : Hid (R = false) := f2.out (by rw [hE.out]; simp)
            go_wp2_with (go_at_call 75; (with_reducible refine (c1 _).mono ?_); rintro e w' ⟨rfl, rfl⟩)
            go_ret
            exact ⟨ret_bool hE2.out.symm, belT HB hb⟩
          | true =>
            have hE2 : Hid ((t.H.drop (k + 1)).all (fun x => inB x.plus (-720) 840) = t.H.all (fun x => inB x.plus (-720) 840)) := by show _ = _; rw [hE.out]; simp
            go_wp2_with (go_at_call 75; (with_reducible refine (c1 _).mono ?_); rintro e w' ⟨rfl, rfl⟩)
            go_roundg (gk - 1)
            case measure => go_light; omega
            case rel => exact ⟨k + 1, by omega, by go_num, hE2, hb⟩
        · obtain rfl : k = t.H.length := by omega
          have t1 : ¬ (t.H.length : Int) < (t.H.length : Int) := by omega
          have hTH : Hid (t.H.all (fun x => inB x.plus (-720) 840) = true) := by show _ = _; rw [← hA.out]; simp
          clear hA
          have hE2 : Hid (R = true) := f4.out hTD.out hTH.out
          go_wp2
          go_ret
          exact ⟨ret_bool hE2.out.symm, belT HB hb⟩
end Go.Proofs.YtkeoebllblbkgaaGreatDoor
