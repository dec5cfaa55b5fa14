import Derived.Test.YtkeoebllblbkgaaGreatDoorTcA
namespace Go.Proofs.YtkeoebllblbkgaaGreatDoor
open Go.RowKit
set_option linter.unusedVariables false
set_option linter.unusedSimpArgs false

set_option maxRecDepth 100000 in
set_option maxHeartbeats 4000000 in
theorem kinds_any (t : Tt) (aD aS aX aH : Option Addr) (cD cS cX cH : Nat) (w : World) (hR : TR w t (.slice aD t.D.length cD) (.slice aS t.S.length cS) (.slice aX t.X.length cX) (.slice aH t.H.length cH)) : Calls Tryz.prog 34 #[.agg #[.string t.nm, .slice aD t.D.length cD, .int .i64 t.w0, .int .i64 t.w1, .int .i64 t.w2, .int .i64 t.w3, .int .i64 t.w4, .int .i64 t.w5, .int .i64 t.w6, .slice aS t.S.length cS, .slice aX t.X.length cX, .slice aH t.H.length cH]] w fun e w' => e = .returned (.bool t.kinB) ∧ Below w.heap.size w w' := by
  have f1 : Hid (t.S.all (fun x => x.wk.all (kdB t.D.length)) = false → t.kinB = false) := by intro h; simp only [Tt.kinB, h]; simp
  have f2 : Hid (t.X.all (fun x => kdB t.D.length x.kind) = false → t.kinB = false) := by intro h; simp only [Tt.kinB, h]; simp
  have f4 : Hid (t.S.all (fun x => x.wk.all (kdB t.D.length)) = true → t.X.all (fun x => kdB t.D.length x.kind) = true → t.kinB = [t.w0, t.w1, t.w2, t.w3, t.w4, t.w5, t.w6].all (kdB t.D.length)) := by intro h1 h2; simp only [Tt.kinB, h1, h2, Tt.wk]; simp
  generalize t.kinB = R at *
  have dl := hR.dl
  have sl := hR.sl
  have xl := hR.xl
  have hl := hR.hl
  go_enter Tryz.func34, Tryz.ntmps34
  go_wp2
  have HY : Has (w.alloc (.cells #[.string t.nm, .slice aD t.D.length cD, .int .i64 t.w0, .int .i64 t.w1, .int .i64 t.w2, .int .i64 t.w3, .int .i64 t.w4, .int .i64 t.w5, .int .i64 t.w6, .slice aS t.S.length cS, .slice aX t.X.length cX, .slice aH t.H.length cH] 28)) w.heap.size #[.string t.nm, .slice aD t.D.length cD, .int .i64 t.w0, .int .i64 t.w1, .int .i64 t.w2, .int .i64 t.w3, .int .i64 t.w4, .int .i64 t.w5, .int .i64 t.w6, .slice aS t.S.length cS, .slice aX t.X.length cX, .slice aH t.H.length cH] := Has.new _ _ _ rfl
  have HB : Below w.heap.size w (w.alloc (.cells #[.string t.nm, .slice aD t.D.length cD, .int .i64 t.w0, .int .i64 t.w1, .int .i64 t.w2, .int .i64 t.w3, .int .i64 t.w4, .int .i64 t.w5, .int .i64 t.w6, .slice aS t.S.length cS, .slice aX t.X.length cX, .slice aH t.H.length cH] 28)) := bel1
  have hRR : Hid (TR (w.alloc (.cells #[.string t.nm, .slice aD t.D.length cD, .int .i64 t.w0, .int .i64 t.w1, .int .i64 t.w2, .int .i64 t.w3, .int .i64 t.w4, .int .i64 t.w5, .int .i64 t.w6, .slice aS t.S.length cS, .slice aX t.X.length cX, .slice aH t.H.length cH] 28)) t (.slice aD t.D.length cD) (.slice aS t.S.length cS) (.slice aX t.X.length cX) (.slice aH t.H.length cH)) := hR.below HB
  generalize (w.alloc (.cells #[.string t.nm, .slice aD t.D.length cD, .int .i64 t.w0, .int .i64 t.w1, .int .i64 t.w2, .int .i64 t.w3, .int .i64 t.w4, .int .i64 t.w5, .int .i64 t.w6, .slice aS t.S.length cS, .slice aX t.X.length cX, .slice aH t.H.length cH] 28)) = Y at *
  clear hR
  go_loopg [4] t.S.length (fun gk s4 wr => ∃ k : Nat, k + gk = t.S.length ∧ s4 = .int .i64 (k : Int) ∧ Hid ((t.S.drop k).all (fun x => x.wk.all (kdB t.D.length)) = t.S.all (fun x => x.wk.all (kdB t.D.length))) ∧ Below Y.heap.size Y wr)
  case atStart => exact ⟨0, by omega, rfl, rfl, Below.refl _ _⟩
  case round =>
    obtain ⟨k, hk, rfl, hA, hb⟩ := hrel
    obtain ⟨_, q, _⟩ := id (HY.below hb)
    by_cases hlt : k < t.S.length
    · have hE : Hid (t.S.all (fun x => x.wk.all (kdB t.D.length)) = ((fun x => x.wk.all (kdB t.D.length)) t.S[k] && (t.S.drop (k + 1)).all (fun x => x.wk.all (kdB t.D.length)))) := by show _ = _; rw [← hA.out, all_drop _ _ k hlt]
      clear hA
      obtain ⟨g, o, rfl, hg, P⟩ := (hRR.out.s.ln).resolve_left (by intro e; rw [e] at hlt; simp at hlt)
      have p0 := (hb.cell (p := ⟨g, _, none⟩) hg).trans (P k hlt 0 _ rfl)
      have p1 := (hb.cell (p := ⟨g, _, none⟩) hg).trans (P k hlt 1 _ rfl)
      have p2 := (hb.cell (p := ⟨g, _, none⟩) hg).trans (P k hlt 2 _ rfl)
      have p3 := (hb.cell (p := ⟨g, _, none⟩) hg).trans (P k hlt 3 _ rfl)
      have p4 := (hb.cell (p := ⟨g, _, none⟩) hg).trans (P k hlt 4 _ rfl)
      have p5 := (hb.cell (p := ⟨g, _, none⟩) hg).trans (P k hlt 5 _ rfl)
      have p6 := (hb.cell (p := ⟨g, _, none⟩) hg).trans (P k hlt 6 _ rfl)
      have p7 := (hb.cell (p := ⟨g, _, none⟩) hg).trans (P k hlt 7 _ rfl)
      have p8 := (hb.cell (p := ⟨g, _, none⟩) hg).trans (P k hlt 8 _ rfl)
      simp only [Nat.add_zero] at p0
      have t1 : (k : Int) < (t.S.length : Int) := by omega
      have t0 : (0 : Int) ≤ (k : Int) := by omega
      have hsn : (fun x => x.wk.all (kdB t.D.length)) t.S[k] = [t.S[k].w0, t.S[k].w1, t.S[k].w2, t.S[k].w3, t.S[k].w4, t.S[k].w5, t.S[k].w6].all (kdB t.D.length) := rfl
      have c1 := fun W => week_any t.S[k].w0 t.S[k].w1 t.S[k].w2 t.S[k].w3 t.S[k].w4 t.S[k].w5 t.S[k].w6 t.D.length W
      rw [hsn] at hE
      clear hsn P
      generalize [t.S[k].w0, t.S[k].w1, t.S[k].w2, t.S[k].w3, t.S[k].w4, t.S[k].w5, t.S[k].w6].all (kdB t.D.length) = a at *
      generalize t.S[k].fr = z0 at *
      generalize t.S[k].till = z1 at *
      generalize t.S[k].w0 = z2 at *
      generalize t.S[k].w1 = z3 at *
      generalize t.S[k].w2 = z4 at *
      generalize t.S[k].w3 = z5 at *
      generalize t.S[k].w4 = z6 at *
      generalize t.S[k].w5 = z7 at *
      generalize t.S[k].w6 = z8 at *
      cases a with
      | false =>
        have hE2 : Hid (R = false) := f1.out (by rw [hE.out]; simp)
        go_wp2_with (go_at_call 76; (with_reducible refine (c1 _).mono ?_); rintro e w1 ⟨rfl, hb1⟩)
        go_ret
        exact ⟨ret_bool hE2.out.symm, belT HB (belT hb hb1)⟩
      | true =>
        have hE2 : Hid ((t.S.drop (k + 1)).all (fun x => x.wk.all (kdB t.D.length)) = t.S.all (fun x => x.wk.all (kdB t.D.length))) := by show _ = _; rw [hE.out]; simp
        go_wp2_with (go_at_call 76; (with_reducible refine (c1 _).mono ?_); rintro e w1 ⟨rfl, hb1⟩)
        go_roundg (gk - 1)
        case measure => go_light; omega
        case rel => exact ⟨k + 1, by omega, by go_num, hE2, (belT hb hb1)⟩
    · obtain rfl : k = t.S.length := by omega
      have t1 : ¬ (t.S.length : Int) < (t.S.length : Int) := by omega
      have hTS : Hid (t.S.all (fun x => x.wk.all (kdB t.D.length)) = true) := by show _ = _; rw [← hA.out]; simp
      clear hA
      go_wp2
      go_loopg [5] t.X.length (fun gk s5 wr => ∃ k : Nat, k + gk = t.X.length ∧ s5 = .int .i64 (k : Int) ∧ Hid ((t.X.drop k).all (fun x => kdB t.D.length x.kind) = t.X.all (fun x => kdB t.D.length x.kind)) ∧ Below Y.heap.size Y wr)
      case atStart => exact ⟨0, by omega, rfl, rfl, hb⟩
      case round =>
        obtain ⟨k, hk, rfl, hA, hb⟩ := hrel
        obtain ⟨_, q, _⟩ := id (HY.below hb)
        by_cases hlt : k < t.X.length
        · have hE : Hid (t.X.all (fun x => kdB t.D.length x.kind) = ((fun x => kdB t.D.length x.kind) t.X[k] && (t.X.drop (k + 1)).all (fun x => kdB t.D.length x.kind))) := by show _ = _; rw [← hA.out, all_drop _ _ k hlt]
          clear hA
          obtain ⟨g, o, rfl, hg, P⟩ := (hRR.out.x.ln).resolve_left (by intro e; rw [e] at hlt; simp at hlt)
          have p0 := (hb.cell (p := ⟨g, _, none⟩) hg).trans (P k hlt 0 _ rfl)
          have p1 := (hb.cell (p := ⟨g, _, none⟩) hg).trans (P k hlt 1 _ rfl)
          simp only [Nat.add_zero] at p0
          have t1 : (k : Int) < (t.X.length : Int) := by omega
          have t0 : (0 : Int) ≤ (k : Int) := by omega
          have hsn : (fun x => kdB t.D.length x.kind) t.X[k] = inB t.X[k].kind 0 ((t.D.length : Int) - 1) := by
            simp only [kdB, inB]; congr 1; rw [decide_eq_decide]; omega
          have c1 := fun W => within_any t.X[k].kind 0 ((t.D.length : Int) - 1) W
          rw [hsn] at hE
          clear hsn P
          generalize inB t.X[k].kind 0 ((t.D.length : Int) - 1) = a at *
          generalize t.X[k].day = z0 at *
          generalize t.X[k].kind = z1 at *
          cases a with
          | false =>
            have hE2 : Hid (R = false) := f2.out (by rw [hE.out]; simp)
            go_wp2_with (go_at_call 75; (with_reducible refine (c1 _).mono ?_); rintro e w' ⟨rfl, rfl⟩)
            go_ret
            exact ⟨ret_bool hE2.out.symm, belT HB hb⟩
          | true =>
            have hE2 : Hid ((t.X.drop (k + 1)).all (fun x => kdB t.D.length x.kind) = t.X.all (fun x => kdB t.D.length x.kind)) := by show _ = _; rw [hE.out]; simp
            go_wp2_with (go_at_call 75; (with_reducible refine (c1 _).mono ?_); rintro e w' ⟨rfl, rfl⟩)
            go_roundg (gk - 1)
            case measure => go_light; omega
            case rel => exact ⟨k + 1, by omega, by go_num, hE2, hb⟩
        · obtain rfl : k = t.X.length := by omega
          have t1 : ¬ (t.X.length : Int) < (t.X.length : Int) := by omega
          have hTX : Hid (t.X.all (fun x => kdB t.D.length x.kind) = true) := by show _ = _; rw [← hA.out]; simp
          clear hA
          have hE2 : Hid (R = [t.w0, t.w1, t.w2, t.w3, t.w4, t.w5, t.w6].all (kdB t.D.length)) := f4.out hTS.out hTX.out
          have c1 := fun W => week_any t.w0 t.w1 t.w2 t.w3 t.w4 t.w5 t.w6 t.D.length W
          generalize [t.w0, t.w1, t.w2, t.w3, t.w4, t.w5, t.w6].all (kdB t.D.length) = a at *
          go_wp2_with (go_at_call 76; (with_reducible refine (c1 _).mono ?_); rintro e w1 ⟨rfl, hb1⟩)
          go_ret
          exact ⟨ret_bool hE2.out.symm, belT HB (belT hb hb1)⟩
end Go.Proofs.YtkeoebllblbkgaaGreatDoor
