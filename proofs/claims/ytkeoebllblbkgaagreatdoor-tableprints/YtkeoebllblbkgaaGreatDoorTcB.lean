import Derived.Test.YtkeoebllblbkgaaGreatDoorTcA
namespace Go.Proofs.YtkeoebllblbkgaaGreatDoor
open Go.RowKit
set_option linter.unusedVariables false
set_option linter.unusedSimpArgs false

set_option maxRecDepth 100000 in
set_option maxHeartbeats 4000000 in
theorem dates_any (t : Tt) (aD aS aX aH : Option Addr) (cD cS cX cH : Nat) (w : World) (hR : TR w t (.slice aD t.D.length cD) (.slice aS t.S.length cS) (.slice aX t.X.length cX) (.slice aH t.H.length cH)) : Calls Tryz.prog 33 #[.agg #[.string t.nm, .slice aD t.D.length cD, .int .i64 t.w0, .int .i64 t.w1, .int .i64 t.w2, .int .i64 t.w3, .int .i64 t.w4, .int .i64 t.w5, .int .i64 t.w6, .slice aS t.S.length cS, .slice aX t.X.length cX, .slice aH t.H.length cH]] w fun e w' => e = .returned (.bool t.datB) ∧ Below w.heap.size w w' := by
  have f1 : Hid (t.S.all (snB) = false → t.datB = false) := by intro h; simp [Tt.datB, h]
  have f2 : Hid (t.X.all (fun x => dayB x.day) = false → t.datB = false) := by intro h; simp [Tt.datB, h]
  have f3 : Hid (t.H.all (fun x => inB x.m 0 210379679) = false → t.datB = false) := by intro h; simp [Tt.datB, h]
  have f4 : Hid (t.S.all (snB) = true → t.X.all (fun x => dayB x.day) = true → t.H.all (fun x => inB x.m 0 210379679) = true → t.datB = true) := by intro h1 h2 h3; simp only [Tt.datB, h1, h2, h3]; rfl
  generalize t.datB = R at *
  have dl := hR.dl
  have sl := hR.sl
  have xl := hR.xl
  have hl := hR.hl
  go_enter Tryz.func33, Tryz.ntmps33
  go_wp2
  have HY : Has (w.alloc (.cells #[.string t.nm, .slice aD t.D.length cD, .int .i64 t.w0, .int .i64 t.w1, .int .i64 t.w2, .int .i64 t.w3, .int .i64 t.w4, .int .i64 t.w5, .int .i64 t.w6, .slice aS t.S.length cS, .slice aX t.X.length cX, .slice aH t.H.length cH] 28)) w.heap.size #[.string t.nm, .slice aD t.D.length cD, .int .i64 t.w0, .int .i64 t.w1, .int .i64 t.w2, .int .i64 t.w3, .int .i64 t.w4, .int .i64 t.w5, .int .i64 t.w6, .slice aS t.S.length cS, .slice aX t.X.length cX, .slice aH t.H.length cH] := Has.new _ _ _ rfl
  have HB : Below w.heap.size w (w.alloc (.cells #[.string t.nm, .slice aD t.D.length cD, .int .i64 t.w0, .int .i64 t.w1, .int .i64 t.w2, .int .i64 t.w3, .int .i64 t.w4, .int .i64 t.w5, .int .i64 t.w6, .slice aS t.S.length cS, .slice aX t.X.length cX, .slice aH t.H.length cH] 28)) := bel1
  have hRR : Hid (TR (w.alloc (.cells #[.string t.nm, .slice aD t.D.length cD, .int .i64 t.w0, .int .i64 t.w1, .int .i64 t.w2, .int .i64 t.w3, .int .i64 t.w4, .int .i64 t.w5, .int .i64 t.w6, .slice aS t.S.length cS, .slice aX t.X.length cX, .slice aH t.H.length cH] 28)) t (.slice aD t.D.length cD) (.slice aS t.S.length cS) (.slice aX t.X.length cX) (.slice aH t.H.length cH)) := hR.below HB
  generalize (w.alloc (.cells #[.string t.nm, .slice aD t.D.length cD, .int .i64 t.w0, .int .i64 t.w1, .int .i64 t.w2, .int .i64 t.w3, .int .i64 t.w4, .int .i64 t.w5, .int .i64 t.w6, .slice aS t.S.length cS, .slice aX t.X.length cX, .slice aH t.H.length cH] 28)) = Y at *
  clear hR
  go_loopg [3, 4] t.S.length (fun gk s3 s4 wr => ∃ k : Nat, k + gk = t.S.length ∧ s3 = .int .i64 (k : Int) ∧ Hid ((t.S.drop k).all (snB) = t.S.all (snB)) ∧ Below Y.heap.size Y wr)
  case atStart => exact ⟨0, by omega, rfl, rfl, Below.refl _ _⟩
  case round =>
    obtain ⟨k, hk, rfl, hA, hb⟩ := hrel
    obtain ⟨_, q, _⟩ := id (HY.below hb)
    by_cases hlt : k < t.S.length
    · have hE : Hid (t.S.all (snB) = ((snB) t.S[k] && (t.S.drop (k + 1)).all (snB))) := by show _ = _; rw [← hA.out, all_drop _ _ k hlt]
      clear hA
      obtain ⟨g, o, rfl, hg, P⟩ := (hRR.out.s.ln).resolve_left (by intro e; rw [e] at hlt; simp at hlt)
      have p0 := (hb.cell (p := ⟨g, _, none⟩) hg).trans (P k hlt 0 _ rfl)
      have p1 := (hb.cell (p := ⟨g, _, none⟩) hg).trans (P k hlt 1 _ rfl)
      have p2 := (hb.cell (p := ⟨g, _, none⟩) hg).trans (P k hlt 2 _ rfl)
      have p3 := (hb.cell (p := ⟨g, _, none⟩) hg).trans (P k hlt 3 _ rfl)
      have p4 := (hb.cell (p := ⟨g, _, none⟩) hg).trans (P k hlt 4 _ rfl)
      have p5 := (hb.cell (p := ⟨g, _, none⟩) hg).trans (P k hlt 5 _ rfl)
      have p6 := (hb.cell (p := ⟨g, _, none⟩) hg).trans (P k hlt 6 _ rfl)
      have p7 := (hb.cell (p := ⟨g, _, none⟩) hg).trans (P k hlt 7 _ rfl)
      have p8 := (hb.cell (p := ⟨g, _, none⟩) hg).trans (P k hlt 8 _ rfl)
      simp only [Nat.add_zero] at p0
      have t1 : (k : Int) < (t.S.length : Int) := by omega
      have t0 : (0 : Int) ≤ (k : Int) := by omega
      have c1 := fun W => within_any t.S[k].fr 0 146096 W
      have c2 := fun W => within_any t.S[k].till 0 146096 W
      have hsn : snB t.S[k] = (inB t.S[k].fr 0 146096 && (inB t.S[k].till 0 146096 && decide (t.S[k].fr ≤ t.S[k].till))) := rfl
      have hbb : Below Y.heap.size Y (wr.alloc (.cells #[.int .i64 t.S[k].fr, .int .i64 t.S[k].till, .int .i64 t.S[k].w0, .int .i64 t.S[k].w1, .int .i64 t.S[k].w2, .int .i64 t.S[k].w3, .int .i64 t.S[k].w4, .int .i64 t.S[k].w5, .int .i64 t.S[k].w6] 45)) := belT hb bel1
      rw [hsn] at hE
      clear hsn P
      generalize inB t.S[k].fr 0 146096 = a at *
      generalize inB t.S[k].till 0 146096 = b at *
      generalize t.S[k].fr = z0 at *
      generalize t.S[k].till = z1 at *
      generalize t.S[k].w0 = z2 at *
      generalize t.S[k].w1 = z3 at *
      generalize t.S[k].w2 = z4 at *
      generalize t.S[k].w3 = z5 at *
      generalize t.S[k].w4 = z6 at *
      generalize t.S[k].w5 = z7 at *
      generalize t.S[k].w6 = z8 at *
      cases a with
      | false =>
        have hE2 : Hid (R = false) := f1.out (by rw [hE.out]; simp)
        go_wp2_with (first | (go_at_call 75; (with_reducible refine (c1 _).mono ?_); rintro e w' ⟨rfl, rfl⟩) | (go_at_call 75; (with_reducible refine (c2 _).mono ?_); rintro e w' ⟨rfl, rfl⟩))
        go_ret
        exact ⟨ret_bool hE2.out.symm, belT HB hbb⟩
      | true =>
        cases b with
        | false =>
          have hE2 : Hid (R = false) := f1.out (by rw [hE.out]; simp)
          go_wp2_with (first | (go_at_call 75; (with_reducible refine (c1 _).mono ?_); rintro e w' ⟨rfl, rfl⟩) | (go_at_call 75; (with_reducible refine (c2 _).mono ?_); rintro e w' ⟨rfl, rfl⟩))
          go_ret
          exact ⟨ret_bool hE2.out.symm, belT HB hbb⟩
        | true =>
          by_cases hle : z0 ≤ z1
          · have hle' : ¬ z1 < z0 := by omega
            have hE2 : Hid ((t.S.drop (k + 1)).all (snB) = t.S.all (snB)) := by show _ = _; rw [hE.out]; simp [hle]
            go_wp2_with (first | (go_at_call 75; (with_reducible refine (c1 _).mono ?_); rintro e w' ⟨rfl, rfl⟩) | (go_at_call 75; (with_reducible refine (c2 _).mono ?_); rintro e w' ⟨rfl, rfl⟩))
            go_roundg (gk - 1)
            case measure => go_light; omega
            case rel => exact ⟨k + 1, by omega, by go_num, hE2, hbb⟩
          · have hle' : z1 < z0 := by omega
            have hE2 : Hid (R = false) := f1.out (by rw [hE.out]; simp [hle])
            go_wp2_with (first | (go_at_call 75; (with_reducible refine (c1 _).mono ?_); rintro e w' ⟨rfl, rfl⟩) | (go_at_call 75; (with_reducible refine (c2 _).mono ?_); rintro e w' ⟨rfl, rfl⟩))
            go_ret
            exact ⟨ret_bool hE2.out.symm, belT HB hbb⟩
    · obtain rfl : k = t.S.length := by omega
      have t1 : ¬ (t.S.length : Int) < (t.S.length : Int) := by omega
      have hTS : Hid (t.S.all (snB) = true) := by show _ = _; rw [← hA.out]; simp
      clear hA
      go_wp2
      go_loopg [5] t.X.length (fun gk s5 wr => ∃ k : Nat, k + gk = t.X.length ∧ s5 = .int .i64 (k : Int) ∧ Hid ((t.X.drop k).all (fun x => dayB x.day) = t.X.all (fun x => dayB x.day)) ∧ Below Y.heap.size Y wr)
      case atStart => exact ⟨0, by omega, rfl, rfl, hb⟩
      case round =>
        obtain ⟨k, hk, rfl, hA, hb⟩ := hrel
        obtain ⟨_, q, _⟩ := id (HY.below hb)
        by_cases hlt : k < t.X.length
        · have hE : Hid (t.X.all (fun x => dayB x.day) = ((fun x => dayB x.day) t.X[k] && (t.X.drop (k + 1)).all (fun x => dayB x.day))) := by show _ = _; rw [← hA.out, all_drop _ _ k hlt]
          clear hA
          obtain ⟨g, o, rfl, hg, P⟩ := (hRR.out.x.ln).resolve_left (by intro e; rw [e] at hlt; simp at hlt)
          have p0 := (hb.cell (p := ⟨g, _, none⟩) hg).trans (P k hlt 0 _ rfl)
          have p1 := (hb.cell (p := ⟨g, _, none⟩) hg).trans (P k hlt 1 _ rfl)
          simp only [Nat.add_zero] at p0
          have t1 : (k : Int) < (t.X.length : Int) := by omega
          have t0 : (0 : Int) ≤ (k : Int) := by omega
          have c1 := fun W => within_any t.X[k].day 0 146096 W
          have hsn : (fun x => dayB x.day) t.X[k] = inB t.X[k].day 0 146096 := rfl
          rw [hsn] at hE
          clear hsn P
          generalize inB t.X[k].day 0 146096 = a at *
          generalize t.X[k].day = z0 at *
          cases a with
          | false =>
            have hE2 : Hid (R = false) := f2.out (by rw [hE.out]; simp)
            go_wp2_with (go_at_call 75; (with_reducible refine (c1 _).mono ?_); rintro e w' ⟨rfl, rfl⟩)
            go_ret
            exact ⟨ret_bool hE2.out.symm, belT HB hb⟩
          | true =>
            have hE2 : Hid ((t.X.drop (k + 1)).all (fun x => dayB x.day) = t.X.all (fun x => dayB x.day)) := by show _ = _; rw [hE.out]; simp
            go_wp2_with (go_at_call 75; (with_reducible refine (c1 _).mono ?_); rintro e w' ⟨rfl, rfl⟩)
            go_roundg (gk - 1)
            case measure => go_light; omega
            case rel => exact ⟨k + 1, by omega, by go_num, hE2, hb⟩
        · obtain rfl : k = t.X.length := by omega
          have t1 : ¬ (t.X.length : Int) < (t.X.length : Int) := by omega
          have hTX : Hid (t.X.all (fun x => dayB x.day) = true) := by show _ = _; rw [← hA.out]; simp
          clear hA
          go_wp2
          go_loopg [6] t.H.length (fun gk s6 wr => ∃ k : Nat, k + gk = t.H.length ∧ s6 = .int .i64 (k : Int) ∧ Hid ((t.H.drop k).all (fun x => inB x.m 0 210379679) = t.H.all (fun x => inB x.m 0 210379679)) ∧ Below Y.heap.size Y wr)
          case atStart => exact ⟨0, by omega, rfl, rfl, hb⟩
          case round =>
            obtain ⟨k, hk, rfl, hA, hb⟩ := hrel
            obtain ⟨_, q, _⟩ := id (HY.below hb)
            by_cases hlt : k < t.H.length
            · have hE : Hid (t.H.all (fun x => inB x.m 0 210379679) = ((fun x => inB x.m 0 210379679) t.H[k] && (t.H.drop (k + 1)).all (fun x => inB x.m 0 210379679))) := by show _ = _; rw [← hA.out, all_drop _ _ k hlt]
              clear hA
              obtain ⟨g, o, rfl, hg, P⟩ := (hRR.out.h.ln).resolve_left (by intro e; rw [e] at hlt; simp at hlt)
              have p0 := (hb.cell (p := ⟨g, _, none⟩) hg).trans (P k hlt 0 _ rfl)
              have p1 := (hb.cell (p := ⟨g, _, none⟩) hg).trans (P k hlt 1 _ rfl)
              simp only [Nat.add_zero] at p0
              have t1 : (k : Int) < (t.H.length : Int) := by omega
              have t0 : (0 : Int) ≤ (k : Int) := by omega
              have c1 := fun W => within_any t.H[k].m 0 210379679 W
              have hsn : (fun x => inB x.m 0 210379679) t.H[k] = inB t.H[k].m 0 210379679 := rfl
              rw [hsn] at hE
              clear hsn P
              generalize inB t.H[k].m 0 210379679 = a at *
              generalize t.H[k].m = z0 at *
              cases a with
              | false =>
                have hE2 : Hid (R = false) := f3.out (by rw [hE.out]; simp)
                go_wp2_with (go_at_call 75; (with_reducible refine (c1 _).mono ?_); rintro e w' ⟨rfl, rfl⟩)
                go_ret
                exact ⟨ret_bool hE2.out.symm, belT HB hb⟩
              | true =>
                have hE2 : Hid ((t.H.drop (k + 1)).all (fun x => inB x.m 0 210379679) = t.H.all (fun x => inB x.m 0 210379679)) := by show _ = _; rw [hE.out]; simp
                go_wp2_with (go_at_call 75; (with_reducible refine (c1 _).mono ?_); rintro e w' ⟨rfl, rfl⟩)
                go_roundg (gk - 1)
                case measure => go_light; omega
                case rel => exact ⟨k + 1, by omega, by go_num, hE2, hb⟩
            · obtain rfl : k = t.H.length := by omega
              have t1 : ¬ (t.H.length : Int) < (t.H.length : Int) := by omega
              have hTH : Hid (t.H.all (fun x => inB x.m 0 210379679) = true) := by show _ = _; rw [← hA.out]; simp
              clear hA
              have hE2 : Hid (R = true) := f4.out hTS.out hTX.out hTH.out
              go_wp2
              go_ret
              exact ⟨ret_bool hE2.out.symm, belT HB hb⟩
end Go.Proofs.YtkeoebllblbkgaaGreatDoor
