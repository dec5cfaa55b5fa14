import Derived.Test.YtddphepgcihdbaaGreatTbB
import Derived.Test.YtddphepgcihdbaaGreatTbE
namespace Go.Proofs.YtddphepgcihdbaaGreat
open Go.RowKit
set_option linter.unusedVariables false
set_option linter.unusedSimpArgs false

set_option maxRecDepth 100000 in
set_option maxHeartbeats 4000000 in
theorem week_any (x0 x1 x2 x3 x4 x5 x6 : Int) (n : Nat) (w : World) : Calls Tryz.prog 55 #[.agg #[.int .i64 x0, .int .i64 x1, .int .i64 x2, .int .i64 x3, .int .i64 x4, .int .i64 x5, .int .i64 x6], .int .i64 (n : Int)] w fun e w' => e = .returned (.bool ([x0, x1, x2, x3, x4, x5, x6].all (kdB n))) ∧ Below w.heap.size w w' := by
  obtain ⟨L, hL⟩ : ∃ L : List Int, L = [x0, x1, x2, x3, x4, x5, x6] := ⟨_, rfl⟩
  have hlen : L.length = 7 := by rw [hL]; rfl
  have hcell : Hid (∀ (i : Nat) (h : i < L.length), (w.alloc (.cells #[.int .i64 x0, .int .i64 x1, .int .i64 x2, .int .i64 x3, .int .i64 x4, .int .i64 x5, .int .i64 x6] 23)).cell? ⟨w.heap.size, i, none⟩ = some (.int .i64 L[i])) := by
    intro i hi
    rw [(Has.new w _ 23 rfl).2.1]
    subst hL
    have hi' : i < 7 := hi
    rcases (show i = 0 ∨ i = 1 ∨ i = 2 ∨ i = 3 ∨ i = 4 ∨ i = 5 ∨ i = 6 by omega) with rfl | rfl | rfl | rfl | rfl | rfl | rfl <;> rfl
  rw [← hL]
  have hlen' : Hid (L.length = 7) := hlen
  clear hL hlen
  go_enter Tryz.func55, Tryz.ntmps55
  go_wp2
  have HB : Below w.heap.size w (w.alloc (.cells #[.int .i64 x0, .int .i64 x1, .int .i64 x2, .int .i64 x3, .int .i64 x4, .int .i64 x5, .int .i64 x6] 23)) := bel1
  generalize (w.alloc (.cells #[.int .i64 x0, .int .i64 x1, .int .i64 x2, .int .i64 x3, .int .i64 x4, .int .i64 x5, .int .i64 x6] 23)) = Y at *
  go_loopg [5] 7 (fun gk s5 wr => ∃ k : Nat, k + gk = 7 ∧ s5 = .int .i64 (k : Int) ∧ Hid ((L.drop k).all (kdB n) = L.all (kdB n)) ∧ Y = wr)
  case atStart => exact ⟨0, by omega, rfl, rfl, rfl⟩
  case round =>
    obtain ⟨k, hk, rfl, hA, rfl⟩ := hrel
    by_cases hlt : k < 7
    · have hlt2 : k < L.length := by rw [hlen'.out]; exact hlt
      have hE : Hid (L.all (kdB n) = (kdB n L[k] && (L.drop (k + 1)).all (kdB n))) := by show _ = _; rw [← hA.out, all_drop _ _ k hlt2]
      have c := hcell.out k hlt2
      have t1 : (k : Int) < 7 := by omega
      have t0 : (0 : Int) ≤ (k : Int) := by omega
      clear hA
      generalize L[k] = x at *
      by_cases h0 : 0 ≤ x
      · by_cases h1 : x < (n : Int)
        · have hE2 : Hid ((L.drop (k + 1)).all (kdB n) = L.all (kdB n)) := by show _ = _; rw [hE.out]; simp [kdB, h0, h1]
          go_wp2
          go_roundg (gk - 1)
          case measure => go_light; omega
          case rel => exact ⟨k + 1, by omega, by go_num, hE2, rfl⟩
        · have h1' : (n : Int) ≤ x := by omega
          have hE2 : Hid (L.all (kdB n) = false) := by show _ = _; rw [hE.out]; simp [kdB, h1]
          clear h1
          go_wp2
          go_ret
          exact ⟨ret_bool hE2.out.symm, HB⟩
      · have h0' : x < 0 := by omega
        have hE2 : Hid (L.all (kdB n) = false) := by show _ = _; rw [hE.out]; simp [kdB, h0]
        clear h0
        go_wp2
        go_ret
        exact ⟨ret_bool hE2.out.symm, HB⟩
    · obtain rfl : k = 7 := by omega
      have hT : Hid (L.all (kdB n) = true) := by show _ = _; rw [← hA.out, List.drop_eq_nil_of_le (by rw [hlen'.out]; exact Nat.le_refl _)]; rfl
      go_wp2
      go_ret
      exact ⟨ret_bool hT.out.symm, HB⟩
set_option maxRecDepth 100000 in
set_option maxHeartbeats 4000000 in
theorem dates_any (t : Tt) (aD aS aX aH : Option Addr) (cD cS cX cH : Nat) (w : World) (hR : TR w t (.slice aD t.D.length cD) (.slice aS t.S.length cS) (.slice aX t.X.length cX) (.slice aH t.H.length cH)) : Calls Tryz.prog 35 #[.agg #[.string t.nm, .slice aD t.D.length cD, .int .i64 t.w0, .int .i64 t.w1, .int .i64 t.w2, .int .i64 t.w3, .int .i64 t.w4, .int .i64 t.w5, .int .i64 t.w6, .slice aS t.S.length cS, .slice aX t.X.length cX, .slice aH t.H.length cH]] w fun e w' => e = .returned (.bool t.datB) ∧ Below w.heap.size w w' := by
  have f1 : Hid (t.S.all (snB) = false → t.datB = false) := by intro h; simp [Tt.datB, h]
  have f2 : Hid (t.X.all (fun x => dayB x.day) = false → t.datB = false) := by intro h; simp [Tt.datB, h]
  have f3 : Hid (t.H.all (fun x => inB x.m 0 210379679) = false → t.datB = false) := by intro h; simp [Tt.datB, h]
  have f4 : Hid (t.S.all (snB) = true → t.X.all (fun x => dayB x.day) = true → t.H.all (fun x => inB x.m 0 210379679) = true → t.datB = true) := by intro h1 h2 h3; simp only [Tt.datB, h1, h2, h3]; rfl
  generalize t.datB = R at *
  have dl := hR.dl
  have sl := hR.sl
  have xl := hR.xl
  have hl := hR.hl
  go_enter Tryz.func35, Tryz.ntmps35
  go_wp2
  have HY : Has (w.alloc (.cells #[.string t.nm, .slice aD t.D.length cD, .int .i64 t.w0, .int .i64 t.w1, .int .i64 t.w2, .int .i64 t.w3, .int .i64 t.w4, .int .i64 t.w5, .int .i64 t.w6, .slice aS t.S.length cS, .slice aX t.X.length cX, .slice aH t.H.length cH] 28)) w.heap.size #[.string t.nm, .slice aD t.D.length cD, .int .i64 t.w0, .int .i64 t.w1, .int .i64 t.w2, .int .i64 t.w3, .int .i64 t.w4, .int .i64 t.w5, .int .i64 t.w6, .slice aS t.S.length cS, .slice aX t.X.length cX, .slice aH t.H.length cH] := Has.new _ _ _ rfl
  have HB : Below w.heap.size w (w.alloc (.cells #[.string t.nm, .slice aD t.D.length cD, .int .i64 t.w0, .int .i64 t.w1, .int .i64 t.w2, .int .i64 t.w3, .int .i64 t.w4, .int .i64 t.w5, .int .i64 t.w6, .slice aS t.S.length cS, .slice aX t.X.length cX, .slice aH t.H.length cH] 28)) := bel1
  have hRR : Hid (TR (w.alloc (.cells #[.string t.nm, .slice aD t.D.length cD, .int .i64 t.w0, .int .i64 t.w1, .int .i64 t.w2, .int .i64 t.w3, .int .i64 t.w4, .int .i64 t.w5, .int .i64 t.w6, .slice aS t.S.length cS, .slice aX t.X.length cX, .slice aH t.H.length cH] 28)) t (.slice aD t.D.length cD) (.slice aS t.S.length cS) (.slice aX t.X.length cX) (.slice aH t.H.length cH)) := hR.below HB
  generalize (w.alloc (.cells #[.string t.nm, .slice aD t.D.length cD, .int .i64 t.w0, .int .i64 t.w1, .int .i64 t.w2, .int .i64 t.w3, .int .i64 t.w4, .int .i64 t.w5, .int .i64 t.w6, .slice aS t.S.length cS, .slice aX t.X.length cX, .slice aH t.H.length cH] 28)) = Y at *
  clear hR
  go_loopg [3, 4] t.S.length (fun gk s3 s4 wr => ∃ k : Nat, k + gk = t.S.length ∧ s3 = .int .i64 (k : Int) ∧ Hid ((t.S.drop k).all (snB) = t.S.all (snB)) ∧ Below Y.heap.size Y wr)
  case atStart => exact ⟨0, by omega, rfl, rfl, Below.refl _ _⟩
  case round =>
    obtain ⟨k, hk, rfl, hA, hb⟩ := hrel
    obtain ⟨_, q, _⟩ := id (HY.below hb)
    by_cases hlt : k < t.S.length
    · have hE : Hid (t.S.all (snB) = ((snB) t.S[k] && (t.S.drop (k + 1)).all (snB))) := by show _ = _; rw [← hA.out, all_drop _ _ k hlt]
      clear hA
      obtain ⟨g, o, rfl, hg, P⟩ := (hRR.out.s.ln).resolve_left (by intro e; rw [e] at hlt; simp at hlt)
      have p0 := (hb.cell (p := ⟨g, _, none⟩) hg).trans (P k hlt 0 _ rfl)
      have p1 := (hb.cell (p := ⟨g, _, none⟩) hg).trans (P k hlt 1 _ rfl)
      have p2 := (hb.cell (p := ⟨g, _, none⟩) hg).trans (P k hlt 2 _ rfl)
      have p3 := (hb.cell (p := ⟨g, _, none⟩) hg).trans (P k hlt 3 _ rfl)
      have p4 := (hb.cell (p := ⟨g, _, none⟩) hg).trans (P k hlt 4 _ rfl)
      have p5 := (hb.cell (p := ⟨g, _, none⟩) hg).trans (P k hlt 5 _ rfl)
      have p6 := (hb.cell (p := ⟨g, _, none⟩) hg).trans (P k hlt 6 _ rfl)
      have p7 := (hb.cell (p := ⟨g, _, none⟩) hg).trans (P k hlt 7 _ rfl)
      have p8 := (hb.cell (p := ⟨g, _, none⟩) hg).trans (P k hlt 8 _ rfl)
      simp only [Nat.add_zero] at p0
      have t1 : (k : Int) < (t.S.length : Int) := by omega
      have t0 : (0 : Int) ≤ (k : Int) := by omega
      have c1 := fun W => within_any t.S[k].fr 0 146096 W
      have c2 := fun W => within_any t.S[k].till 0 146096 W
      have hsn : snB t.S[k] = (inB t.S[k].fr 0 146096 && (inB t.S[k].till 0 146096 && decide (t.S[k].fr ≤ t.S[k].till))) := rfl
      have hbb : Below Y.heap.size Y (wr.alloc (.cells #[.int .i64 t.S[k].fr, .int .i64 t.S[k].till, .int .i64 t.S[k].w0, .int .i64 t.S[k].w1, .int .i64 t.S[k].w2, .int .i64 t.S[k].w3, .int .i64 t.S[k].w4, .int .i64 t.S[k].w5, .int .i64 t.S[k].w6] 52)) := belT hb bel1
      rw [hsn] at hE
      clear hsn P
      generalize inB t.S[k].fr 0 146096 = a at *
      generalize inB t.S[k].till 0 146096 = b at *
      generalize t.S[k].fr = z0 at *
      generalize t.S[k].till = z1 at *
      generalize t.S[k].w0 = z2 at *
      generalize t.S[k].w1 = z3 at *
      generalize t.S[k].w2 = z4 at *
      generalize t.S[k].w3 = z5 at *
      generalize t.S[k].w4 = z6 at *
      generalize t.S[k].w5 = z7 at *
      generalize t.S[k].w6 = z8 at *
      cases a with
      | false =>
        have hE2 : Hid (R = false) := f1.out (by rw [hE.out]; simp)
        go_wp2_with (first | (go_at_call 54; (with_reducible refine (c1 _).mono ?_); rintro e w' ⟨rfl, rfl⟩) | (go_at_call 54; (with_reducible refine (c2 _).mono ?_); rintro e w' ⟨rfl, rfl⟩))
        go_ret
        exact ⟨ret_bool hE2.out.symm, belT HB hbb⟩
      | true =>
        cases b with
        | false =>
          have hE2 : Hid (R = false) := f1.out (by rw [hE.out]; simp)
          go_wp2_with (first | (go_at_call 54; (with_reducible refine (c1 _).mono ?_); rintro e w' ⟨rfl, rfl⟩) | (go_at_call 54; (with_reducible refine (c2 _).mono ?_); rintro e w' ⟨rfl, rfl⟩))
          go_ret
          exact ⟨ret_bool hE2.out.symm, belT HB hbb⟩
        | true =>
          by_cases hle : z0 ≤ z1
          · have hle' : ¬ z1 < z0 := by omega
            have hE2 : Hid ((t.S.drop (k + 1)).all (snB) = t.S.all (snB)) := by show _ = _; rw [hE.out]; simp [hle]
            go_wp2_with (first | (go_at_call 54; (with_reducible refine (c1 _).mono ?_); rintro e w' ⟨rfl, rfl⟩) | (go_at_call 54; (with_reducible refine (c2 _).mono ?_); rintro e w' ⟨rfl, rfl⟩))
            go_roundg (gk - 1)
            case measure => go_light; omega
            case rel => exact ⟨k + 1, by omega, by go_num, hE2, hbb⟩
          · have hle' : z1 < z0 := by omega
            have hE2 : Hid (R = false) := f1.out (by rw [hE.out]; simp [hle])
            go_wp2_with (first | (go_at_call 54; (with_reducible refine (c1 _).mono ?_); rintro e w' ⟨rfl, rfl⟩) | (go_at_call 54; (with_reducible refine (c2 _).mono ?_); rintro e w' ⟨rfl, rfl⟩))
            go_ret
            exact ⟨ret_bool hE2.out.symm, belT HB hbb⟩
    · obtain rfl : k = t.S.length := by omega
      have t1 : ¬ (t.S.length : Int) < (t.S.length : Int) := by omega
      have hTS : Hid (t.S.all (snB) = true) := by show _ = _; rw [← hA.out]; simp
      clear hA
      go_wp2
      go_loopg [5] t.X.length (fun gk s5 wr => ∃ k : Nat, k + gk = t.X.length ∧ s5 = .int .i64 (k : Int) ∧ Hid ((t.X.drop k).all (fun x => dayB x.day) = t.X.all (fun x => dayB x.day)) ∧ Below Y.heap.size Y wr)
      case atStart => exact ⟨0, by omega, rfl, rfl, hb⟩
      case round =>
        obtain ⟨k, hk, rfl, hA, hb⟩ := hrel
        obtain ⟨_, q, _⟩ := id (HY.below hb)
        by_cases hlt : k < t.X.length
        · have hE : Hid (t.X.all (fun x => dayB x.day) = ((fun x => dayB x.day) t.X[k] && (t.X.drop (k + 1)).all (fun x => dayB x.day))) := by show _ = _; rw [← hA.out, all_drop _ _ k hlt]
          clear hA
          obtain ⟨g, o, rfl, hg, P⟩ := (hRR.out.x.ln).resolve_left (by intro e; rw [e] at hlt; simp at hlt)
          have p0 := (hb.cell (p := ⟨g, _, none⟩) hg).trans (P k hlt 0 _ rfl)
          have p1 := (hb.cell (p := ⟨g, _, none⟩) hg).trans (P k hlt 1 _ rfl)
          simp only [Nat.add_zero] at p0
          have t1 : (k : Int) < (t.X.length : Int) := by omega
          have t0 : (0 : Int) ≤ (k : Int) := by omega
          have c1 := fun W => within_any t.X[k].day 0 146096 W
          have hsn : (fun x => dayB x.day) t.X[k] = inB t.X[k].day 0 146096 := rfl
          rw [hsn] at hE
          clear hsn P
          generalize inB t.X[k].day 0 146096 = a at *
          generalize t.X[k].day = z0 at *
          cases a with
          | false =>
            have hE2 : Hid (R = false) := f2.out (by rw [hE.out]; simp)
            go_wp2_with (go_at_call 54; (with_reducible refine (c1 _).mono ?_); rintro e w' ⟨rfl, rfl⟩)
            go_ret
            exact ⟨ret_bool hE2.out.symm, belT HB hb⟩
          | true =>
            have hE2 : Hid ((t.X.drop (k + 1)).all (fun x => dayB x.day) = t.X.all (fun x => dayB x.day)) := by show _ = _; rw [hE.out]; simp
            go_wp2_with (go_at_call 54; (with_reducible refine (c1 _).mono ?_); rintro e w' ⟨rfl, rfl⟩)
            go_roundg (gk - 1)
            case measure => go_light; omega
            case rel => exact ⟨k + 1, by omega, by go_num, hE2, hb⟩
        · obtain rfl : k = t.X.length := by omega
          have t1 : ¬ (t.X.length : Int) < (t.X.length : Int) := by omega
          have hTX : Hid (t.X.all (fun x => dayB x.day) = true) := by show _ = _; rw [← hA.out]; simp
          clear hA
          go_wp2
          go_loopg [6] t.H.length (fun gk s6 wr => ∃ k : Nat, k + gk = t.H.length ∧ s6 = .int .i64 (k : Int) ∧ Hid ((t.H.drop k).all (fun x => inB x.m 0 210379679) = t.H.all (fun x => inB x.m 0 210379679)) ∧ Below Y.heap.size Y wr)
          case atStart => exact ⟨0, by omega, rfl, rfl, hb⟩
          case round =>
            obtain ⟨k, hk, rfl, hA, hb⟩ := hrel
            obtain ⟨_, q, _⟩ := id (HY.below hb)
            by_cases hlt : k < t.H.length
            · have hE : Hid (t.H.all (fun x => inB x.m 0 210379679) = ((fun x => inB x.m 0 210379679) t.H[k] && (t.H.drop (k + 1)).all (fun x => inB x.m 0 210379679))) := by show _ = _; rw [← hA.out, all_drop _ _ k hlt]
              clear hA
              obtain ⟨g, o, rfl, hg, P⟩ := (hRR.out.h.ln).resolve_left (by intro e; rw [e] at hlt; simp at hlt)
              have p0 := (hb.cell (p := ⟨g, _, none⟩) hg).trans (P k hlt 0 _ rfl)
              have p1 := (hb.cell (p := ⟨g, _, none⟩) hg).trans (P k hlt 1 _ rfl)
              simp only [Nat.add_zero] at p0
              have t1 : (k : Int) < (t.H.length : Int) := by omega
              have t0 : (0 : Int) ≤ (k : Int) := by omega
              have c1 := fun W => within_any t.H[k].m 0 210379679 W
              have hsn : (fun x => inB x.m 0 210379679) t.H[k] = inB t.H[k].m 0 210379679 := rfl
              rw [hsn] at hE
              clear hsn P
              generalize inB t.H[k].m 0 210379679 = a at *
              generalize t.H[k].m = z0 at *
              cases a with
              | false =>
                have hE2 : Hid (R = false) := f3.out (by rw [hE.out]; simp)
                go_wp2_with (go_at_call 54; (with_reducible refine (c1 _).mono ?_); rintro e w' ⟨rfl, rfl⟩)
                go_ret
                exact ⟨ret_bool hE2.out.symm, belT HB hb⟩
              | true =>
                have hE2 : Hid ((t.H.drop (k + 1)).all (fun x => inB x.m 0 210379679) = t.H.all (fun x => inB x.m 0 210379679)) := by show _ = _; rw [hE.out]; simp
                go_wp2_with (go_at_call 54; (with_reducible refine (c1 _).mono ?_); rintro e w' ⟨rfl, rfl⟩)
                go_roundg (gk - 1)
                case measure => go_light; omega
                case rel => exact ⟨k + 1, by omega, by go_num, hE2, hb⟩
            · obtain rfl : k = t.H.length := by omega
              have t1 : ¬ (t.H.length : Int) < (t.H.length : Int) := by omega
              have hTH : Hid (t.H.all (fun x => inB x.m 0 210379679) = true) := by show _ = _; rw [← hA.out]; simp
              clear hA
              have hE2 : Hid (R = true) := f4.out hTS.out hTX.out hTH.out
              go_wp2
              go_ret
              exact ⟨ret_bool hE2.out.symm, belT HB hb⟩
set_option maxRecDepth 100000 in
set_option maxHeartbeats 4000000 in
theorem kinds_any (t : Tt) (aD aS aX aH : Option Addr) (cD cS cX cH : Nat) (w : World) (hR : TR w t (.slice aD t.D.length cD) (.slice aS t.S.length cS) (.slice aX t.X.length cX) (.slice aH t.H.length cH)) : Calls Tryz.prog 36 #[.agg #[.string t.nm, .slice aD t.D.length cD, .int .i64 t.w0, .int .i64 t.w1, .int .i64 t.w2, .int .i64 t.w3, .int .i64 t.w4, .int .i64 t.w5, .int .i64 t.w6, .slice aS t.S.length cS, .slice aX t.X.length cX, .slice aH t.H.length cH]] w fun e w' => e = .returned (.bool t.kinB) ∧ Below w.heap.size w w' := by
  have f1 : Hid (t.S.all (fun x => x.wk.all (kdB t.D.length)) = false → t.kinB = false) := by intro h; simp only [Tt.kinB, h]; simp
  have f2 : Hid (t.X.all (fun x => kdB t.D.length x.kind) = false → t.kinB = false) := by intro h; simp only [Tt.kinB, h]; simp
  have f4 : Hid (t.S.all (fun x => x.wk.all (kdB t.D.length)) = true → t.X.all (fun x => kdB t.D.length x.kind) = true → t.kinB = [t.w0, t.w1, t.w2, t.w3, t.w4, t.w5, t.w6].all (kdB t.D.length)) := by intro h1 h2; simp only [Tt.kinB, h1, h2, Tt.wk]; simp
  generalize t.kinB = R at *
  have dl := hR.dl
  have sl := hR.sl
  have xl := hR.xl
  have hl := hR.hl
  go_enter Tryz.func36, Tryz.ntmps36
  go_wp2
  have HY : Has (w.alloc (.cells #[.string t.nm, .slice aD t.D.length cD, .int .i64 t.w0, .int .i64 t.w1, .int .i64 t.w2, .int .i64 t.w3, .int .i64 t.w4, .int .i64 t.w5, .int .i64 t.w6, .slice aS t.S.length cS, .slice aX t.X.length cX, .slice aH t.H.length cH] 28)) w.heap.size #[.string t.nm, .slice aD t.D.length cD, .int .i64 t.w0, .int .i64 t.w1, .int .i64 t.w2, .int .i64 t.w3, .int .i64 t.w4, .int .i64 t.w5, .int .i64 t.w6, .slice aS t.S.length cS, .slice aX t.X.length cX, .slice aH t.H.length cH] := Has.new _ _ _ rfl
  have HB : Below w.heap.size w (w.alloc (.cells #[.string t.nm, .slice aD t.D.length cD, .int .i64 t.w0, .int .i64 t.w1, .int .i64 t.w2, .int .i64 t.w3, .int .i64 t.w4, .int .i64 t.w5, .int .i64 t.w6, .slice aS t.S.length cS, .slice aX t.X.length cX, .slice aH t.H.length cH] 28)) := bel1
  have hRR : Hid (TR (w.alloc (.cells #[.string t.nm, .slice aD t.D.length cD, .int .i64 t.w0, .int .i64 t.w1, .int .i64 t.w2, .int .i64 t.w3, .int .i64 t.w4, .int .i64 t.w5, .int .i64 t.w6, .slice aS t.S.length cS, .slice aX t.X.length cX, .slice aH t.H.length cH] 28)) t (.slice aD t.D.length cD) (.slice aS t.S.length cS) (.slice aX t.X.length cX) (.slice aH t.H.length cH)) := hR.below HB
  generalize (w.alloc (.cells #[.string t.nm, .slice aD t.D.length cD, .int .i64 t.w0, .int .i64 t.w1, .int .i64 t.w2, .int .i64 t.w3, .int .i64 t.w4, .int .i64 t.w5, .int .i64 t.w6, .slice aS t.S.length cS, .slice aX t.X.length cX, .slice aH t.H.length cH] 28)) = Y at *
  clear hR
  go_loopg [4] t.S.length (fun gk s4 wr => ∃ k : Nat, k + gk = t.S.length ∧ s4 = .int .i64 (k : Int) ∧ Hid ((t.S.drop k).all (fun x => x.wk.all (kdB t.D.length)) = t.S.all (fun x => x.wk.all (kdB t.D.length))) ∧ Below Y.heap.size Y wr)
  case atStart => exact ⟨0, by omega, rfl, rfl, Below.refl _ _⟩
  case round =>
    obtain ⟨k, hk, rfl, hA, hb⟩ := hrel
    obtain ⟨_, q, _⟩ := id (HY.below hb)
    by_cases hlt : k < t.S.length
    · have hE : Hid (t.S.all (fun x => x.wk.all (kdB t.D.length)) = ((fun x => x.wk.all (kdB t.D.length)) t.S[k] && (t.S.drop (k + 1)).all (fun x => x.wk.all (kdB t.D.length)))) := by show _ = _; rw [← hA.out, all_drop _ _ k hlt]
      clear hA
      obtain ⟨g, o, rfl, hg, P⟩ := (hRR.out.s.ln).resolve_left (by intro e; rw [e] at hlt; simp at hlt)
      have p0 := (hb.cell (p := ⟨g, _, none⟩) hg).trans (P k hlt 0 _ rfl)
      have p1 := (hb.cell (p := ⟨g, _, none⟩) hg).trans (P k hlt 1 _ rfl)
      have p2 := (hb.cell (p := ⟨g, _, none⟩) hg).trans (P k hlt 2 _ rfl)
      have p3 := (hb.cell (p := ⟨g, _, none⟩) hg).trans (P k hlt 3 _ rfl)
      have p4 := (hb.cell (p := ⟨g, _, none⟩) hg).trans (P k hlt 4 _ rfl)
      have p5 := (hb.cell (p := ⟨g, _, none⟩) hg).trans (P k hlt 5 _ rfl)
      have p6 := (hb.cell (p := ⟨g, _, none⟩) hg).trans (P k hlt 6 _ rfl)
      have p7 := (hb.cell (p := ⟨g, _, none⟩) hg).trans (P k hlt 7 _ rfl)
      have p8 := (hb.cell (p := ⟨g, _, none⟩) hg).trans (P k hlt 8 _ rfl)
      simp only [Nat.add_zero] at p0
      have t1 : (k : Int) < (t.S.length : Int) := by omega
      have t0 : (0 : Int) ≤ (k : Int) := by omega
      have hsn : (fun x => x.wk.all (kdB t.D.length)) t.S[k] = [t.S[k].w0, t.S[k].w1, t.S[k].w2, t.S[k].w3, t.S[k].w4, t.S[k].w5, t.S[k].w6].all (kdB t.D.length) := rfl
      have c1 := fun W => week_any t.S[k].w0 t.S[k].w1 t.S[k].w2 t.S[k].w3 t.S[k].w4 t.S[k].w5 t.S[k].w6 t.D.length W
      rw [hsn] at hE
      clear hsn P
      generalize [t.S[k].w0, t.S[k].w1, t.S[k].w2, t.S[k].w3, t.S[k].w4, t.S[k].w5, t.S[k].w6].all (kdB t.D.length) = a at *
      generalize t.S[k].fr = z0 at *
      generalize t.S[k].till = z1 at *
      generalize t.S[k].w0 = z2 at *
      generalize t.S[k].w1 = z3 at *
      generalize t.S[k].w2 = z4 at *
      generalize t.S[k].w3 = z5 at *
      generalize t.S[k].w4 = z6 at *
      generalize t.S[k].w5 = z7 at *
      generalize t.S[k].w6 = z8 at *
      cases a with
      | false =>
        have hE2 : Hid (R = false) := f1.out (by rw [hE.out]; simp)
        go_wp2_with (go_at_call 55; (with_reducible refine (c1 _).mono ?_); rintro e w1 ⟨rfl, hb1⟩)
        go_ret
        exact ⟨ret_bool hE2.out.symm, belT HB (belT hb hb1)⟩
      | true =>
        have hE2 : Hid ((t.S.drop (k + 1)).all (fun x => x.wk.all (kdB t.D.length)) = t.S.all (fun x => x.wk.all (kdB t.D.length))) := by show _ = _; rw [hE.out]; simp
        go_wp2_with (go_at_call 55; (with_reducible refine (c1 _).mono ?_); rintro e w1 ⟨rfl, hb1⟩)
        go_roundg (gk - 1)
        case measure => go_light; omega
        case rel => exact ⟨k + 1, by omega, by go_num, hE2, (belT hb hb1)⟩
    · obtain rfl : k = t.S.length := by omega
      have t1 : ¬ (t.S.length : Int) < (t.S.length : Int) := by omega
      have hTS : Hid (t.S.all (fun x => x.wk.all (kdB t.D.length)) = true) := by show _ = _; rw [← hA.out]; simp
      clear hA
      go_wp2
      go_loopg [5] t.X.length (fun gk s5 wr => ∃ k : Nat, k + gk = t.X.length ∧ s5 = .int .i64 (k : Int) ∧ Hid ((t.X.drop k).all (fun x => kdB t.D.length x.kind) = t.X.all (fun x => kdB t.D.length x.kind)) ∧ Below Y.heap.size Y wr)
      case atStart => exact ⟨0, by omega, rfl, rfl, hb⟩
      case round =>
        obtain ⟨k, hk, rfl, hA, hb⟩ := hrel
        obtain ⟨_, q, _⟩ := id (HY.below hb)
        by_cases hlt : k < t.X.length
        · have hE : Hid (t.X.all (fun x => kdB t.D.length x.kind) = ((fun x => kdB t.D.length x.kind) t.X[k] && (t.X.drop (k + 1)).all (fun x => kdB t.D.length x.kind))) := by show _ = _; rw [← hA.out, all_drop _ _ k hlt]
          clear hA
          obtain ⟨g, o, rfl, hg, P⟩ := (hRR.out.x.ln).resolve_left (by intro e; rw [e] at hlt; simp at hlt)
          have p0 := (hb.cell (p := ⟨g, _, none⟩) hg).trans (P k hlt 0 _ rfl)
          have p1 := (hb.cell (p := ⟨g, _, none⟩) hg).trans (P k hlt 1 _ rfl)
          simp only [Nat.add_zero] at p0
          have t1 : (k : Int) < (t.X.length : Int) := by omega
          have t0 : (0 : Int) ≤ (k : Int) := by omega
          have hsn : (fun x => kdB t.D.length x.kind) t.X[k] = inB t.X[k].kind 0 ((t.D.length : Int) - 1) := by
            simp only [kdB, inB]; congr 1; rw [decide_eq_decide]; omega
          have c1 := fun W => within_any t.X[k].kind 0 ((t.D.length : Int) - 1) W
          rw [hsn] at hE
          clear hsn P
          generalize inB t.X[k].kind 0 ((t.D.length : Int) - 1) = a at *
          generalize t.X[k].day = z0 at *
          generalize t.X[k].kind = z1 at *
          cases a with
          | false =>
            have hE2 : Hid (R = false) := f2.out (by rw [hE.out]; simp)
            go_wp2_with (go_at_call 54; (with_reducible refine (c1 _).mono ?_); rintro e w' ⟨rfl, rfl⟩)
            go_ret
            exact ⟨ret_bool hE2.out.symm, belT HB hb⟩
          | true =>
            have hE2 : Hid ((t.X.drop (k + 1)).all (fun x => kdB t.D.length x.kind) = t.X.all (fun x => kdB t.D.length x.kind)) := by show _ = _; rw [hE.out]; simp
            go_wp2_with (go_at_call 54; (with_reducible refine (c1 _).mono ?_); rintro e w' ⟨rfl, rfl⟩)
            go_roundg (gk - 1)
            case measure => go_light; omega
            case rel => exact ⟨k + 1, by omega, by go_num, hE2, hb⟩
        · obtain rfl : k = t.X.length := by omega
          have t1 : ¬ (t.X.length : Int) < (t.X.length : Int) := by omega
          have hTX : Hid (t.X.all (fun x => kdB t.D.length x.kind) = true) := by show _ = _; rw [← hA.out]; simp
          clear hA
          have hE2 : Hid (R = [t.w0, t.w1, t.w2, t.w3, t.w4, t.w5, t.w6].all (kdB t.D.length)) := f4.out hTS.out hTX.out
          have c1 := fun W => week_any t.w0 t.w1 t.w2 t.w3 t.w4 t.w5 t.w6 t.D.length W
          generalize [t.w0, t.w1, t.w2, t.w3, t.w4, t.w5, t.w6].all (kdB t.D.length) = a at *
          go_wp2_with (go_at_call 55; (with_reducible refine (c1 _).mono ?_); rintro e w1 ⟨rfl, hb1⟩)
          go_ret
          exact ⟨ret_bool hE2.out.symm, belT HB (belT hb hb1)⟩
set_option maxRecDepth 100000 in
set_option maxHeartbeats 4000000 in
theorem clocks_any (t : Tt) (aD aS aX aH : Option Addr) (cD cS cX cH : Nat) (w : World) (hR : TR w t (.slice aD t.D.length cD) (.slice aS t.S.length cS) (.slice aX t.X.length cX) (.slice aH t.H.length cH)) : Calls Tryz.prog 34 #[.agg #[.string t.nm, .slice aD t.D.length cD, .int .i64 t.w0, .int .i64 t.w1, .int .i64 t.w2, .int .i64 t.w3, .int .i64 t.w4, .int .i64 t.w5, .int .i64 t.w6, .slice aS t.S.length cS, .slice aX t.X.length cX, .slice aH t.H.length cH]] w fun e w' => e = .returned (.bool t.clkB) ∧ Below w.heap.size w w' := by
  have f1 : Hid (t.D.all (fun x => x.rows.all rwB) = false → t.clkB = false) := by intro h; simp only [Tt.clkB, h]; simp
  have f2 : Hid (t.H.all (fun x => inB x.plus (-720) 840) = false → t.clkB = false) := by intro h; simp only [Tt.clkB, h]; simp
  have f4 : Hid (t.D.all (fun x => x.rows.all rwB) = true → t.H.all (fun x => inB x.plus (-720) 840) = true → t.clkB = true) := by intro h1 h2; simp only [Tt.clkB, h1, h2]; simp
  generalize t.clkB = R at *
  have dl := hR.dl
  have sl := hR.sl
  have xl := hR.xl
  have hl := hR.hl
  go_enter Tryz.func34, Tryz.ntmps34
  go_wp2
  have HY : Has (w.alloc (.cells #[.string t.nm, .slice aD t.D.length cD, .int .i64 t.w0, .int .i64 t.w1, .int .i64 t.w2, .int .i64 t.w3, .int .i64 t.w4, .int .i64 t.w5, .int .i64 t.w6, .slice aS t.S.length cS, .slice aX t.X.length cX, .slice aH t.H.length cH] 28)) w.heap.size #[.string t.nm, .slice aD t.D.length cD, .int .i64 t.w0, .int .i64 t.w1, .int .i64 t.w2, .int .i64 t.w3, .int .i64 t.w4, .int .i64 t.w5, .int .i64 t.w6, .slice aS t.S.length cS, .slice aX t.X.length cX, .slice aH t.H.length cH] := Has.new _ _ _ rfl
  have HB : Below w.heap.size w (w.alloc (.cells #[.string t.nm, .slice aD t.D.length cD, .int .i64 t.w0, .int .i64 t.w1, .int .i64 t.w2, .int .i64 t.w3, .int .i64 t.w4, .int .i64 t.w5, .int .i64 t.w6, .slice aS t.S.length cS, .slice aX t.X.length cX, .slice aH t.H.length cH] 28)) := bel1
  have hRR : Hid (TR (w.alloc (.cells #[.string t.nm, .slice aD t.D.length cD, .int .i64 t.w0, .int .i64 t.w1, .int .i64 t.w2, .int .i64 t.w3, .int .i64 t.w4, .int .i64 t.w5, .int .i64 t.w6, .slice aS t.S.length cS, .slice aX t.X.length cX, .slice aH t.H.length cH] 28)) t (.slice aD t.D.length cD) (.slice aS t.S.length cS) (.slice aX t.X.length cX) (.slice aH t.H.length cH)) := hR.below HB
  generalize (w.alloc (.cells #[.string t.nm, .slice aD t.D.length cD, .int .i64 t.w0, .int .i64 t.w1, .int .i64 t.w2, .int .i64 t.w3, .int .i64 t.w4, .int .i64 t.w5, .int .i64 t.w6, .slice aS t.S.length cS, .slice aX t.X.length cX, .slice aH t.H.length cH] 28)) = Y at *
  clear hR
  go_loopg [3, 4, 5] t.D.length (fun gk s3 s4 s5 wr => ∃ k : Nat, k + gk = t.D.length ∧ s3 = .int .i64 (k : Int) ∧ Hid ((t.D.drop k).all (fun x => x.rows.all rwB) = t.D.all (fun x => x.rows.all rwB)) ∧ Below Y.heap.size Y wr)
  case atStart => exact ⟨0, by omega, rfl, rfl, Below.refl _ _⟩
  case round =>
    obtain ⟨k, hk, rfl, hA, hb⟩ := hrel
    obtain ⟨_, q, _⟩ := id (HY.below hb)
    by_cases hlt : k < t.D.length
    · have hE : Hid (t.D.all (fun x => x.rows.all rwB) = ((fun x => x.rows.all rwB) t.D[k] && (t.D.drop (k + 1)).all (fun x => x.rows.all rwB))) := by show _ = _; rw [← hA.out, all_drop _ _ k hlt]
      clear hA
      obtain ⟨g, o, rfl, hg, P⟩ := (hRR.out.d.ln).resolve_left (by intro e; rw [e] at hlt; simp at hlt)
      have p0 := (hb.cell (p := ⟨g, _, none⟩) hg).trans (P k hlt 0 _ rfl)
      have p1 := (hb.cell (p := ⟨g, _, none⟩) hg).trans (P k hlt 1 _ rfl)
      simp only [Nat.add_zero] at p0
      have t1 : (k : Int) < (t.D.length : Int) := by omega
      have t0 : (0 : Int) ≤ (k : Int) := by omega
      have hsn : (fun x => x.rows.all rwB) t.D[k] = t.D[k].rows.all rwB := rfl
      rw [hsn] at hE
      clear hsn
      obtain ⟨ra, rc, hrv, kr⟩ := (hRR.out.r _ (List.getElem_mem hlt)).any
      have lr := hRR.out.rl _ (List.getElem_mem hlt)
      rw [hrv] at p1
      clear hrv
      generalize t.D[k].name = z0 at *
      generalize t.D[k].rows = rws at *
      go_wp2
      obtain ⟨gko, rfl⟩ : ∃ x, x = gk := ⟨_, rfl⟩
      obtain ⟨wo, rfl⟩ : ∃ x, x = wr := ⟨_, rfl⟩
      go_loopg [4, 5] rws.length (fun gj s4 s5 wi => ∃ j : Nat, j + gj = rws.length ∧ s4 = .int .i64 (j : Int) ∧ Hid ((rws.drop j).all rwB = rws.all rwB) ∧ Below Y.heap.size Y wi)
      case atStart => exact ⟨0, by omega, rfl, rfl, hb⟩
      case round =>
        obtain ⟨j, hj, rfl, hA, hbi⟩ := hrel
        obtain ⟨_, qi, _⟩ := id (HY.below hbi)
        have m1 := (hbi.cell (p := ⟨g, _, none⟩) hg).trans ((hb.cell (p := ⟨g, _, none⟩) hg).symm.trans p1)
        by_cases hlj : j < rws.length
        · have hEj : Hid (rws.all rwB = (rwB rws[j] && (rws.drop (j + 1)).all rwB)) := by show _ = _; rw [← hA.out, all_drop _ _ j hlj]
          obtain ⟨gr, og, rfl, hgr, Pr⟩ := kr.resolve_left (by intro e; rw [e] at hlj; simp at hlj)
          have r0 := (hbi.cell (p := ⟨gr, _, none⟩) hgr).trans (Pr j hlj 0 _ rfl)
          have r1 := (hbi.cell (p := ⟨gr, _, none⟩) hgr).trans (Pr j hlj 1 _ rfl)
          simp only [Nat.add_zero] at r0
          have u1 : (j : Int) < (rws.length : Int) := by omega
          have u0 : (0 : Int) ≤ (j : Int) := by omega
          have c1 := fun W => within_any rws[j].m 0 1439 W
          have c2 := fun W => within_any rws[j].s (-1) 7 W
          have hsn : rwB rws[j] = (inB rws[j].m 0 1439 && inB rws[j].s (-1) 7) := rfl
          have hbb : Below Y.heap.size Y (wr.alloc (.cells #[.int .i64 rws[j].m, .int .i64 rws[j].s] 50)) := belT hbi bel1
          rw [hsn] at hEj
          clear hsn Pr hA P kr
          generalize inB rws[j].m 0 1439 = a at *
          generalize inB rws[j].s (-1) 7 = b at *
          generalize rws[j].m = y0 at *
          generalize rws[j].s = y1 at *
          cases a with
          | false =>
            have hE2 : Hid (R = false) := f1.out (by rw [hE.out, hEj.out]; simp)
            go_wp2_with (first | (go_at_call 54; (with_reducible refine (c1 _).mono ?_); rintro e w' ⟨rfl, rfl⟩) | (go_at_call 54; (with_reducible refine (c2 _).mono ?_); rintro e w' ⟨rfl, rfl⟩))
            go_ret
            exact ⟨ret_bool hE2.out.symm, belT HB hbb⟩
          | true =>
            cases b with
            | false =>
              have hE2 : Hid (R = false) := f1.out (by rw [hE.out, hEj.out]; simp)
              go_wp2_with (first | (go_at_call 54; (with_reducible refine (c1 _).mono ?_); rintro e w' ⟨rfl, rfl⟩) | (go_at_call 54; (with_reducible refine (c2 _).mono ?_); rintro e w' ⟨rfl, rfl⟩))
              go_ret
              exact ⟨ret_bool hE2.out.symm, belT HB hbb⟩
            | true =>
              have hE2 : Hid ((rws.drop (j + 1)).all rwB = rws.all rwB) := by show _ = _; rw [hEj.out]; simp
              go_wp2_with (first | (go_at_call 54; (with_reducible refine (c1 _).mono ?_); rintro e w' ⟨rfl, rfl⟩) | (go_at_call 54; (with_reducible refine (c2 _).mono ?_); rintro e w' ⟨rfl, rfl⟩))
              go_roundg (gk - 1)
              case measure => go_light; omega
              case rel => exact ⟨j + 1, by omega, by go_num, hE2, hbb⟩
        · obtain rfl : j = rws.length := by omega
          have u1 : ¬ (rws.length : Int) < (rws.length : Int) := by omega
          have hTj : Hid (rws.all rwB = true) := by show _ = _; rw [← hA.out]; simp
          have hE2 : Hid ((t.D.drop (k + 1)).all (fun x => x.rows.all rwB) = t.D.all (fun x => x.rows.all rwB)) := by show _ = _; rw [hE.out, hTj.out]; simp
          clear hA P kr
          go_wp2
          go_roundg (gko - 1)
          case measure => go_light; omega
          case rel => exact ⟨k + 1, by omega, by go_num, hE2, hbi⟩
    · obtain rfl : k = t.D.length := by omega
      have t1 : ¬ (t.D.length : Int) < (t.D.length : Int) := by omega
      have hTD : Hid (t.D.all (fun x => x.rows.all rwB) = true) := by show _ = _; rw [← hA.out]; simp
      clear hA
      go_wp2
      go_loopg [6] t.H.length (fun gk s6 wr => ∃ k : Nat, k + gk = t.H.length ∧ s6 = .int .i64 (k : Int) ∧ Hid ((t.H.drop k).all (fun x => inB x.plus (-720) 840) = t.H.all (fun x => inB x.plus (-720) 840)) ∧ Below Y.heap.size Y wr)
      case atStart => exact ⟨0, by omega, rfl, rfl, hb⟩
      case round =>
        obtain ⟨k, hk, rfl, hA, hb⟩ := hrel
        obtain ⟨_, q, _⟩ := id (HY.below hb)
        by_cases hlt : k < t.H.length
        · have hE : Hid (t.H.all (fun x => inB x.plus (-720) 840) = ((fun x => inB x.plus (-720) 840) t.H[k] && (t.H.drop (k + 1)).all (fun x => inB x.plus (-720) 840))) := by show _ = _; rw [← hA.out, all_drop _ _ k hlt]
          clear hA
          obtain ⟨g, o, rfl, hg, P⟩ := (hRR.out.h.ln).resolve_left (by intro e; rw [e] at hlt; simp at hlt)
          have p0 := (hb.cell (p := ⟨g, _, none⟩) hg).trans (P k hlt 0 _ rfl)
          have p1 := (hb.cell (p := ⟨g, _, none⟩) hg).trans (P k hlt 1 _ rfl)
          simp only [Nat.add_zero] at p0
          have t1 : (k : Int) < (t.H.length : Int) := by omega
          have t0 : (0 : Int) ≤ (k : Int) := by omega
          have c1 := fun W => within_any t.H[k].plus (-720) 840 W
          have hsn : (fun x => inB x.plus (-720) 840) t.H[k] = inB t.H[k].plus (-720) 840 := rfl
          rw [hsn] at hE
          clear hsn P
          generalize inB t.H[k].plus (-720) 840 = a at *
          generalize t.H[k].m = z0 at *
          generalize t.H[k].plus = z1 at *
          cases a with
          | false =>
            have hE2 : Hid (R = false) := f2.out (by rw [hE.out]; simp)
            go_wp2_with (go_at_call 54; (with_reducible refine (c1 _).mono ?_); rintro e w' ⟨rfl, rfl⟩)
            go_ret
            exact ⟨ret_bool hE2.out.symm, belT HB hb⟩
          | true =>
            have hE2 : Hid ((t.H.drop (k + 1)).all (fun x => inB x.plus (-720) 840) = t.H.all (fun x => inB x.plus (-720) 840)) := by show _ = _; rw [hE.out]; simp
            go_wp2_with (go_at_call 54; (with_reducible refine (c1 _).mono ?_); rintro e w' ⟨rfl, rfl⟩)
            go_roundg (gk - 1)
            case measure => go_light; omega
            case rel => exact ⟨k + 1, by omega, by go_num, hE2, hb⟩
        · obtain rfl : k = t.H.length := by omega
          have t1 : ¬ (t.H.length : Int) < (t.H.length : Int) := by omega
          have hTH : Hid (t.H.all (fun x => inB x.plus (-720) 840) = true) := by show _ = _; rw [← hA.out]; simp
          clear hA
          have hE2 : Hid (R = true) := f4.out hTD.out hTH.out
          go_wp2
          go_ret
          exact ⟨ret_bool hE2.out.symm, belT HB hb⟩
end Go.Proofs.YtddphepgcihdbaaGreat
