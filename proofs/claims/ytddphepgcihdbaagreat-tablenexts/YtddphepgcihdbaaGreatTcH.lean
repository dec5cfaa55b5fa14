import Derived.Test.YtddphepgcihdbaaGreatTcD
import Derived.Test.YtddphepgcihdbaaGreatTcG
import Derived.Test.YtddphepgcihdbaaGreatTbN
namespace Go.Proofs.YtddphepgcihdbaaGreat
open Go.RowKit
set_option linter.unusedVariables false
set_option linter.unusedSimpArgs false

set_option maxRecDepth 100000 in
set_option maxHeartbeats 4000000 in
theorem refSound_any (t : Tt) (aD aS aX aH : Option Addr) (cD cS cX cH : Nat) (w : World) (hR : TR w t (.slice aD t.D.length cD) (.slice aS t.S.length cS) (.slice aX t.X.length cX) (.slice aH t.H.length cH)) : Calls Tryz.prog 16 #[.agg #[.string t.nm, .slice aD t.D.length cD, .int .i64 t.w0, .int .i64 t.w1, .int .i64 t.w2, .int .i64 t.w3, .int .i64 t.w4, .int .i64 t.w5, .int .i64 t.w6, .slice aS t.S.length cS, .slice aX t.X.length cX, .slice aH t.H.length cH]] w fun e w' => e = .returned (.int .i64 t.err) ∧ Below w.heap.size w w' := by
  have c0 := fun W => named_any t.nm W hR.nml
  have c1 := fun W (hb : Below w.heap.size w W) => full_any t aD aS aX aH cD cS cX cH W (hR.below hb)
  have c2 := fun W (hb : Below w.heap.size w W) => twice_any t aD aS aX aH cD cS cX cH W (hR.below hb)
  have c3 := fun W (hb : Below w.heap.size w W) => clocks_any t aD aS aX aH cD cS cX cH W (hR.below hb)
  have c4 := fun W (hb : Below w.heap.size w W) => dates_any t aD aS aX aH cD cS cX cH W (hR.below hb)
  have c5 := fun W (hb : Below w.heap.size w W) => kinds_any t aD aS aX aH cD cS cX cH W (hR.below hb)
  have c6 := fun W (hb : Below w.heap.size w W) => rising_any t aD aS aX aH cD cS cX cH W (hR.below hb)
  have f0 : Hid (nmB t.nm = false → t.err = 181) := by intro h; simp [Tt.err, Tt.nmsB, h]
  have f1 : Hid (t.D.all (fun x => nmB x.name) = false → t.err = 181) := by intro h; simp only [Tt.err, Tt.nmsB, h]; simp
  have f2 : Hid (nmB t.nm = true → t.D.all (fun x => nmB x.name) = true → t.err = if t.limB = true then (if t.rowB = true then (if t.oneB = true then (if t.clkB = true then (if t.datB = true then (if t.kinB = true then (if t.ordB = true then 0 else 186) else 184) else 182) else 183) else 185) else 188) else 187) := by
    intro h1 h2; simp only [Tt.err, Tt.nmsB, h1, h2]; simp
  unfold Tt.flE at c1
  generalize t.err = R at *
  generalize t.limB = b1 at *
  generalize t.rowB = b2 at *
  generalize t.oneB = b3 at *
  generalize t.clkB = b4 at *
  generalize t.datB = b5 at *
  generalize t.kinB = b6 at *
  generalize t.ordB = b7 at *
  cases hnm : nmB t.nm with
  | false =>
    rw [hnm] at c0
    have hE2 : Hid (R = 181) := f0.out hnm
    clear hnm hR
    go_enter Tryz.func16, Tryz.ntmps16
    go_wp2_with (go_at_call 31; (with_reducible refine (c0 _).mono ?_); rintro e w' ⟨rfl, rfl⟩)
    go_ret
    exact ⟨ret_int hE2.out.symm, bel1⟩
  | true =>
    rw [hnm] at c0
    have hnm' : Hid (nmB t.nm = true) := hnm
    clear hnm
    have dl := hR.dl
    have sl := hR.sl
    have xl := hR.xl
    have hl := hR.hl
    go_enter Tryz.func16, Tryz.ntmps16
    go_wp2_with (go_at_call 31; (with_reducible refine (c0 _).mono ?_); rintro e w' ⟨rfl, rfl⟩)
    have HY : Has (w.alloc (.cells #[.string t.nm, .slice aD t.D.length cD, .int .i64 t.w0, .int .i64 t.w1, .int .i64 t.w2, .int .i64 t.w3, .int .i64 t.w4, .int .i64 t.w5, .int .i64 t.w6, .slice aS t.S.length cS, .slice aX t.X.length cX, .slice aH t.H.length cH] 28)) w.heap.size #[.string t.nm, .slice aD t.D.length cD, .int .i64 t.w0, .int .i64 t.w1, .int .i64 t.w2, .int .i64 t.w3, .int .i64 t.w4, .int .i64 t.w5, .int .i64 t.w6, .slice aS t.S.length cS, .slice aX t.X.length cX, .slice aH t.H.length cH] := Has.new _ _ _ rfl
    have HB : Below w.heap.size w (w.alloc (.cells #[.string t.nm, .slice aD t.D.length cD, .int .i64 t.w0, .int .i64 t.w1, .int .i64 t.w2, .int .i64 t.w3, .int .i64 t.w4, .int .i64 t.w5, .int .i64 t.w6, .slice aS t.S.length cS, .slice aX t.X.length cX, .slice aH t.H.length cH] 28)) := bel1
    have hRR : Hid (TR (w.alloc (.cells #[.string t.nm, .slice aD t.D.length cD, .int .i64 t.w0, .int .i64 t.w1, .int .i64 t.w2, .int .i64 t.w3, .int .i64 t.w4, .int .i64 t.w5, .int .i64 t.w6, .slice aS t.S.length cS, .slice aX t.X.length cX, .slice aH t.H.length cH] 28)) t (.slice aD t.D.length cD) (.slice aS t.S.length cS) (.slice aX t.X.length cX) (.slice aH t.H.length cH)) := hR.below HB
    generalize (w.alloc (.cells #[.string t.nm, .slice aD t.D.length cD, .int .i64 t.w0, .int .i64 t.w1, .int .i64 t.w2, .int .i64 t.w3, .int .i64 t.w4, .int .i64 t.w5, .int .i64 t.w6, .slice aS t.S.length cS, .slice aX t.X.length cX, .slice aH t.H.length cH] 28)) = Y at *
    clear hR
    go_loopg [3] t.D.length (fun gk s3 wr => ∃ k : Nat, k + gk = t.D.length ∧ s3 = .int .i64 (k : Int) ∧ Hid ((t.D.drop k).all (fun x => nmB x.name) = t.D.all (fun x => nmB x.name)) ∧ Below Y.heap.size Y wr)
    case atStart => exact ⟨0, by omega, rfl, rfl, Below.refl _ _⟩
    case round =>
      obtain ⟨k, hk, rfl, hA, hb⟩ := hrel
      obtain ⟨_, q, _⟩ := id (HY.below hb)
      by_cases hlt : k < t.D.length
      · have hE : Hid (t.D.all (fun x => nmB x.name) = ((fun x => nmB x.name) t.D[k] && (t.D.drop (k + 1)).all (fun x => nmB x.name))) := by show _ = _; rw [← hA.out, all_drop _ _ k hlt]
        clear hA
        obtain ⟨g, o, rfl, hg, P⟩ := (hRR.out.d.ln).resolve_left (by intro e; rw [e] at hlt; simp at hlt)
        have p0 := (hb.cell (p := ⟨g, _, none⟩) hg).trans (P k hlt 0 _ rfl)
        have p1 := (hb.cell (p := ⟨g, _, none⟩) hg).trans (P k hlt 1 _ rfl)
        simp only [Nat.add_zero] at p0
        have t1 : (k : Int) < (t.D.length : Int) := by omega
        have t0 : (0 : Int) ≤ (k : Int) := by omega
        have c47 := fun W => named_any t.D[k].name W (hRR.out.ndl _ (List.getElem_mem hlt))
        have hsn : (fun x => nmB x.name) t.D[k] = nmB t.D[k].name := rfl
        rw [hsn] at hE
        clear hsn P
        generalize nmB t.D[k].name = a at *
        generalize t.D[k].name = z0 at *
        generalize t.D[k].rv = z1 at *
        cases a with
        | false =>
          have hE2 : Hid (R = 181) := f1.out (by rw [hE.out]; simp)
          go_wp2_with (go_at_call 31; (with_reducible refine (c47 _).mono ?_); rintro e w' ⟨rfl, rfl⟩)
          go_ret
          exact ⟨ret_int hE2.out.symm, belT HB hb⟩
        | true =>
          have hE2 : Hid ((t.D.drop (k + 1)).all (fun x => nmB x.name) = t.D.all (fun x => nmB x.name)) := by show _ = _; rw [hE.out]; simp
          go_wp2_with (go_at_call 31; (with_reducible refine (c47 _).mono ?_); rintro e w' ⟨rfl, rfl⟩)
          go_roundg (gk - 1)
          case measure => go_light; omega
          case rel => exact ⟨k + 1, by omega, by go_num, hE2, hb⟩
      · obtain rfl : k = t.D.length := by omega
        have t1 : ¬ (t.D.length : Int) < (t.D.length : Int) := by omega
        have hTD : Hid (t.D.all (fun x => nmB x.name) = true) := by show _ = _; rw [← hA.out]; simp
        clear hA
        have hf := f2.out hnm'.out hTD.out
        have hf' : Hid (R = _) := hf
        clear hf hTD f0 f1 f2 c0
        cases b1 with
        | false =>
          simp only [Bool.false_eq_true, if_false, ite_false] at c1
          have hE2 : Hid (R = 187) := by show _ = _; rw [hf'.out]; rfl
          clear hf'
          go_wp2_with (first | (go_at_call 32; (with_reducible refine (c1 _ (belT HB hb)).mono ?_); rintro e w0 ⟨rfl, hb0⟩; have B0 := ((HY.below hb).below hb0); have hb0' := (belT (belT HB hb) hb0); obtain ⟨_, q0, _⟩ := id B0))
          go_ret
          exact ⟨ret_int hE2.out.symm, hb0'⟩
        | true =>
          cases b2 with
          | false =>
            simp only [if_true, Bool.false_eq_true, if_false] at c1
            have hE2 : Hid (R = 188) := by show _ = _; rw [hf'.out]; rfl
            clear hf'
            go_wp2_with (first | (go_at_call 32; (with_reducible refine (c1 _ (belT HB hb)).mono ?_); rintro e w0 ⟨rfl, hb0⟩; have B0 := ((HY.below hb).below hb0); have hb0' := (belT (belT HB hb) hb0); obtain ⟨_, q0, _⟩ := id B0))
            go_ret
            exact ⟨ret_int hE2.out.symm, hb0'⟩
          | true =>
            simp only [if_true] at c1
            cases b3 with
            | false =>
              have hE2 : Hid (R = 185) := by show _ = _; rw [hf'.out]; rfl
              clear hf'
              go_wp2_with (first | (go_at_call 32; (with_reducible refine (c1 _ (belT HB hb)).mono ?_); rintro e w0 ⟨rfl, hb0⟩; have B0 := ((HY.below hb).below hb0); have hb0' := (belT (belT HB hb) hb0); obtain ⟨_, q0, _⟩ := id B0) | (go_at_call 33; (with_reducible refine (c2 _ hb0').mono ?_); rintro e w1 ⟨rfl, hb1⟩; have B1 := (B0.below hb1); have hb1' := (belT hb0' hb1); obtain ⟨_, q1, _⟩ := id B1; clear B0 q0))
              go_ret
              exact ⟨ret_int hE2.out.symm, hb1'⟩
            | true =>
              cases b4 with
              | false =>
                have hE2 : Hid (R = 183) := by show _ = _; rw [hf'.out]; rfl
                clear hf'
                go_wp2_with (first | (go_at_call 32; (with_reducible refine (c1 _ (belT HB hb)).mono ?_); rintro e w0 ⟨rfl, hb0⟩; have B0 := ((HY.below hb).below hb0); have hb0' := (belT (belT HB hb) hb0); obtain ⟨_, q0, _⟩ := id B0) | (go_at_call 33; (with_reducible refine (c2 _ hb0').mono ?_); rintro e w1 ⟨rfl, hb1⟩; have B1 := (B0.below hb1); have hb1' := (belT hb0' hb1); obtain ⟨_, q1, _⟩ := id B1; clear B0 q0) | (go_at_call 34; (with_reducible refine (c3 _ hb1').mono ?_); rintro e w2 ⟨rfl, hb2⟩; have B2 := (B1.below hb2); have hb2' := (belT hb1' hb2); obtain ⟨_, q2, _⟩ := id B2; clear B1 q1))
                go_ret
                exact ⟨ret_int hE2.out.symm, hb2'⟩
              | true =>
                cases b5 with
                | false =>
                  have hE2 : Hid (R = 182) := by show _ = _; rw [hf'.out]; rfl
                  clear hf'
                  go_wp2_with (first | (go_at_call 32; (with_reducible refine (c1 _ (belT HB hb)).mono ?_); rintro e w0 ⟨rfl, hb0⟩; have B0 := ((HY.below hb).below hb0); have hb0' := (belT (belT HB hb) hb0); obtain ⟨_, q0, _⟩ := id B0) | (go_at_call 33; (with_reducible refine (c2 _ hb0').mono ?_); rintro e w1 ⟨rfl, hb1⟩; have B1 := (B0.below hb1); have hb1' := (belT hb0' hb1); obtain ⟨_, q1, _⟩ := id B1; clear B0 q0) | (go_at_call 34; (with_reducible refine (c3 _ hb1').mono ?_); rintro e w2 ⟨rfl, hb2⟩; have B2 := (B1.below hb2); have hb2' := (belT hb1' hb2); obtain ⟨_, q2, _⟩ := id B2; clear B1 q1) | (go_at_call 35; (with_reducible refine (c4 _ hb2').mono ?_); rintro e w3 ⟨rfl, hb3⟩; have B3 := (B2.below hb3); have hb3' := (belT hb2' hb3); obtain ⟨_, q3, _⟩ := id B3; clear B2 q2))
                  go_ret
                  exact ⟨ret_int hE2.out.symm, hb3'⟩
                | true =>
                  cases b6 with
                  | false =>
                    have hE2 : Hid (R = 184) := by show _ = _; rw [hf'.out]; rfl
                    clear hf'
                    go_wp2_with (first | (go_at_call 32; (with_reducible refine (c1 _ (belT HB hb)).mono ?_); rintro e w0 ⟨rfl, hb0⟩; have B0 := ((HY.below hb).below hb0); have hb0' := (belT (belT HB hb) hb0); obtain ⟨_, q0, _⟩ := id B0) | (go_at_call 33; (with_reducible refine (c2 _ hb0').mono ?_); rintro e w1 ⟨rfl, hb1⟩; have B1 := (B0.below hb1); have hb1' := (belT hb0' hb1); obtain ⟨_, q1, _⟩ := id B1; clear B0 q0) | (go_at_call 34; (with_reducible refine (c3 _ hb1').mono ?_); rintro e w2 ⟨rfl, hb2⟩; have B2 := (B1.below hb2); have hb2' := (belT hb1' hb2); obtain ⟨_, q2, _⟩ := id B2; clear B1 q1) | (go_at_call 35; (with_reducible refine (c4 _ hb2').mono ?_); rintro e w3 ⟨rfl, hb3⟩; have B3 := (B2.below hb3); have hb3' := (belT hb2' hb3); obtain ⟨_, q3, _⟩ := id B3; clear B2 q2) | (go_at_call 36; (with_reducible refine (c5 _ hb3').mono ?_); rintro e w4 ⟨rfl, hb4⟩; have B4 := (B3.below hb4); have hb4' := (belT hb3' hb4); obtain ⟨_, q4, _⟩ := id B4; clear B3 q3))
                    go_ret
                    exact ⟨ret_int hE2.out.symm, hb4'⟩
                  | true =>
                    cases b7 with
                    | false =>
                      have hE2 : Hid (R = 186) := by show _ = _; rw [hf'.out]; rfl
                      clear hf'
                      go_wp2_with (first | (go_at_call 32; (with_reducible refine (c1 _ (belT HB hb)).mono ?_); rintro e w0 ⟨rfl, hb0⟩; have B0 := ((HY.below hb).below hb0); have hb0' := (belT (belT HB hb) hb0); obtain ⟨_, q0, _⟩ := id B0) | (go_at_call 33; (with_reducible refine (c2 _ hb0').mono ?_); rintro e w1 ⟨rfl, hb1⟩; have B1 := (B0.below hb1); have hb1' := (belT hb0' hb1); obtain ⟨_, q1, _⟩ := id B1; clear B0 q0) | (go_at_call 34; (with_reducible refine (c3 _ hb1').mono ?_); rintro e w2 ⟨rfl, hb2⟩; have B2 := (B1.below hb2); have hb2' := (belT hb1' hb2); obtain ⟨_, q2, _⟩ := id B2; clear B1 q1) | (go_at_call 35; (with_reducible refine (c4 _ hb2').mono ?_); rintro e w3 ⟨rfl, hb3⟩; have B3 := (B2.below hb3); have hb3' := (belT hb2' hb3); obtain ⟨_, q3, _⟩ := id B3; clear B2 q2) | (go_at_call 36; (with_reducible refine (c5 _ hb3').mono ?_); rintro e w4 ⟨rfl, hb4⟩; have B4 := (B3.below hb4); have hb4' := (belT hb3' hb4); obtain ⟨_, q4, _⟩ := id B4; clear B3 q3) | (go_at_call 37; (with_reducible refine (c6 _ hb4').mono ?_); rintro e w5 ⟨rfl, hb5⟩; have B5 := (B4.below hb5); have hb5' := (belT hb4' hb5); obtain ⟨_, q5, _⟩ := id B5; clear B4 q4))
                      go_ret
                      exact ⟨ret_int hE2.out.symm, hb5'⟩
                    | true =>
                      have hE2 : Hid (R = 0) := by show _ = _; rw [hf'.out]; rfl
                      clear hf'
                      go_wp2_with (first | (go_at_call 32; (with_reducible refine (c1 _ (belT HB hb)).mono ?_); rintro e w0 ⟨rfl, hb0⟩; have B0 := ((HY.below hb).below hb0); have hb0' := (belT (belT HB hb) hb0); obtain ⟨_, q0, _⟩ := id B0) | (go_at_call 33; (with_reducible refine (c2 _ hb0').mono ?_); rintro e w1 ⟨rfl, hb1⟩; have B1 := (B0.below hb1); have hb1' := (belT hb0' hb1); obtain ⟨_, q1, _⟩ := id B1; clear B0 q0) | (go_at_call 34; (with_reducible refine (c3 _ hb1').mono ?_); rintro e w2 ⟨rfl, hb2⟩; have B2 := (B1.below hb2); have hb2' := (belT hb1' hb2); obtain ⟨_, q2, _⟩ := id B2; clear B1 q1) | (go_at_call 35; (with_reducible refine (c4 _ hb2').mono ?_); rintro e w3 ⟨rfl, hb3⟩; have B3 := (B2.below hb3); have hb3' := (belT hb2' hb3); obtain ⟨_, q3, _⟩ := id B3; clear B2 q2) | (go_at_call 36; (with_reducible refine (c5 _ hb3').mono ?_); rintro e w4 ⟨rfl, hb4⟩; have B4 := (B3.below hb4); have hb4' := (belT hb3' hb4); obtain ⟨_, q4, _⟩ := id B4; clear B3 q3) | (go_at_call 37; (with_reducible refine (c6 _ hb4').mono ?_); rintro e w5 ⟨rfl, hb5⟩; have B5 := (B4.below hb5); have hb5' := (belT hb4' hb5); obtain ⟨_, q5, _⟩ := id B5; clear B4 q4))
                      go_ret
                      exact ⟨ret_int hE2.out.symm, hb5'⟩
end Go.Proofs.YtddphepgcihdbaaGreat
