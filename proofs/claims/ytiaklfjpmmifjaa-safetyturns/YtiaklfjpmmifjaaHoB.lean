import Derived.Test.YtiaklfjpmmifjaaHoA
import Derived.Test.YtiaklfjpmmifjaaGrD
namespace Go.Proofs.Ytiaklfjpmmifjaa
open Go.RowKit
set_option linter.unusedVariables false


set_option maxRecDepth 100000 in
set_option maxHeartbeats 4000000 in
theorem refHold_any (G : List Gp) (C : List Cf) (vg vc : Value) (F T : Nat) (w : World) (hF : F < 18446744073709551616) (hT : T < 18446744073709551616) (h1 : Fl 5 Gp.cs w vg G) (h2 : Fl 4 Cf.cs w vc C) (lG : G.length ≤ 2932031007317) (lC : C.length ≤ 4398046511000) :
    Calls Try.prog 24 #[.agg #[vg, vc], .int .u64 (F : Int), .int .u64 (T : Int)] w fun e w' => e = .returned (.tuple #[.int .i64 (holdV G C F T).1, .int .i64 (holdV G C F T).2]) ∧ Below w.heap.size w w' := by
  have hGr := fun (W : World) (hW : Below w.heap.size w W) => refGrid_any G C vg vc W (h1.below hW) (h2.below hW) lG lC
  obtain ⟨va, cg, rfl, kG⟩ := h1.any
  clear h1 h2
  skip
  cases eg : gridB G C with
  | false =>
    have eV : holdV G C F T = (0, 70) := by simp [holdV, eg]
    rw [eg] at hGr
    rw [eV]
    clear eV eg
    go_enter Try.func24, Try.ntmps24
    go_wp2_with (go_at_call 15; (with_reducible refine Calls.mono (hGr _ (by exact belN1)) ?_); rintro e w1 ⟨rfl, hb1⟩; have hbM := bel_after belN1 (by simp) hb1; clear hb1)
    exact bodyPost_ret (v := .tuple #[.int .i64 0, .int .i64 70]) (by simp [results, Try.results24, go_sem]) rfl ⟨rfl, hbM⟩
  | true =>
    have mins := fun k hk => grid_min eg k hk
    generalize hA : (holdV G C F T).1 = A
    have eV : holdV G C F T = (A, 0) := by rw [← hA]; simp [holdV, eg]
    have hA0 : holdF F T (G.drop 0) 0 0 = A := by rw [← hA]; simp [holdV, eg]
    rw [eg] at hGr
    have eV2 : (holdV G C F T).2 = 0 := by rw [eV]
    rw [eV2]
    clear hA eV eg eV2
    go_enter Try.func24, Try.ntmps24
    go_wp2_with (go_at_call 15; (with_reducible refine Calls.mono (hGr _ (by exact belN1)) ?_); rintro e w1 ⟨rfl, hb1⟩; have B1 : Has w1 w.heap.size #[.slice va G.length cg, vc] := (Has.new w _ _ rfl).below hb1; have hbM := bel_after belN1 (by simp) hb1; obtain ⟨_, y1, _⟩ := id B1; clear hb1)
    go_loopw [9, 10] (fun tn tk wr => ∃ (k : Nat) (n : Int), k ≤ G.length ∧ tk = .int .i64 (k : Int) ∧ tn = .int .i64 n ∧ Hid (holdF F T (G.drop k) k n = A) ∧ Hid (Has wr w.heap.size #[.slice va G.length cg, vc]) ∧ Hid (Below w.heap.size w wr)) (fun _ tk _ => G.length - (intOf tk).toNat)
    case atStart => exact ⟨0, 0, by omega, rfl, rfl, hA0, B1, hbM⟩
    case round =>
      clear B1 hbM y1 hA0 hGr
      obtain ⟨k, n, hkl, rfl, rfl, hs, B, hb⟩ := hrel
      obtain ⟨_, b1, _⟩ := id B.out
      by_cases hlt : k < G.length
      · obtain ⟨g, o, rfl, hg, P⟩ := kG.resolve_left (by intro e; rw [e] at hlt; simp at hlt)
        have p0 := (hb.out.cell (p := ⟨g, _, none⟩) hg).trans (P k hlt 0 _ rfl)
        have p1 := (hb.out.cell (p := ⟨g, _, none⟩) hg).trans (P k hlt 1 _ rfl)
        have p2 := (hb.out.cell (p := ⟨g, _, none⟩) hg).trans (P k hlt 2 _ rfl)
        have p3 := (hb.out.cell (p := ⟨g, _, none⟩) hg).trans (P k hlt 3 _ rfl)
        have p4 := (hb.out.cell (p := ⟨g, _, none⟩) hg).trans (P k hlt 4 _ rfl)
        simp only [Nat.add_zero] at p0
        have hs' := hs.out
        rw [holdF_step F T G k n hlt] at hs'
        have mn := mins k hlt
        have t1 : (k : Int) < (G.length : Int) := by omega
        have t0 : (0 : Int) ≤ (k : Int) := by omega
        have t2 : k + 1 ≤ G.length := hlt
        clear P kG hs mins
        generalize G[k].name = x0 at *
        generalize G[k].sort = x1 at *
        generalize G[k].min = x2 at *
        generalize G[k].amber = x3 at *
        generalize G[k].lead = x4 at *
        have wm : IntKind.i64.wrap (x2 - 1) = x2 - 1 := wrap64 _ (by omega)
        clear mn
        have hbN : Below w.heap.size w (wr) := hb.out
        have BN : Has (wr) w.heap.size #[.slice (some ⟨g, o, none⟩) G.length cg, vc] := B.out
        have hH1 := fun (W : World) => hasR_any F (k : Int) W hF (by omega)
        have hH2 := fun (W : World) => hasR_any T (k : Int) W hT (by omega)
        cases ef : hasN F (k : Int) with
        | true =>
          rw [ef] at hH1
          cases et : hasN T (k : Int) with
          | true =>
            rw [et] at hH2
            have el : loses F T k = false := by simp [loses, ef, et]
            clear ef et
            have hs2 : Hid (holdF F T (G.drop (k + 1)) (k + 1) (n) = A) := by show _ = _; rw [← hs', el]; simp
            clear hs' el
            go_wp2_with (first | (go_at_call 27; (with_reducible refine Calls.mono (hH1 _) ?_); rintro e w2 ⟨rfl, rfl⟩) | (go_at_call 27; (with_reducible refine Calls.mono (hH2 _) ?_); rintro e w2 ⟨rfl, rfl⟩))
            go_roundw
            case rel => exact ⟨k + 1, _, by omega, by go_num, rfl, hs2, BN, hbN⟩
            case measure => simp [intOf]; omega
          | false =>
            rw [et] at hH2
            have el : loses F T k = true := by simp [loses, ef, et]
            clear ef et
            have hs2 : Hid (holdF F T (G.drop (k + 1)) (k + 1) (if n < x2 - 1 then x2 - 1 else n) = A) := by show _ = _; rw [← hs', el]; simp
            clear hs' el
            go_wp2_with (first | (go_at_call 27; (with_reducible refine Calls.mono (hH1 _) ?_); rintro e w2 ⟨rfl, rfl⟩) | (go_at_call 27; (with_reducible refine Calls.mono (hH2 _) ?_); rintro e w2 ⟨rfl, rfl⟩))
            go_roundw
            case rel => exact ⟨k + 1, _, by omega, by go_num, rfl, hs2, BN, hbN⟩
            case measure => simp [intOf]; omega
        | false =>
          rw [ef] at hH1
          have el : loses F T k = false := by simp [loses, ef]
          clear ef hH2
          have hs2 : Hid (holdF F T (G.drop (k + 1)) (k + 1) (n) = A) := by show _ = _; rw [← hs', el]; simp
          clear hs' el
          go_wp2_with (first | (go_at_call 27; (with_reducible refine Calls.mono (hH1 _) ?_); rintro e w2 ⟨rfl, rfl⟩) | (go_at_call 27; (with_reducible refine Calls.mono (hH2 _) ?_); rintro e w2 ⟨rfl, rfl⟩))
          go_roundw
          case rel => exact ⟨k + 1, _, by omega, by go_num, rfl, hs2, BN, hbN⟩
          case measure => simp [intOf]; omega

      · have t1 : ¬ (k : Int) < (G.length : Int) := by omega
        have hA' : n = A := by rw [← hs.out]; exact (holdF_end F T G k n (by omega)).symm
        subst hA'
        clear hs kG mins
        go_wp2
        exact bodyPost_ret (v := .tuple #[.int .i64 n, .int .i64 0]) (by simp [results, Try.results24, go_sem]) rfl ⟨rfl, hb.out⟩
end Go.Proofs.Ytiaklfjpmmifjaa
