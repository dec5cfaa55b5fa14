import Derived.Test.YtbonmajnkbggcaaSeA
import Derived.Deep.RegionHeld3
namespace Go.Proofs.Ytbonmajnkbggcaa
open Go.RowKit
set_option linter.unusedVariables false


theorem pics_one (G : List Gp) (C : List Cf) (Q : List Nat) (k : Nat) : ∀ u ∈ picsF G C Q k, u.oneCell' = true := by
  intro u hu
  unfold picsF at hu
  obtain ⟨j, _, rfl⟩ := List.mem_map.1 hu
  rfl
set_option maxRecDepth 100000 in
set_option maxHeartbeats 4000000 in
theorem seams (G : List Gp) (C : List Cf) (M N : List Nat) (vg vc v1 v2 : Value) (w : World) (h1 : Fl 5 Gp.cs w vg G) (h2 : Fl 4 Cf.cs w vc C) (h3 : Fl 1 u64 w v1 M) (h4 : Fl 1 u64 w v2 N) (lG : G.length ≤ 2932031007317) (lC : C.length ≤ 4398046511000) (lM : M.length ≤ 1048576) (lN : N.length ≤ 1048576) (hM : ∀ x ∈ M, x < 18446744073709551616) (hN : ∀ x ∈ N, x < 18446744073709551616) :
    Calls Try.prog 7 #[.agg #[vg, vc], v1, v2] w fun e w' => e = .returned (.bool true) ∧ Below w.heap.size w w' := by
  have kG := fun (X : World) (hX : Below w.heap.size w X) => ref7Grid_any G C vg vc X (h1.below hX) (h2.below hX) lG lC
  cases hg : gridB G C with
  | false =>
    rw [hg] at kG
    obtain ⟨va, cg, rfl, -⟩ := h1.any
    obtain ⟨vb, cc, rfl, -⟩ := h2.any
    obtain ⟨a1, c1, rfl, -⟩ := h3.any
    obtain ⟨a2, c2, rfl, -⟩ := h4.any
    have hb0 : Below w.heap.size w (w.alloc (.cells #[.slice va G.length cg, .slice vb C.length cc] 25)) := belN1
    clear h1 h2 h3 h4
    go_enter Try.func7, Try.ntmps7
    go_wp2_with (go_at_call 21; (with_reducible refine Calls.mono (kG _ (by exact hb0)) ?_); rintro e y1 ⟨rfl, hy1⟩; have hb1 := bel_after hb0 hb0.size hy1; clear hy1)
    go_ret
    exact ⟨rfl, hb1⟩
  | true =>
    rw [hg] at kG
    have l64 := grid_len hg
    have S1 := run_safeF hg M
    have S2 := run_safeF hg N
    have kA := fun (X : World) (hX : Below w.heap.size w X) => run_ok G C M vg vc v1 X (h1.below hX) (h2.below hX) (h3.below hX) lG lC (by omega) hM hg
    have kB := fun (X : World) (hX : Below w.heap.size w X) => run_ok G C N vg vc v2 X (h1.below hX) (h2.below hX) (h4.below hX) lG lC (by omega) hN hg
    have kC := fun (j : Nat) (hj : j < M.length + 1 + (N.length + 1)) (s : ByteArray) (hs : s.size = G.length) (hl : ∀ (k : Nat) (h : k < s.size), (s[k]'h).toNat = (letN (joinF (M.length + 1) (fun j k => (runF G C M j).a k) (fun j k => (runF G C N j).a k) j k)).toNat) (X : World) (hX : Below w.heap.size w X) => headsClear_any G C vg vc s _ X (h1.below hX) (h2.below hX) l64 lC hs hl (fun k hk => join_four S1.four S2.four j k hj hk) S1.rng (join_clr S1.clr S2.clr j hj)
    have kI := fun (X : World) (hX : Below w.heap.size w X) (v : Value) (hF : Film X v G.length (M.length + 1 + (N.length + 1)) (joinF (M.length + 1) (fun j k => (runF G C M j).a k) (fun j k => (runF G C N j).a k))) => headsInter_any G C vg vc v _ _ X (h1.below hX) (h2.below hX) l64 lC hF (by omega) (join_four S1.four S2.four) S1.rng (join_itr S1.itr S2.itr)
    obtain ⟨va, cg, rfl, -⟩ := h1.any
    obtain ⟨vb, cc, rfl, -⟩ := h2.any
    obtain ⟨a1, c1, rfl, -⟩ := h3.any
    obtain ⟨a2, c2, rfl, -⟩ := h4.any
    obtain ⟨i9, hi, hi0, hi1, hi2⟩ := info_parts info9s
    have B0 : Has (w.alloc (.cells #[.slice va G.length cg, .slice vb C.length cc] 25)) w.heap.size #[.slice va G.length cg, .slice vb C.length cc] := Has.new _ _ _ rfl
    have hb0 : Below w.heap.size w (w.alloc (.cells #[.slice va G.length cg, .slice vb C.length cc] 25)) := belN1
    have w1 : IntKind.i64.wrap ((M.length : Int) + 1) = (M.length : Int) + 1 := wrap64 _ (by omega)
    have w2 : IntKind.i64.wrap ((N.length : Int) + 1) = (N.length : Int) + 1 := wrap64 _ (by omega)
    clear h1 h2 h3 h4 hM hN hg S1 S2
    go_enter Try.func7, Try.ntmps7
    go_upto_region 3 with (go_at_call 21; (with_reducible refine Calls.mono (kG _ (by exact hb0)) ?_); rintro e y1 ⟨rfl, hy1⟩; have hb1 := bel_after hb0 hb0.size hy1; have B1 := B0.below hy1; clear hy1)
    clear B0 hb0 kG
    obtain ⟨_, o1, _⟩ := id B1
    go_upto_region 4 with (go_at_call 22; (with_reducible refine Calls.mono (kA _ hb1) ?_); rintro e y2 ⟨⟨g1, d1, rfl, ow1⟩, hy2⟩; have hb2 := bel_after hb1 hb1.size hy2; have B2 := B1.below hy2; clear hy2)
    clear o1 B1 kA
    obtain ⟨_, o2, _⟩ := id B2
    go_upto_region 5 with (go_at_call 22; (with_reducible refine Calls.mono (kB _ hb2) ?_); rintro e y3 ⟨⟨g2, d2, rfl, ow2⟩, hy3⟩; have hb3 := bel_after hb2 hb2.size hy3; have B3 := B2.below hy3; have ow3 := own_bel ow1 hy3; clear hy3)
    clear o2 B2 kB ow1
    go_upto_region 7 with fail
    have zz := hb3.size
    have z1 := B3.1
    go_upto_region 8 with (first
      | (at_builtin; (refine wpList_append_mine _ rfl _ _ 51 rfl (w.heap.size + 1) 9 i9 _ 1 16 Try.underlying51 hi hi0 hi1 hi2 rfl (by decide) (.slice none 0 0) 0 [] rfl (World.ownsRow_nil _ _ _ _) ⟨g1, 0, none⟩ (M.length + 1) d1 (picsF G C M M.length) rfl (by rw [picsF_len, Nat.mul_one]) (ow3.cells rfl) (pics_one _ _ _ _) (by omega) (by unfold maxLen; omega) (by omega) (by omega) ?_); intro g3 d3 y4 o3 gr3 at3 _ _; have hb4 := bel_after hb3 hb3.size (grown_none gr3); have B4 := B3.below (grown_none gr3); have ow4 := own_bel ow2 (grown_none gr3); have z4 := (grown_none gr3).size; clear gr3 at3)
      | (at_builtin; (refine wpList_append_mine _ rfl _ _ 51 rfl (w.heap.size + 1) 9 i9 _ 1 16 Try.underlying51 hi hi0 hi1 hi2 rfl (by decide) (.slice (some ⟨g3, 0, none⟩) (0 + (M.length + 1)) d3) (0 + (M.length + 1)) ([] ++ picsF G C M M.length) (by first | rfl | (simp [Act.eval]; done)) o3 ⟨g2, 0, none⟩ (N.length + 1) d2 (picsF G C N N.length) (by first | rfl | (simp [Act.eval]; done)) (by rw [picsF_len, Nat.mul_one]) (ow4.cells rfl) (pics_one _ _ _ _) (by omega) (by unfold maxLen; omega) (by omega) (by omega) ?_); intro g4 d4 y5 o5 gr5 at5 _ _))
    have l3 := own_lt o3 g3 rfl
    have O5 : Only (fun q => q = g3) y4 y5 := ⟨gr5.os, gr5.tape, gr5.output, gr5.size, fun k hk hn => gr5.block k hk (fun e => hn (Option.some.inj e))⟩
    have hb5 := bel_only hb4 O5 (Nat.le_refl _) (fun q hq h => by omega)
    have B5 := B4.only O5 (by omega)
    rw [Nat.zero_add, List.nil_append] at o5
    have Fm := film_join (own_base o5 (Nat.zero_le _))
    obtain ⟨m, em⟩ : ∃ m, Hid (m = M.length + 1 + (N.length + 1)) := ⟨_, rfl⟩
    have kI' := fun (X : World) (hX : Below w.heap.size w X) => kI X hX (.slice (some ⟨g4, 0, none⟩) (M.length + 1 + (N.length + 1)) d4)
    clear ow2 ow3 ow4 o3 o5 O5 gr5 at5 B3 B4 hb3 hb4 w1 w2 kI
    have mi : (m : Int) = (M.length : Int) + 1 + ((N.length : Int) + 1) := by rw [em.out]; omega
    rw [← em.out] at Fm kC kI'
    obtain ⟨q, cp, eq0, hq, PF⟩ := id Fm
    have eL : M.length + 1 + (N.length + 1) = m := em.out.symm
    simp only [eL]
    obtain ⟨rfl, rfl⟩ : g4 = q ∧ d4 = cp := by
      injection eq0 with e1 _ e2
      injection e1 with e1
      injection e1 with e1
      exact ⟨e1, e2⟩
    clear eq0 mi eL
    have hm : m ≤ 2097154 := by rw [em.out]; omega
    go_wp2_with fail
    go_loopw [12] (fun t wr => ∃ j : Nat, j ≤ m ∧ t = .int .i64 (j : Int) ∧ Hid (Below y5.heap.size y5 wr)) (fun t _ => m - (intOf t).toNat)
    case atStart => exact ⟨0, by omega, rfl, Below.refl _ _⟩
    case round =>
      obtain ⟨j, hjm, rfl, bX'⟩ := hrel
      have bX := bX'.out
      clear bX'
      have B := B5.below bX
      have bW := bel_after hb5 hb5.size bX
      by_cases jlt : j < m
      · obtain ⟨s, ps0, sz, hs⟩ := PF j jlt
        have ps := (bX.drew.cell (p := ⟨g4, j, none⟩) hq).trans ps0
        have cC := kC j jlt s sz hs wr.drew bW.drew
        have u1 : (j : Int) < (m : Int) := by omega
        have u0 : (0 : Int) ≤ (j : Int) := by omega
        clear hs sz kC kI' Fm PF
        go_upto_region 11 with fail
        refine wp_region_noPanic ?_
        refine wp_region_held_drew (S := fun w' => (w'.cell? ⟨w.heap.size, 0, none⟩ = some (.slice va G.length cg) ∧ w'.cell? ⟨w.heap.size, 1, none⟩ = some (.slice vb C.length cc)) ∧ w'.cell? ⟨g4, j, none⟩ = some (.string s)) (by kernel_rfl) ?_ (fun hHeld => ?_)
        · (try dsimp only)
          exact ⟨⟨B.drew.2.1 0, B.drew.2.1 1⟩, ps⟩
        refine wpAnyH_take (i := 0) (oi := { dst := some 60, op := Op.load 25 (Operand.tmp 3), type := 25, pos := "headssafe.go:148", after := #[], guard := none }) (v := ?_) rfl (by kernel_rfl) (by kernel_rfl) (by kernel_rfl) (fun _ _ _ h => h) (Or.inl ⟨by rfl, ?_⟩) (by assumption) ?_
        rotate_left
        · intro wz hSz; (try dsimp only at hSz); go_simp; all_goals (with_reducible rfl)
        (try simp only [Act.put, List.setIfInBounds_toArray, List.set_cons_zero, List.set_cons_succ])
        refine wpAnyH_take (i := 1) (oi := { dst := some 61, op := Op.move (Operand.tmp 11), type := 51, pos := "headssafe.go:148", after := #[], guard := none }) (v := ?_) rfl (by kernel_rfl) (by kernel_rfl) (by kernel_rfl) (fun _ _ _ h => h) (Or.inl ⟨by rfl, ?_⟩) (by assumption) ?_
        rotate_left
        · intro wz hSz; (try dsimp only at hSz); go_simp; all_goals (with_reducible rfl)
        (try simp only [Act.put, List.setIfInBounds_toArray, List.set_cons_zero, List.set_cons_succ])
        refine wpAnyH_take (i := 2) (oi := { dst := some 62, op := Op.move (Operand.tmp 12), type := 3, pos := "headssafe.go:148", after := #[], guard := none }) (v := ?_) rfl (by kernel_rfl) (by kernel_rfl) (by kernel_rfl) (fun _ _ _ h => h) (Or.inl ⟨by rfl, ?_⟩) (by assumption) ?_
        rotate_left
        · intro wz hSz; (try dsimp only at hSz); go_simp; all_goals (with_reducible rfl)
        (try simp only [Act.put, List.setIfInBounds_toArray, List.set_cons_zero, List.set_cons_succ])
        refine wpAnyH_take (i := 3) (oi := { dst := some 63, op := Op.indexAddr 51 (Operand.tmp 61) (Operand.tmp 62), type := 0, pos := "headssafe.go:148", after := #[{ on := 1, ground := Ground.data }, { on := 2, ground := Ground.data }], guard := none }) (v := ?_) rfl (by kernel_rfl) (by kernel_rfl) (by kernel_rfl) (fun _ _ _ h => h) (Or.inl ⟨by rfl, ?_⟩) (by assumption) ?_
        rotate_left
        · intro wz hSz; (try dsimp only at hSz); go_simp; all_goals (with_reducible rfl)
        (try simp only [Act.put, List.setIfInBounds_toArray, List.set_cons_zero, List.set_cons_succ])
        refine wpAnyH_take (i := 4) (oi := { dst := some 64, op := Op.load 9 (Operand.tmp 63), type := 9, pos := "headssafe.go:148", after := #[{ on := 3, ground := Ground.data }], guard := none }) (v := ?_) rfl (by kernel_rfl) (by kernel_rfl) (by kernel_rfl) (fun _ _ _ h => h) (Or.inl ⟨by rfl, ?_⟩) (by assumption) ?_
        rotate_left
        · intro wz hSz; (try dsimp only at hSz); go_simp; all_goals (with_reducible rfl)
        (try simp only [Act.put, List.setIfInBounds_toArray, List.set_cons_zero, List.set_cons_succ])
        refine wpAnyH_ready (rs := [5]) (by kernel_rfl) (by simp) ?_
        refine AllReadyH.cons (o := { dst := some 65, op := Op.call { callee := Callee.value (Operand.func 26), args := #[Operand.tmp 60, Operand.tmp 64], argTypes := #[25, 9] }, type := 4, pos := "headssafe.go:148", after := #[{ on := 0, ground := Ground.data }, { on := 4, ground := Ground.data }], guard := none }) rfl (fun K hK => ?_) AllReadyH.nil
        go_simp
        (go_at_call 26; (with_reducible refine Calls.mono cC ?_); rintro e w2 ⟨rfl, hb2⟩; have BN := B.drew.below hb2; have bN := bel_after bX.drew bX.drew.size hb2; have psN := (bN.cell (p := ⟨g4, j, none⟩) hq).trans ps0; clear hb2)
        go_wp2_with fail
        refine hK.out _ _ ?_ (fun hHeld => ?_)
        · (try dsimp only)
          exact ⟨⟨BN.2.1 0, BN.2.1 1⟩, psN⟩
        clear hK K
        (try simp only [Act.put, List.setIfInBounds_toArray, List.set_cons_zero, List.set_cons_succ])
        refine wpAnyH_take (i := 6) (oi := { dst := some 66, op := Op.unOp UnOp.not 4 (Operand.tmp 65), type := 4, pos := "headssafe.go:148", after := #[{ on := 5, ground := Ground.data }], guard := none }) (v := ?_) rfl (by kernel_rfl) (by kernel_rfl) (by kernel_rfl) (fun _ _ _ h => h) (Or.inl ⟨by rfl, ?_⟩) (by assumption) ?_
        rotate_left
        · intro wz hSz; (try dsimp only at hSz); go_simp; all_goals (with_reducible rfl)
        (try simp only [Act.put, List.setIfInBounds_toArray, List.set_cons_zero, List.set_cons_succ])
        refine wpAnyH_done (by kernel_rfl) ?_ _
        refine NoPanic.normal ?_
        go_wp2_with fail
        go_roundw
        case rel => exact ⟨j + 1, by omega, by go_num, bN⟩
        case measure => simp [intOf]; omega
      · have u1 : ¬ (j : Int) < (m : Int) := by omega
        have cI := kI' wr bW (Fm.below bX)
        obtain ⟨_, o6, _⟩ := id B
        clear kC kI' Fm PF
        go_wp2_with (go_at_call 27; (with_reducible refine Calls.mono cI ?_); rintro e y6 ⟨rfl, hy6⟩; have hb6 := bel_after bW bW.size hy6; clear hy6)
        go_ret
        exact ⟨rfl, hb6⟩
end Go.Proofs.Ytbonmajnkbggcaa
