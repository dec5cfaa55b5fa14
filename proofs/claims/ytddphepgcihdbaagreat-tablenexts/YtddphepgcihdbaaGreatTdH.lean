import Derived.Test.YtddphepgcihdbaaGreatTdG
namespace Go.Proofs.YtddphepgcihdbaaGreat
open Go.RowKit
set_option linter.unusedVariables false
set_option linter.unusedSimpArgs false

set_option maxRecDepth 100000 in
set_option maxHeartbeats 4000000 in
theorem force_any (m : Int) (m0 : 0 ≤ m) (m1 : m ≤ 210379679) (t : Tt) (aD aS aX aH : Option Addr) (cD cS cX cH : Nat) (w : World) (hR : TR w t (.slice aD t.D.length cD) (.slice aS t.S.length cS) (.slice aX t.X.length cX) (.slice aH t.H.length cH)) (he : t.err = 0) : Calls Tryz.prog 15 #[.agg #[.string t.nm, .slice aD t.D.length cD, .int .i64 t.w0, .int .i64 t.w1, .int .i64 t.w2, .int .i64 t.w3, .int .i64 t.w4, .int .i64 t.w5, .int .i64 t.w6, .slice aS t.S.length cS, .slice aX t.X.length cX, .slice aH t.H.length cH], .int .i64 m] w fun e w' => e = .returned (.int .i64 (slF t m)) ∧ Below w.heap.size w w' := by
  obtain ⟨_, _, e3, _, e5, _, e7, _⟩ := err_zero he
  have hpb := pl_bounds e5 m
  have hlb := lo_bounds m (plG m t.H)
  obtain ⟨i1, hi1, hk1, hr1⟩ := row_ix e7 (loF m (plG m t.H) / 1440)
  obtain ⟨i2, hi2, hk2, hr2⟩ := row_ix e7 (loF m (plG m t.H) / 1440 - 1)
  have hp2 := row_pos e7 e3 (loF m (plG m t.H) / 1440 - 1)
  have f1 : Hid (∀ x, lrG (loF m (plG m t.H) % 1440) (rwF t (loF m (plG m t.H) / 1440)) = some x → slF t m = x.s) := by intro x h; simp only [slF, h]
  have f2 : Hid (lrG (loF m (plG m t.H) % 1440) (rwF t (loF m (plG m t.H) / 1440)) = none → loF m (plG m t.H) / 1440 = 0 → slF t m = -1) := by intro h h2; simp only [slF, h, if_pos h2]
  have f3 : Hid (lrG (loF m (plG m t.H) % 1440) (rwF t (loF m (plG m t.H) / 1440)) = none → loF m (plG m t.H) / 1440 ≠ 0 → ∀ x, (rwF t (loF m (plG m t.H) / 1440 - 1)).getLast? = some x → slF t m = x.s) := by intro h h2 x h3; simp only [slF, h, if_neg h2, h3]
  rw [hr1] at f1 f2 f3
  rw [hr2] at f3 hp2
  have g1 := hR.r _ (List.getElem_mem hi1)
  have g2 := hR.r _ (List.getElem_mem hi2)
  have b1 := hR.rl _ (List.getElem_mem hi1)
  have b2 := hR.rl _ (List.getElem_mem hi2)
  have c28 := refLocal_any m m0 m1 t aD aS aX aH cD cS cX cH _ (hR.below (bel1 (o := .cells #[.string t.nm, .slice aD t.D.length cD, .int .i64 t.w0, .int .i64 t.w1, .int .i64 t.w2, .int .i64 t.w3, .int .i64 t.w4, .int .i64 t.w5, .int .i64 t.w6, .slice aS t.S.length cS, .slice aX t.X.length cX, .slice aH t.H.length cH] 28))) hpb.1 hpb.2
  have c30 := fun W (hb : Below w.heap.size w W) => refKind_any (loF m (plG m t.H) / 1440) (by omega) (by omega) t aD aS aX aH cD cS cX cH W (hR.below hb)
  have c30b := fun W (hb : Below w.heap.size w W) (hd : ¬ loF m (plG m t.H) / 1440 = 0) => refKind_any (loF m (plG m t.H) / 1440 - 1) (by omega) (by omega) t aD aS aX aH cD cS cX cH W (hR.below hb)
  rw [hk1] at c30
  rw [hk2] at c30b
  have hcc : 0 ≤ loF m (plG m t.H) % 1440 := by omega
  have hpos : 0 < t.D.length := by omega
  obtain ⟨gd, od, rfl, hgd, PD⟩ := (hR.d.ln).resolve_left (by intro e; rw [e] at hpos; simp at hpos)
  have pd1 := PD i1 hi1 1 _ rfl
  have pd2 := PD i2 hi2 1 _ rfl
  have hdl := hR.dl
  clear hR hr1 hr2 hk1 hk2 PD
  generalize slF t m = R at *
  obtain ⟨a1, c1, v1, k1⟩ := g1.any
  obtain ⟨a2, c2, v2, k2⟩ := g2.any
  rw [v1] at pd1
  rw [v2] at pd2
  clear v1 v2 g1 g2 e3 e5 e7 he hpb
  have u1 : (i1 : Int) < (t.D.length : Int) := by omega
  have u2 : (i2 : Int) < (t.D.length : Int) := by omega
  have u3 : (0 : Int) ≤ (i1 : Int) := by omega
  have u4 : (0 : Int) ≤ (i2 : Int) := by omega
  generalize t.D[i1].rows = r1 at *
  generalize t.D[i2].rows = r2 at *
  generalize plG m t.H = pl at *
  generalize loF m pl = l at *
  have hl0 : 0 ≤ l := hlb.1
  have hl1 : l ≤ 210379679 := hlb.2
  clear hlb hi1 hi2
  go_enter Tryz.func15, Tryz.ntmps15
  go_wp2_with (go_at_call 29; (with_reducible refine c28.mono ?_); rintro e w1 ⟨rfl, hb0⟩; have B0 := ((Has.new w #[.string t.nm, .slice (some ⟨gd, od, none⟩) t.D.length cD, .int .i64 t.w0, .int .i64 t.w1, .int .i64 t.w2, .int .i64 t.w3, .int .i64 t.w4, .int .i64 t.w5, .int .i64 t.w6, .slice aS t.S.length cS, .slice aX t.X.length cX, .slice aH t.H.length cH] 28 rfl).below hb0); have hbb0 := belT bel1 hb0; obtain ⟨_, q0, _⟩ := id B0)
  clear q0 hb0 c28
  replace pd1 := (hbb0.cell (p := ⟨gd, _, none⟩) hgd).trans pd1
  replace pd2 := (hbb0.cell (p := ⟨gd, _, none⟩) hgd).trans pd2
  have hgl : gd < w1.heap.size := Nat.lt_of_lt_of_le hgd hbb0.size
  have hly := B0.1
  refine wp_region_noPanic ?_
  refine wp_region_held_drew (S := fun w' => Below w1.heap.size w1 w' ∧ (∀ i, w'.cell? ⟨w.heap.size, i, none⟩ = (#[.string t.nm, .slice (some ⟨gd, od, none⟩) t.D.length cD, .int .i64 t.w0, .int .i64 t.w1, .int .i64 t.w2, .int .i64 t.w3, .int .i64 t.w4, .int .i64 t.w5, .int .i64 t.w6, .slice aS t.S.length cS, .slice aX t.X.length cX, .slice aH t.H.length cH] : Array Value)[i]?) ∧ w'.cell? ⟨gd, od + i1 * 2 + 1, none⟩ = some (.slice a1 r1.length c1)) (by kernel_rfl) ?_ (fun hHeld => ?_)
  · (try dsimp only)
    exact ⟨(Below.refl _ _).drew, B0.2.1, pd1⟩
  refine wpAnyH_take (i := 0) (oi := { dst := some 14, op := Op.fieldAddr 28 (Operand.tmp 2) 1, type := 0, pos := "ref.go:286", after := #[], guard := none }) (v := ?_) rfl (by kernel_rfl) (by kernel_rfl) (by kernel_rfl) (fun _ _ _ h => h) (Or.inl ⟨by rfl, ?_⟩) (by assumption) ?_
  rotate_left
  · intro wz hSz; (try dsimp only at hSz); go_simp; all_goals (with_reducible rfl)
  (try simp only [Act.put, List.setIfInBounds_toArray, List.set_cons_zero, List.set_cons_succ])
  refine wpAnyH_take (i := 1) (oi := { dst := some 15, op := Op.load 22 (Operand.tmp 14), type := 22, pos := "ref.go:286", after := #[{ on := 0, ground := Ground.data }], guard := none }) (v := ?_) rfl (by kernel_rfl) (by kernel_rfl) (by kernel_rfl) (fun _ _ _ h => h) (Or.inl ⟨by rfl, ?_⟩) (by assumption) ?_
  rotate_left
  · intro wz hSz; (try dsimp only at hSz); go_simp; all_goals (with_reducible rfl)
  (try simp only [Act.put, List.setIfInBounds_toArray, List.set_cons_zero, List.set_cons_succ])
  refine wpAnyH_take (i := 2) (oi := { dst := some 16, op := Op.load 28 (Operand.tmp 2), type := 28, pos := "ref.go:286", after := #[], guard := none }) (v := ?_) rfl (by kernel_rfl) (by kernel_rfl) (by kernel_rfl) (fun _ _ _ h => h) (Or.inl ⟨by rfl, ?_⟩) (by assumption) ?_
  rotate_left
  · intro wz hSz; (try dsimp only at hSz); go_simp; all_goals (with_reducible rfl)
  (try simp only [Act.put, List.setIfInBounds_toArray, List.set_cons_zero, List.set_cons_succ])
  refine wpAnyH_take (i := 3) (oi := { dst := some 17, op := Op.move (Operand.tmp 6), type := 3, pos := "ref.go:286", after := #[], guard := none }) (v := ?_) rfl (by kernel_rfl) (by kernel_rfl) (by kernel_rfl) (fun _ _ _ h => h) (Or.inl ⟨by rfl, ?_⟩) (by assumption) ?_
  rotate_left
  · intro wz hSz; (try dsimp only at hSz); go_simp; all_goals (with_reducible rfl)
  (try simp only [Act.put, List.setIfInBounds_toArray, List.set_cons_zero, List.set_cons_succ])
  refine wpAnyH_ready (rs := [4]) (by kernel_rfl) (by simp) ?_
  refine AllReadyH.cons (o := { dst := some 18, op := Op.call { callee := Callee.value (Operand.func 30), args := #[Operand.tmp 16, Operand.tmp 17], argTypes := #[28, 3] }, type := 3, pos := "ref.go:286", after := #[{ on := 2, ground := Ground.data }, { on := 3, ground := Ground.data }], guard := none }) rfl (fun K hK => ?_) AllReadyH.nil
  go_simp
  go_at_call 30
  (with_reducible refine (c30 _ (belT hbb0 hHeld.1)).mono ?_)
  rintro e w2 ⟨rfl, hbw2⟩
  go_wp2_with fail
  refine hK.out _ _ ?_ (fun hHeld => ?_)
  · (try dsimp only)
    obtain ⟨q0, q1, q2⟩ := hHeld; exact ⟨belT q0 hbw2, fun i => (hbw2.cell (p := ⟨w.heap.size, _, none⟩) (Nat.lt_of_lt_of_le hly q0.size)).trans (q1 i), (hbw2.cell (p := ⟨gd, _, none⟩) (Nat.lt_of_lt_of_le hgl q0.size)).trans q2⟩
  clear hK K
  (try simp only [Act.put, List.setIfInBounds_toArray, List.set_cons_zero, List.set_cons_succ])
  refine wpAnyH_take (i := 5) (oi := { dst := some 19, op := Op.indexAddr 22 (Operand.tmp 15) (Operand.tmp 18), type := 0, pos := "ref.go:286", after := #[{ on := 1, ground := Ground.data }, { on := 4, ground := Ground.data }], guard := none }) (v := ?_) rfl (by kernel_rfl) (by kernel_rfl) (by kernel_rfl) (fun _ _ _ h => h) (Or.inl ⟨by rfl, ?_⟩) (by assumption) ?_
  rotate_left
  · intro wz hSz; (try dsimp only at hSz); go_simp; all_goals (with_reducible rfl)
  (try simp only [Act.put, List.setIfInBounds_toArray, List.set_cons_zero, List.set_cons_succ])
  refine wpAnyH_take (i := 6) (oi := { dst := some 20, op := Op.fieldAddr 49 (Operand.tmp 19) 1, type := 0, pos := "ref.go:286", after := #[{ on := 5, ground := Ground.data }], guard := none }) (v := ?_) rfl (by kernel_rfl) (by kernel_rfl) (by kernel_rfl) (fun _ _ _ h => h) (Or.inl ⟨by rfl, ?_⟩) (by assumption) ?_
  rotate_left
  · intro wz hSz; (try dsimp only at hSz); go_simp; all_goals (with_reducible rfl)
  (try simp only [Act.put, List.setIfInBounds_toArray, List.set_cons_zero, List.set_cons_succ])
  refine wpAnyH_take (i := 7) (oi := { dst := some 21, op := Op.load 47 (Operand.tmp 20), type := 47, pos := "ref.go:286", after := #[{ on := 6, ground := Ground.data }], guard := none }) (v := ?_) rfl (by kernel_rfl) (by kernel_rfl) (by kernel_rfl) (fun _ _ _ h => h) (Or.inl ⟨by rfl, ?_⟩) (by assumption) ?_
  rotate_left
  · intro wz hSz; (try dsimp only at hSz); go_simp; all_goals (with_reducible rfl)
  (try simp only [Act.put, List.setIfInBounds_toArray, List.set_cons_zero, List.set_cons_succ])
  refine wpAnyH_take (i := 8) (oi := { dst := some 7, op := Op.assign (Operand.tmp 21), type := 47, pos := "ref.go:286", after := #[{ on := 7, ground := Ground.data }, { on := 4, ground := Ground.chain }, { on := 0, ground := Ground.phase }, { on := 1, ground := Ground.phase }, { on := 2, ground := Ground.phase }, { on := 3, ground := Ground.phase }, { on := 4, ground := Ground.phase }, { on := 5, ground := Ground.phase }, { on := 6, ground := Ground.phase }, { on := 7, ground := Ground.phase }], guard := none }) (v := ?_) rfl (by kernel_rfl) (by kernel_rfl) (by kernel_rfl) (fun _ _ _ h => h) (Or.inl ⟨by rfl, ?_⟩) (by assumption) ?_
  rotate_left
  · intro wz hSz; (try dsimp only at hSz); go_simp; all_goals (with_reducible rfl)
  (try simp only [Act.put, List.setIfInBounds_toArray, List.set_cons_zero, List.set_cons_succ])
  refine wpAnyH_done (by kernel_rfl) ?_ _
  refine NoPanic.normal ?_
  go_wp2_with fail
  have hbx : Below w.heap.size w w2 := belT hbb0 hHeld.1
  have hB1 : Has w2 w.heap.size #[.string t.nm, .slice (some ⟨gd, od, none⟩) t.D.length cD, .int .i64 t.w0, .int .i64 t.w1, .int .i64 t.w2, .int .i64 t.w3, .int .i64 t.w4, .int .i64 t.w5, .int .i64 t.w6, .slice aS t.S.length cS, .slice aX t.X.length cX, .slice aH t.H.length cH] := B0.below hHeld.1
  replace pd2 := (hHeld.1.cell (p := ⟨gd, _, none⟩) hgl).trans pd2
  replace hgl : gd < w2.heap.size := Nat.lt_of_lt_of_le hgl hHeld.1.size
  replace hly := hB1.1
  clear hHeld B0 pd1 hbb0
  generalize w2 = W1 at *
  generalize hcce : l % 1440 = cc at *
  go_loopg [8] r1.length (fun gk s8 wr => ∃ (z : Int), Hid (z = (gk : Int) - 1) ∧ gk ≤ r1.length ∧ s8 = .int .i64 z ∧ Hid (lrG cc (r1.take gk) = lrG cc r1) ∧ W1 = wr)
  case atStart => exact ⟨_, rfl, Nat.le_refl _, rfl, by show _ = _; rw [List.take_length], rfl⟩
  case round =>
    obtain ⟨z, hz, hk, rfl, hA, rfl⟩ := hrel
    cases gk with
    | succ k =>
      have hlt : k < r1.length := by omega
      obtain rfl : z = (k : Int) := by have := hz.out; omega
      have hE : Hid (lrG cc r1 = if r1[k].m ≤ cc then some r1[k] else lrG cc (r1.take k)) := by show _ = _; rw [← hA.out, lr_step cc r1 k hlt]
      clear hA hz
      obtain ⟨g, o, rfl, hg, P⟩ := k1.resolve_left (by intro e; rw [e] at hlt; simp at hlt)
      have p0 := (hbx.cell (p := ⟨g, _, none⟩) hg).trans (P k hlt 0 _ rfl)
      have p1 := (hbx.cell (p := ⟨g, _, none⟩) hg).trans (P k hlt 1 _ rfl)
      simp only [Nat.add_zero] at p0
      have t1 : (k : Int) < (r1.length : Int) := by omega
      have t0 : (0 : Int) ≤ (k : Int) := by omega
      clear P k1
      by_cases hc : r1[k].m ≤ cc
      · have hE2 : Hid (R = r1[k].s) := f1.out _ (by rw [hE.out, if_pos hc])
        clear hE
        generalize r1[k].m = y0 at *
        generalize r1[k].s = y1 at *
        go_wp2
        go_ret
        exact ⟨ret_int hE2.out.symm, hbx⟩
      · have hE2 : Hid (lrG cc (r1.take k) = lrG cc r1) := by show _ = _; rw [hE.out, if_neg hc]
        clear hE
        generalize r1[k].m = y0 at *
        generalize r1[k].s = y1 at *
        go_wp2
        go_roundg k
        case measure => go_light; omega
        case rel => exact ⟨_, rfl, by omega, rfl, hE2, rfl⟩
    | zero =>
      have hz' : ¬ 0 ≤ z := by have := hz.out; omega
      have hN : Hid (lrG cc r1 = none) := by show _ = _; rw [← hA.out]; rfl
      clear hA
      by_cases hd : l / 1440 = 0
      · have hd' : (l / 1440 == 0) = true := beq_iff_eq.2 hd
        have hE2 : Hid (R = -1) := f2.out hN.out hd
        clear hd
        go_wp2
        go_ret
        exact ⟨ret_int hE2.out.symm, hbx⟩
      · have hd' : (l / 1440 == 0) = false := beq_eq_false_iff_ne.2 hd
        have c30c := fun W hb => c30b W hb hd
        obtain ⟨j, hjl, hj⟩ : ∃ (j : Nat) (_ : j < r2.length), Hid (r2.length = j + 1) := ⟨r2.length - 1, by omega, by show _ = _; omega⟩
        have hlast : r2.getLast? = some r2[j] := by
          have e1 : r2.length - 1 = j := by have := hj.out; omega
          rw [List.getLast?_eq_getElem?, e1, List.getElem?_eq_getElem hjl]
        have hE2 : Hid (R = r2[j].s) := f3.out hN.out hd _ hlast
        obtain ⟨g, o, rfl, hg, P⟩ := k2.resolve_left (by intro e; rw [e] at hp2; simp at hp2)
        have p1 := (hbx.cell (p := ⟨g, _, none⟩) hg).trans (P j hjl 1 _ rfl)
        have t1 : (j : Int) < (r2.length : Int) := by have := hj.out; omega
        have t0 : (0 : Int) ≤ (j : Int) := by omega
        have t2 : (r2.length : Int) - 1 = (j : Int) := by have := hj.out; omega
        have hlg : g < W1.heap.size := Nat.lt_of_lt_of_le hg hbx.size
        have w8 : IntKind.i64.wrap (l / 1440 - 1) = l / 1440 - 1 := wrap64 _ (by omega)
        clear hlast P k2 c30b hd hp2 k1
        generalize r2[j].s = y1 at *
        go_wp2_with fail
        refine wp_region_noPanic ?_
        refine wp_region_held_drew (S := fun w' => Below W1.heap.size W1 w' ∧ (∀ i, w'.cell? ⟨w.heap.size, i, none⟩ = (#[.string t.nm, .slice (some ⟨gd, od, none⟩) t.D.length cD, .int .i64 t.w0, .int .i64 t.w1, .int .i64 t.w2, .int .i64 t.w3, .int .i64 t.w4, .int .i64 t.w5, .int .i64 t.w6, .slice aS t.S.length cS, .slice aX t.X.length cX, .slice aH t.H.length cH] : Array Value)[i]?) ∧ w'.cell? ⟨gd, od + i2 * 2 + 1, none⟩ = some (.slice (some ⟨g, o, none⟩) r2.length c2)) (by kernel_rfl) ?_ (fun hHeld => ?_)
        · (try dsimp only)
          exact ⟨(Below.refl _ _).drew, hB1.2.1, pd2⟩
        refine wpAnyH_take (i := 0) (oi := { dst := some 44, op := Op.fieldAddr 28 (Operand.tmp 2) 1, type := 0, pos := "ref.go:295", after := #[], guard := none }) (v := ?_) rfl (by kernel_rfl) (by kernel_rfl) (by kernel_rfl) (fun _ _ _ h => h) (Or.inl ⟨by rfl, ?_⟩) (by assumption) ?_
        rotate_left
        · intro wz hSz; (try dsimp only at hSz); go_simp; all_goals (with_reducible rfl)
        (try simp only [Act.put, List.setIfInBounds_toArray, List.set_cons_zero, List.set_cons_succ])
        refine wpAnyH_take (i := 1) (oi := { dst := some 45, op := Op.load 22 (Operand.tmp 44), type := 22, pos := "ref.go:295", after := #[{ on := 0, ground := Ground.data }], guard := none }) (v := ?_) rfl (by kernel_rfl) (by kernel_rfl) (by kernel_rfl) (fun _ _ _ h => h) (Or.inl ⟨by rfl, ?_⟩) (by assumption) ?_
        rotate_left
        · intro wz hSz; (try dsimp only at hSz); go_simp; all_goals (with_reducible rfl)
        (try simp only [Act.put, List.setIfInBounds_toArray, List.set_cons_zero, List.set_cons_succ])
        refine wpAnyH_take (i := 2) (oi := { dst := some 46, op := Op.load 28 (Operand.tmp 2), type := 28, pos := "ref.go:295", after := #[], guard := none }) (v := ?_) rfl (by kernel_rfl) (by kernel_rfl) (by kernel_rfl) (fun _ _ _ h => h) (Or.inl ⟨by rfl, ?_⟩) (by assumption) ?_
        rotate_left
        · intro wz hSz; (try dsimp only at hSz); go_simp; all_goals (with_reducible rfl)
        (try simp only [Act.put, List.setIfInBounds_toArray, List.set_cons_zero, List.set_cons_succ])
        refine wpAnyH_take (i := 3) (oi := { dst := some 47, op := Op.move (Operand.tmp 6), type := 3, pos := "ref.go:295", after := #[], guard := none }) (v := ?_) rfl (by kernel_rfl) (by kernel_rfl) (by kernel_rfl) (fun _ _ _ h => h) (Or.inl ⟨by rfl, ?_⟩) (by assumption) ?_
        rotate_left
        · intro wz hSz; (try dsimp only at hSz); go_simp; all_goals (with_reducible rfl)
        (try simp only [Act.put, List.setIfInBounds_toArray, List.set_cons_zero, List.set_cons_succ])
        refine wpAnyH_take (i := 4) (oi := { dst := some 48, op := Op.binOp BinOp.sub 3 (Operand.tmp 47) (Operand.const (Value.int IntKind.i64 1)) 3, type := 3, pos := "ref.go:295", after := #[{ on := 3, ground := Ground.data }], guard := none }) (v := ?_) rfl (by kernel_rfl) (by kernel_rfl) (by kernel_rfl) (fun _ _ _ h => h) (Or.inl ⟨by rfl, ?_⟩) (by assumption) ?_
        rotate_left
        · intro wz hSz; (try dsimp only at hSz); go_simp; all_goals (with_reducible rfl)
        (try simp only [Act.put, List.setIfInBounds_toArray, List.set_cons_zero, List.set_cons_succ])
        refine wpAnyH_ready (rs := [5]) (by kernel_rfl) (by simp) ?_
        refine AllReadyH.cons (o := { dst := some 49, op := Op.call { callee := Callee.value (Operand.func 30), args := #[Operand.tmp 46, Operand.tmp 48], argTypes := #[28, 3] }, type := 3, pos := "ref.go:295", after := #[{ on := 2, ground := Ground.data }, { on := 4, ground := Ground.data }], guard := none }) rfl (fun K hK => ?_) AllReadyH.nil
        go_simp
        go_at_call 30
        (with_reducible refine (c30c _ (belT hbx hHeld.1)).mono ?_)
        rintro e w3 ⟨rfl, hbw3⟩
        go_wp2_with fail
        refine hK.out _ _ ?_ (fun hHeld => ?_)
        · (try dsimp only)
          obtain ⟨q0, q1, q2⟩ := hHeld; exact ⟨belT q0 hbw3, fun i => (hbw3.cell (p := ⟨w.heap.size, _, none⟩) (Nat.lt_of_lt_of_le hly q0.size)).trans (q1 i), (hbw3.cell (p := ⟨gd, _, none⟩) (Nat.lt_of_lt_of_le hgl q0.size)).trans q2⟩
        clear hK K
        (try simp only [Act.put, List.setIfInBounds_toArray, List.set_cons_zero, List.set_cons_succ])
        refine wpAnyH_take (i := 6) (oi := { dst := some 50, op := Op.indexAddr 22 (Operand.tmp 45) (Operand.tmp 49), type := 0, pos := "ref.go:295", after := #[{ on := 1, ground := Ground.data }, { on := 5, ground := Ground.data }], guard := none }) (v := ?_) rfl (by kernel_rfl) (by kernel_rfl) (by kernel_rfl) (fun _ _ _ h => h) (Or.inl ⟨by rfl, ?_⟩) (by assumption) ?_
        rotate_left
        · intro wz hSz; (try dsimp only at hSz); go_simp; all_goals (with_reducible rfl)
        (try simp only [Act.put, List.setIfInBounds_toArray, List.set_cons_zero, List.set_cons_succ])
        refine wpAnyH_take (i := 7) (oi := { dst := some 51, op := Op.fieldAddr 49 (Operand.tmp 50) 1, type := 0, pos := "ref.go:295", after := #[{ on := 6, ground := Ground.data }], guard := none }) (v := ?_) rfl (by kernel_rfl) (by kernel_rfl) (by kernel_rfl) (fun _ _ _ h => h) (Or.inl ⟨by rfl, ?_⟩) (by assumption) ?_
        rotate_left
        · intro wz hSz; (try dsimp only at hSz); go_simp; all_goals (with_reducible rfl)
        (try simp only [Act.put, List.setIfInBounds_toArray, List.set_cons_zero, List.set_cons_succ])
        refine wpAnyH_take (i := 8) (oi := { dst := some 52, op := Op.load 47 (Operand.tmp 51), type := 47, pos := "ref.go:295", after := #[{ on := 7, ground := Ground.data }], guard := none }) (v := ?_) rfl (by kernel_rfl) (by kernel_rfl) (by kernel_rfl) (fun _ _ _ h => h) (Or.inl ⟨by rfl, ?_⟩) (by assumption) ?_
        rotate_left
        · intro wz hSz; (try dsimp only at hSz); go_simp; all_goals (with_reducible rfl)
        (try simp only [Act.put, List.setIfInBounds_toArray, List.set_cons_zero, List.set_cons_succ])
        refine wpAnyH_take (i := 9) (oi := { dst := some 7, op := Op.assign (Operand.tmp 52), type := 47, pos := "ref.go:295", after := #[{ on := 8, ground := Ground.data }, { on := 5, ground := Ground.chain }, { on := 0, ground := Ground.phase }, { on := 1, ground := Ground.phase }, { on := 2, ground := Ground.phase }, { on := 3, ground := Ground.phase }, { on := 4, ground := Ground.phase }, { on := 5, ground := Ground.phase }, { on := 6, ground := Ground.phase }, { on := 7, ground := Ground.phase }, { on := 8, ground := Ground.phase }], guard := none }) (v := ?_) rfl (by kernel_rfl) (by kernel_rfl) (by kernel_rfl) (fun _ _ _ h => h) (Or.inl ⟨by rfl, ?_⟩) (by assumption) ?_
        rotate_left
        · intro wz hSz; (try dsimp only at hSz); go_simp; all_goals (with_reducible rfl)
        (try simp only [Act.put, List.setIfInBounds_toArray, List.set_cons_zero, List.set_cons_succ])
        refine wpAnyH_done (by kernel_rfl) ?_ _
        refine NoPanic.normal ?_
        have p2 := (hHeld.1.cell (p := ⟨g, _, none⟩) hlg).trans p1
        go_wp2_with fail
        go_ret
        exact ⟨ret_int hE2.out.symm, belT hbx hHeld.1⟩
end Go.Proofs.YtddphepgcihdbaaGreat
