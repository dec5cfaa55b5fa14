import Derived.Test.YtddphepgcihdbaaTdC
namespace Go.Proofs.Ytddphepgcihdbaa
open Go.RowKit
set_option linter.unusedVariables false
set_option linter.unusedSimpArgs false

set_option maxRecDepth 100000 in
set_option maxHeartbeats 4000000 in
theorem rowsOf_any (d : Int) (d0 : 0 ≤ d) (d1 : d ≤ 146096) (t : Tt) (aD aS aX aH : Option Addr) (cD cS cX cH : Nat) (w : World) (hR : TR w t (.slice aD t.D.length cD) (.slice aS t.S.length cS) (.slice aX t.X.length cX) (.slice aH t.H.length cH)) (n : Nat) (hi : n < t.D.length) (hki : knF t d = (n : Int)) : Calls Try.prog 42 #[.agg #[.string t.nm, .slice aD t.D.length cD, .int .i64 t.w0, .int .i64 t.w1, .int .i64 t.w2, .int .i64 t.w3, .int .i64 t.w4, .int .i64 t.w5, .int .i64 t.w6, .slice aS t.S.length cS, .slice aX t.X.length cX, .slice aH t.H.length cH], .int .i64 d] w fun e w' => e = .returned t.D[n].rv ∧ Below w.heap.size w w' := by
  have c29 := fun W (hb : Below w.heap.size w W) => kindOf_any d d0 d1 t aD aS aX aH cD cS cX cH W (hR.below hb)
  rw [hki] at c29
  clear hki
  obtain ⟨ra, rc, hrv0, hdr⟩ := (hR.r _ (List.getElem_mem hi)).any
  clear hdr
  rw [hrv0]
  have hrv : Hid (t.D[n].rv = .slice ra t.D[n].rows.length rc) := hrv0
  clear hrv0
  generalize t.D[n].rows.length = rn at *
  have dl := hR.dl
  have sl := hR.sl
  have xl := hR.xl
  have hl := hR.hl
  go_enter Try.func42, Try.ntmps42
  go_wp2
  have HY : Has (w.alloc (.cells #[.string t.nm, .slice aD t.D.length cD, .int .i64 t.w0, .int .i64 t.w1, .int .i64 t.w2, .int .i64 t.w3, .int .i64 t.w4, .int .i64 t.w5, .int .i64 t.w6, .slice aS t.S.length cS, .slice aX t.X.length cX, .slice aH t.H.length cH] 29)) w.heap.size #[.string t.nm, .slice aD t.D.length cD, .int .i64 t.w0, .int .i64 t.w1, .int .i64 t.w2, .int .i64 t.w3, .int .i64 t.w4, .int .i64 t.w5, .int .i64 t.w6, .slice aS t.S.length cS, .slice aX t.X.length cX, .slice aH t.H.length cH] := Has.new _ _ _ rfl
  have HB : Below w.heap.size w (w.alloc (.cells #[.string t.nm, .slice aD t.D.length cD, .int .i64 t.w0, .int .i64 t.w1, .int .i64 t.w2, .int .i64 t.w3, .int .i64 t.w4, .int .i64 t.w5, .int .i64 t.w6, .slice aS t.S.length cS, .slice aX t.X.length cX, .slice aH t.H.length cH] 29)) := bel1
  have hRR : Hid (TR (w.alloc (.cells #[.string t.nm, .slice aD t.D.length cD, .int .i64 t.w0, .int .i64 t.w1, .int .i64 t.w2, .int .i64 t.w3, .int .i64 t.w4, .int .i64 t.w5, .int .i64 t.w6, .slice aS t.S.length cS, .slice aX t.X.length cX, .slice aH t.H.length cH] 29)) t (.slice aD t.D.length cD) (.slice aS t.S.length cS) (.slice aX t.X.length cX) (.slice aH t.H.length cH)) := hR.below HB
  generalize (w.alloc (.cells #[.string t.nm, .slice aD t.D.length cD, .int .i64 t.w0, .int .i64 t.w1, .int .i64 t.w2, .int .i64 t.w3, .int .i64 t.w4, .int .i64 t.w5, .int .i64 t.w6, .slice aS t.S.length cS, .slice aX t.X.length cX, .slice aH t.H.length cH] 29)) = Y at *
  clear hR
  replace c29 := fun W (hb : Below Y.heap.size Y W) => c29 W (belT HB hb)
  have hly := HY.1
  have hlt := hi
  obtain ⟨g, o, rfl, hg, P⟩ := (hRR.out.d.ln).resolve_left (by intro e; rw [e] at hlt; simp at hlt)
  have p1 := P n hlt 1 _ rfl
  rw [hrv.out] at p1
  have t1 : (n : Int) < (t.D.length : Int) := by omega
  have t0 : (0 : Int) ≤ (n : Int) := by omega
  clear P hrv
  refine wp_region_noPanic ?_
  refine wp_region_held_drew (S := fun w' => Below Y.heap.size Y w' ∧ (∀ i, w'.cell? ⟨w.heap.size, i, none⟩ = (#[.string t.nm, .slice (some ⟨g, o, none⟩) t.D.length cD, .int .i64 t.w0, .int .i64 t.w1, .int .i64 t.w2, .int .i64 t.w3, .int .i64 t.w4, .int .i64 t.w5, .int .i64 t.w6, .slice aS t.S.length cS, .slice aX t.X.length cX, .slice aH t.H.length cH] : Array Value)[i]?) ∧ w'.cell? ⟨g, o + n * 2 + 1, none⟩ = some (.slice ra rn rc)) (by kernel_rfl) ?_ (fun hHeld => ?_)
  · (try dsimp only)
    exact ⟨(Below.refl _ _).drew, HY.2.1, p1⟩
  refine wpAnyH_take (i := 0) (oi := { dst := some 5, op := Op.fieldAddr 29 (Operand.tmp 2) 1, type := 0, pos := "force.go:41", after := #[], guard := none }) (v := ?_) rfl (by kernel_rfl) (by kernel_rfl) (by kernel_rfl) (fun _ _ _ h => h) (Or.inl ⟨by rfl, ?_⟩) (by assumption) ?_
  rotate_left
  · intro wz hSz; (try dsimp only at hSz); go_simp; all_goals (with_reducible rfl)
  (try simp only [Act.put, List.setIfInBounds_toArray, List.set_cons_zero, List.set_cons_succ])
  refine wpAnyH_take (i := 1) (oi := { dst := some 6, op := Op.load 23 (Operand.tmp 5), type := 23, pos := "force.go:41", after := #[{ on := 0, ground := Ground.data }], guard := none }) (v := ?_) rfl (by kernel_rfl) (by kernel_rfl) (by kernel_rfl) (fun _ _ _ h => h) (Or.inl ⟨by rfl, ?_⟩) (by assumption) ?_
  rotate_left
  · intro wz hSz; (try dsimp only at hSz); go_simp; all_goals (with_reducible rfl)
  (try simp only [Act.put, List.setIfInBounds_toArray, List.set_cons_zero, List.set_cons_succ])
  refine wpAnyH_take (i := 2) (oi := { dst := some 7, op := Op.load 29 (Operand.tmp 2), type := 29, pos := "force.go:41", after := #[], guard := none }) (v := ?_) rfl (by kernel_rfl) (by kernel_rfl) (by kernel_rfl) (fun _ _ _ h => h) (Or.inl ⟨by rfl, ?_⟩) (by assumption) ?_
  rotate_left
  · intro wz hSz; (try dsimp only at hSz); go_simp; all_goals (with_reducible rfl)
  (try simp only [Act.put, List.setIfInBounds_toArray, List.set_cons_zero, List.set_cons_succ])
  refine wpAnyH_take (i := 3) (oi := { dst := some 8, op := Op.move (Operand.tmp 1), type := 3, pos := "force.go:41", after := #[], guard := none }) (v := ?_) rfl (by kernel_rfl) (by kernel_rfl) (by kernel_rfl) (fun _ _ _ h => h) (Or.inl ⟨by rfl, ?_⟩) (by assumption) ?_
  rotate_left
  · intro wz hSz; (try dsimp only at hSz); go_simp; all_goals (with_reducible rfl)
  (try simp only [Act.put, List.setIfInBounds_toArray, List.set_cons_zero, List.set_cons_succ])
  refine wpAnyH_ready (rs := [4]) (by kernel_rfl) (by simp) ?_
  refine AllReadyH.cons (o := { dst := some 9, op := Op.call { callee := Callee.value (Operand.func 76), args := #[Operand.tmp 7, Operand.tmp 8], argTypes := #[29, 3] }, type := 3, pos := "force.go:41", after := #[{ on := 2, ground := Ground.data }, { on := 3, ground := Ground.data }], guard := none }) rfl (fun K hK => ?_) AllReadyH.nil
  go_simp
  go_at_call 76
  (with_reducible refine (c29 _ hHeld.1).mono ?_)
  rintro e w1 ⟨rfl, hb1⟩
  go_wp2_with fail
  refine hK.out _ _ ?_ (fun hHeld => ?_)
  · (try dsimp only)
    obtain ⟨q0, q1, q2⟩ := hHeld; exact ⟨belT q0 hb1, fun i => (hb1.cell (p := ⟨w.heap.size, _, none⟩) (Nat.lt_of_lt_of_le hly q0.size)).trans (q1 i), (hb1.cell (p := ⟨g, _, none⟩) (Nat.lt_of_lt_of_le hg q0.size)).trans q2⟩
  clear hK K
  (try simp only [Act.put, List.setIfInBounds_toArray, List.set_cons_zero, List.set_cons_succ])
  refine wpAnyH_take (i := 5) (oi := { dst := some 10, op := Op.indexAddr 23 (Operand.tmp 6) (Operand.tmp 9), type := 0, pos := "force.go:41", after := #[{ on := 1, ground := Ground.data }, { on := 4, ground := Ground.data }], guard := none }) (v := ?_) rfl (by kernel_rfl) (by kernel_rfl) (by kernel_rfl) (fun _ _ _ h => h) (Or.inl ⟨by rfl, ?_⟩) (by assumption) ?_
  rotate_left
  · intro wz hSz; (try dsimp only at hSz); go_simp; all_goals (with_reducible rfl)
  (try simp only [Act.put, List.setIfInBounds_toArray, List.set_cons_zero, List.set_cons_succ])
  refine wpAnyH_take (i := 6) (oi := { dst := some 11, op := Op.fieldAddr 72 (Operand.tmp 10) 1, type := 0, pos := "force.go:41", after := #[{ on := 5, ground := Ground.data }], guard := none }) (v := ?_) rfl (by kernel_rfl) (by kernel_rfl) (by kernel_rfl) (fun _ _ _ h => h) (Or.inl ⟨by rfl, ?_⟩) (by assumption) ?_
  rotate_left
  · intro wz hSz; (try dsimp only at hSz); go_simp; all_goals (with_reducible rfl)
  (try simp only [Act.put, List.setIfInBounds_toArray, List.set_cons_zero, List.set_cons_succ])
  refine wpAnyH_take (i := 7) (oi := { dst := some 12, op := Op.load 70 (Operand.tmp 11), type := 70, pos := "force.go:41", after := #[{ on := 6, ground := Ground.data }], guard := none }) (v := ?_) rfl (by kernel_rfl) (by kernel_rfl) (by kernel_rfl) (fun _ _ _ h => h) (Or.inl ⟨by rfl, ?_⟩) (by assumption) ?_
  rotate_left
  · intro wz hSz; (try dsimp only at hSz); go_simp; all_goals (with_reducible rfl)
  (try simp only [Act.put, List.setIfInBounds_toArray, List.set_cons_zero, List.set_cons_succ])
  refine wpAnyH_take (i := 8) (oi := { dst := some 4, op := Op.assign (Operand.tmp 12), type := 70, pos := "force.go:41", after := #[{ on := 7, ground := Ground.data }, { on := 4, ground := Ground.chain }, { on := 0, ground := Ground.phase }, { on := 1, ground := Ground.phase }, { on := 2, ground := Ground.phase }, { on := 3, ground := Ground.phase }, { on := 4, ground := Ground.phase }, { on := 5, ground := Ground.phase }, { on := 6, ground := Ground.phase }, { on := 7, ground := Ground.phase }], guard := none }) (v := ?_) rfl (by kernel_rfl) (by kernel_rfl) (by kernel_rfl) (fun _ _ _ h => h) (Or.inl ⟨by rfl, ?_⟩) (by assumption) ?_
  rotate_left
  · intro wz hSz; (try dsimp only at hSz); go_simp; all_goals (with_reducible rfl)
  (try simp only [Act.put, List.setIfInBounds_toArray, List.set_cons_zero, List.set_cons_succ])
  refine wpAnyH_done (by kernel_rfl) ?_ _
  refine NoPanic.normal ?_
  go_wp2_with fail
  go_ret
  exact ⟨rfl, by first | exact belT HB hHeld.1 | exact (belT HB hHeld.1).drew⟩
theorem row_ix {t : Tt} (h : t.kinB = true) (d : Int) : ∃ (i : Nat) (hi : i < t.D.length), knF t d = (i : Int) ∧ rwF t d = t.D[i].rows := by
  obtain ⟨hi, e⟩ := row_at h d
  exact ⟨_, hi, by have := kn_bounds h d; omega, e⟩
set_option maxRecDepth 100000 in
set_option maxHeartbeats 4000000 in
theorem slotAt_any (m : Int) (m0 : 0 ≤ m) (m1 : m ≤ 210379679) (t : Tt) (aD aS aX aH : Option Addr) (cD cS cX cH : Nat) (w : World) (hR : TR w t (.slice aD t.D.length cD) (.slice aS t.S.length cS) (.slice aX t.X.length cX) (.slice aH t.H.length cH)) (he : t.err = 0) : Calls Try.prog 22 #[.agg #[.string t.nm, .slice aD t.D.length cD, .int .i64 t.w0, .int .i64 t.w1, .int .i64 t.w2, .int .i64 t.w3, .int .i64 t.w4, .int .i64 t.w5, .int .i64 t.w6, .slice aS t.S.length cS, .slice aX t.X.length cX, .slice aH t.H.length cH], .int .i64 m] w fun e w' => e = .returned (.int .i64 (slF t m)) ∧ Below w.heap.size w w' := by
  obtain ⟨_, _, e3, _, e5, _, e7, _⟩ := err_zero he
  have hpb := pl_bounds e5 m
  have hlb := lo_bounds m (plG m t.H)
  obtain ⟨i1, hi1, hk1, hr1⟩ := row_ix e7 (loF m (plG m t.H) / 1440)
  obtain ⟨i2, hi2, hk2, hr2⟩ := row_ix e7 (loF m (plG m t.H) / 1440 - 1)
  have hp2 := row_pos e7 e3 (loF m (plG m t.H) / 1440 - 1)
  have f1 : Hid (∀ x, lrG (loF m (plG m t.H) % 1440) (rwF t (loF m (plG m t.H) / 1440)) = some x → slF t m = x.s) := by intro x h; simp only [slF, h]
  have f2 : Hid (lrG (loF m (plG m t.H) % 1440) (rwF t (loF m (plG m t.H) / 1440)) = none → loF m (plG m t.H) / 1440 = 0 → slF t m = -1) := by intro h h2; simp only [slF, h, if_pos h2]
  have f3 : Hid (lrG (loF m (plG m t.H) % 1440) (rwF t (loF m (plG m t.H) / 1440)) = none → loF m (plG m t.H) / 1440 ≠ 0 → ∀ x, (rwF t (loF m (plG m t.H) / 1440 - 1)).getLast? = some x → slF t m = x.s) := by intro h h2 x h3; simp only [slF, h, if_neg h2, h3]
  rw [hr1] at f1 f2 f3
  rw [hr2] at f3 hp2
  have g1 := hR.r _ (List.getElem_mem hi1)
  have g2 := hR.r _ (List.getElem_mem hi2)
  have b1 := hR.rl _ (List.getElem_mem hi1)
  have b2 := hR.rl _ (List.getElem_mem hi2)
  have c26 := plusAt_any t.H aH cH m _ (hR.below (bel1 (o := .cells #[.string t.nm, .slice aD t.D.length cD, .int .i64 t.w0, .int .i64 t.w1, .int .i64 t.w2, .int .i64 t.w3, .int .i64 t.w4, .int .i64 t.w5, .int .i64 t.w6, .slice aS t.S.length cS, .slice aX t.X.length cX, .slice aH t.H.length cH] 29))).h.ln hR.hl
  have c25 := fun W => localOf_any m (plG m t.H) W m0 m1 hpb.1 hpb.2
  have c36 := fun W (hb : Below w.heap.size w W) => rowsOf_any (loF m (plG m t.H) / 1440) (by omega) (by omega) t aD aS aX aH cD cS cX cH W (hR.below hb) i1 hi1 hk1
  have c36b := fun W (hb : Below w.heap.size w W) (hd : ¬ loF m (plG m t.H) / 1440 = 0) => rowsOf_any (loF m (plG m t.H) / 1440 - 1) (by omega) (by omega) t aD aS aX aH cD cS cX cH W (hR.below hb) i2 hi2 hk2
  have hcc : 0 ≤ loF m (plG m t.H) % 1440 := by omega
  clear hR hr1 hr2 hk1 hk2
  generalize slF t m = R at *
  obtain ⟨a1, c1, v1, k1⟩ := g1.any
  obtain ⟨a2, c2, v2, k2⟩ := g2.any
  simp only [v1] at c36
  simp only [v2] at c36b
  clear v1 v2 g1 g2 e3 e5 e7 he hpb
  generalize t.D[i1].rows = r1 at *
  generalize t.D[i2].rows = r2 at *
  generalize plG m t.H = pl at *
  generalize loF m pl = l at *
  have hl0 : 0 ≤ l := hlb.1
  have hl1 : l ≤ 210379679 := hlb.2
  clear hlb hi1 hi2
  go_enter Try.func22, Try.ntmps22
  go_wp2_with (first | (go_at_call 41; (with_reducible refine c26.mono ?_); rintro e w1 ⟨rfl, hb0⟩; have B0 := ((Has.new w #[.string t.nm, .slice aD t.D.length cD, .int .i64 t.w0, .int .i64 t.w1, .int .i64 t.w2, .int .i64 t.w3, .int .i64 t.w4, .int .i64 t.w5, .int .i64 t.w6, .slice aS t.S.length cS, .slice aX t.X.length cX, .slice aH t.H.length cH] 29 rfl).below hb0); have hbb0 := belT bel1 hb0; obtain ⟨_, q0, _⟩ := id B0) | (go_at_call 40; (with_reducible refine (c25 _).mono ?_); rintro e w' ⟨rfl, rfl⟩) | (go_at_call 42; (with_reducible refine (c36 _ hbb0).mono ?_); rintro e w2 ⟨rfl, hb1⟩; have B1 := B0.below hb1; have hbb1 := belT hbb0 hb1; obtain ⟨_, q1, _⟩ := id B1))
  have hbx := hbb1
  have hB1 := B1
  generalize w2 = W1 at *
  clear q0 q1 B0 hb0 hb1 hbb0 B1
  generalize l % 1440 = cc at *
  go_loopg [9] r1.length (fun gk s9 wr => ∃ (z : Int), Hid (z = (gk : Int) - 1) ∧ gk ≤ r1.length ∧ s9 = .int .i64 z ∧ Hid (lrG cc (r1.take gk) = lrG cc r1) ∧ W1 = wr)
  case atStart => exact ⟨_, rfl, Nat.le_refl _, rfl, by show _ = _; rw [List.take_length], rfl⟩
  case round =>
    obtain ⟨z, hz, hk, rfl, hA, rfl⟩ := hrel
    cases gk with
    | succ k =>
      have hlt : k < r1.length := by omega
      obtain rfl : z = (k : Int) := by have := hz.out; omega
      have hE : Hid (lrG cc r1 = if r1[k].m ≤ cc then some r1[k] else lrG cc (r1.take k)) := by show _ = _; rw [← hA.out, lr_step cc r1 k hlt]
      clear hA hz
      obtain ⟨g, o, rfl, hg, P⟩ := k1.resolve_left (by intro e; rw [e] at hlt; simp at hlt)
      have p0 := (hbx.cell (p := ⟨g, _, none⟩) hg).trans (P k hlt 0 _ rfl)
      have p1 := (hbx.cell (p := ⟨g, _, none⟩) hg).trans (P k hlt 1 _ rfl)
      simp only [Nat.add_zero] at p0
      have t1 : (k : Int) < (r1.length : Int) := by omega
      have t0 : (0 : Int) ≤ (k : Int) := by omega
      clear P k1
      by_cases hc : r1[k].m ≤ cc
      · have hE2 : Hid (R = r1[k].s) := f1.out _ (by rw [hE.out, if_pos hc])
        clear hE
        generalize r1[k].m = y0 at *
        generalize r1[k].s = y1 at *
        go_wp2
        go_ret
        exact ⟨ret_int hE2.out.symm, hbx⟩
      · have hE2 : Hid (lrG cc (r1.take k) = lrG cc r1) := by show _ = _; rw [hE.out, if_neg hc]
        clear hE
        generalize r1[k].m = y0 at *
        generalize r1[k].s = y1 at *
        go_wp2
        go_roundg k
        case measure => go_light; omega
        case rel => exact ⟨_, rfl, by omega, rfl, hE2, rfl⟩
    | zero =>
      have hz' : ¬ 0 ≤ z := by have := hz.out; omega
      have hN : Hid (lrG cc r1 = none) := by show _ = _; rw [← hA.out]; rfl
      clear hA
      obtain ⟨_, q2, _⟩ := id hB1
      by_cases hd : l / 1440 = 0
      · have hd' : (l / 1440 == 0) = true := beq_iff_eq.2 hd
        have hE2 : Hid (R = -1) := f2.out hN.out hd
        clear hd
        go_wp2
        go_ret
        exact ⟨ret_int hE2.out.symm, hbx⟩
      · have hd' : (l / 1440 == 0) = false := beq_eq_false_iff_ne.2 hd
        have c36c := c36b W1 hbx hd
        obtain ⟨j, hjl, hj⟩ : ∃ (j : Nat) (_ : j < r2.length), Hid (r2.length = j + 1) := ⟨r2.length - 1, by omega, by show _ = _; omega⟩
        have hlast : r2.getLast? = some r2[j] := by
          have e1 : r2.length - 1 = j := by have := hj.out; omega
          rw [List.getLast?_eq_getElem?, e1, List.getElem?_eq_getElem hjl]
        have hE2 : Hid (R = r2[j].s) := f3.out hN.out hd _ hlast
        obtain ⟨g, o, rfl, hg, P⟩ := k2.resolve_left (by intro e; rw [e] at hp2; simp at hp2)
        have p1 := (hbx.cell (p := ⟨g, _, none⟩) hg).trans (P j hjl 1 _ rfl)
        have t1 : (j : Int) < (r2.length : Int) := by have := hj.out; omega
        have t0 : (0 : Int) ≤ (j : Int) := by omega
        have t2 : (r2.length : Int) - 1 = (j : Int) := by have := hj.out; omega
        have hlg : g < W1.heap.size := Nat.lt_of_lt_of_le hg hbx.size
        clear hlast P k2 c36b hd hp2 k1
        generalize r2[j].s = y1 at *
        go_wp2_with (go_at_call 42; (with_reducible refine c36c.mono ?_); rintro e w3 ⟨rfl, hb3⟩; have p2 := (hb3.cell (p := ⟨g, _, none⟩) hlg).trans p1)
        go_ret
        exact ⟨ret_int hE2.out.symm, belT hbx hb3⟩
end Go.Proofs.Ytddphepgcihdbaa
