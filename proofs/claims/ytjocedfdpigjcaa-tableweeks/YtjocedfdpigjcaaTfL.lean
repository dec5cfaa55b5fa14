import Derived.Test.YtjocedfdpigjcaaTfK
namespace Go.Proofs.Ytjocedfdpigjcaa
open Go.RowKit
set_option linter.unusedVariables false
set_option linter.unusedSimpArgs false

theorem sl_rowR {t : Tt} {d : Int} {R : List Rw} (hR : rwF t d = R) (hd : 0 ≤ d) (hd1 : d ≤ 146096) (hr : R.Pairwise (fun x y => x.m < y.m)) (i : Nat) (hi : i < R.length) (h0 : 0 ≤ R[i].m) (h1 : R[i].m ≤ 1439) (hH : t.H = [] := by rfl) : slF t (d * 1440 + R[i].m) = R[i].s := by
  subst hR
  exact sl_row hH d hd hd1 hr i hi h0 h1
theorem wk_cell {w : World} {q n dcp : Nat} {da : Option Addr} {D : List Dk} {x0 x1 x2 x3 x4 x5 x6 : Int} (hc : ∀ i, w.cell? ⟨q, i, none⟩ = (#[.string ⟨#[116, 105, 109, 101, 116, 97, 98, 108, 101]⟩, .slice da n dcp, .int .i64 x0, .int .i64 x1, .int .i64 x2, .int .i64 x3, .int .i64 x4, .int .i64 x5, .int .i64 x6, .slice none 0 0, .slice none 0 0, .slice none 0 0] : Array Value)[i]?) (hr : 0 ≤ x0 ∧ x0 < (n : Int) ∧ 0 ≤ x1 ∧ x1 < (n : Int) ∧ 0 ≤ x2 ∧ x2 < (n : Int) ∧ 0 ≤ x3 ∧ x3 < (n : Int) ∧ 0 ≤ x4 ∧ x4 < (n : Int) ∧ 0 ≤ x5 ∧ x5 < (n : Int) ∧ 0 ≤ x6 ∧ x6 < (n : Int)) (E : Nat) (hE : E < 7) : ∃ J : Nat, J < n ∧ w.cell? ⟨q, 2 + E, none⟩ = some (.int .i64 (J : Int)) ∧ (tW D x0 x1 x2 x3 x4 x5 x6).wk.getD E 0 = (J : Int) := by
  rcases (show E = 0 ∨ E = 1 ∨ E = 2 ∨ E = 3 ∨ E = 4 ∨ E = 5 ∨ E = 6 by omega) with rfl | rfl | rfl | rfl | rfl | rfl | rfl
  · exact ⟨x0.toNat, by omega, by rw [hc]; show some (Value.int .i64 x0) = _; congr 2; omega, by show x0 = _; omega⟩
  · exact ⟨x1.toNat, by omega, by rw [hc]; show some (Value.int .i64 x1) = _; congr 2; omega, by show x1 = _; omega⟩
  · exact ⟨x2.toNat, by omega, by rw [hc]; show some (Value.int .i64 x2) = _; congr 2; omega, by show x2 = _; omega⟩
  · exact ⟨x3.toNat, by omega, by rw [hc]; show some (Value.int .i64 x3) = _; congr 2; omega, by show x3 = _; omega⟩
  · exact ⟨x4.toNat, by omega, by rw [hc]; show some (Value.int .i64 x4) = _; congr 2; omega, by show x4 = _; omega⟩
  · exact ⟨x5.toNat, by omega, by rw [hc]; show some (Value.int .i64 x5) = _; congr 2; omega, by show x5 = _; omega⟩
  · exact ⟨x6.toNat, by omega, by rw [hc]; show some (Value.int .i64 x6) = _; congr 2; omega, by show x6 = _; omega⟩
theorem rw_made {D : List Dk} {x0 x1 x2 x3 x4 x5 x6 : Int} (d : Int) (J : Nat) (hJ : J < D.length) (h : (tW D x0 x1 x2 x3 x4 x5 x6).wk.getD ((d + 5) % 7).toNat 0 = (J : Int)) : rwF (tW D x0 x1 x2 x3 x4 x5 x6) d = D[J].rows := by
  unfold rwF
  rw [kn_week rfl rfl, h]
  show (match D[(J : Int).toNat]? with | some x => x.rows | none => []) = _
  rw [Int.toNat_natCast, List.getElem?_eq_getElem hJ]
set_option maxRecDepth 100000 in
set_option maxHeartbeats 4000000 in
theorem weeks_law (L : List Int) (a : Option Addr) (c : Nat) (mi : Int) (w : World) (mk : Calls Try.prog 5 #[.slice a L.length c] w fun e w' => MkP w e w') (m0 : -9223372036854775808 ≤ mi) (m1 : mi ≤ 9223372036854775807) :
    Calls Try.prog 3 #[.slice a L.length c, .int .i64 mi] w fun e w' => e = .returned (.bool true) ∧ Below w.heap.size w w' := by
  go_enter Try.func3, Try.ntmps3
  go_wp2_with (first
    | (go_at_call 5; (with_reducible refine mk.mono ?_); rintro e w1 hMk; obtain ⟨da, dcp, n, D, x0, x1, x2, x3, x4, x5, x6, sa, xa, ha, sn, sc, xn, xc, hn, hc, s, b, rfl, hDl, hn0, hn8, hxr, hD, hb1⟩ := hMk; have hDY := hD.below (bel1 (w := w1) (o := .cells #[.string ⟨#[116, 105, 109, 101, 116, 97, 98, 108, 101]⟩, .slice da n dcp, .int .i64 x0, .int .i64 x1, .int .i64 x2, .int .i64 x3, .int .i64 x4, .int .i64 x5, .int .i64 x6, .slice none 0 0, .slice none 0 0, .slice none 0 0] 29)))
    | (go_at_call 6; (with_reducible refine (below_any mi 210368159 _ m0 m1 (by omega) (by omega)).mono ?_); rintro e w2 ⟨⟨r, rfl, r0, r1⟩, rfl⟩)
    | (go_at_call 7; (with_reducible refine (at_w hDY hDl hn0 hn8 hxr (1440 + r) (by omega) (by omega) _ rfl).mono ?_); rintro e w3 ⟨rfl, hb3⟩; have hQ := (Has.new w1 #[.string ⟨#[116, 105, 109, 101, 116, 97, 98, 108, 101]⟩, .slice da n dcp, .int .i64 x0, .int .i64 x1, .int .i64 x2, .int .i64 x3, .int .i64 x4, .int .i64 x5, .int .i64 x6, .slice none 0 0, .slice none 0 0, .slice none 0 0] 29 rfl).below hb3; obtain ⟨_, c3, _⟩ := id hQ)
    | (go_at_call 7; (with_reducible refine (at_w (hDY.below hb3) hDl hn0 hn8 hxr (1440 + r + 10080) (by omega) (by omega) (slF (tW D x0 x1 x2 x3 x4 x5 x6) (1440 + r)) (sl_week rfl rfl rfl _ (by omega) (by omega))).mono ?_); rintro e w4 ⟨rfl, hb4⟩))
  have hQ4 := hQ.below hb4
  have hD4 := (hDY.below hb3).below hb4
  have hB4 : Below w.heap.size w w4 := belT (belT (belT hb1 bel1) hb3) hb4
  clear hDY hb3 hb4 hQ c3 hD hb1 mk
  have hm0 : 1440 ≤ 1440 + r := by omega
  have hm1 : 1440 + r ≤ 210369598 := by omega
  clear r0 r1
  generalize 1440 + r = m at *
  generalize w1.heap.size = q at *
  subst hDl
  obtain ⟨E, hE⟩ : ∃ z : Nat, (m / 1440 + 5) % 7 = (z : Int) := ⟨((m / 1440 + 5) % 7).toNat, by omega⟩
  have hE7 : E < 7 := by omega
  obtain ⟨J, hJ1, hJ2, hJ3⟩ := wk_cell hQ4.2.1 hxr E hE7
  obtain ⟨g, cap, e, hc1, hg1, hg2⟩ := own_block hD4.own (by omega)
  injection e with e1 _ e3
  subst e1 e3
  have hok := hD4.ok _ (List.getElem_mem hJ1)
  have hrw := hD4.rows _ (List.getElem_mem hJ1)
  have hrF : Hid (rwF (tW D x0 x1 x2 x3 x4 x5 x6) (m / 1440) = D[J].rows) := rw_made _ J hJ1 (by rw [hE]; simpa using hJ3)
  obtain ⟨gr, cr, e2, hc2, hg3, hg4⟩ := own_block hrw hok.1
  have pR : w4.cell? ⟨g, J * 2 + 1, none⟩ = some D[J].rv := own_reads hD4.own rfl (J * 2 + 1) _ (by rw [cellsF_get (cs := Dk.cs) (fun _ => rfl) D J 1 hJ1 (by decide)]; rfl)
  rw [e2] at pR hrw
  have hR' : Hid (∀ (k : Nat) (h : k < D[J].rows.length) (j : Nat) (u : Value), (Rw.cs D[J].rows[k])[j]? = some u → w4.cell? ⟨gr, k * 2 + j, none⟩ = some u) := by
    intro k h j u hu
    have hj : j < 2 := by have := (List.getElem?_eq_some_iff.1 hu).1; simpa [Rw.cs] using this
    exact own_reads hrw rfl (k * 2 + j) u (by rw [cellsF_get rw_len _ k j h hj]; exact hu)
  have hok' : Hid (D[J].rows.length ≤ 6 ∧ roB 1440 D[J].rows) := hok.2
  have hlR : (D[J].rows.length : Int) ≤ 6 := by have := hok.2.1; omega
  clear e2 hrw hok hg3
  generalize hRd : D[J].rows = R at *
  clear hRd
  have hc4 := hQ4.2.1
  have k0 : (0 : Int) ≤ (E : Int) := by omega
  have k1 : (E : Int) < 7 := by omega
  have k2 : (0 : Int) ≤ (J : Int) := by omega
  have k3 : (J : Int) < (D.length : Int) := by omega
  have k4 : IntKind.i64.wrap (m / 1440 + 5) = m / 1440 + 5 := wrap64 _ (by omega)
  have k5 : (0 : Int) ≤ m := by omega
  have k7 : IntKind.i64.wrap (m.tdiv 1440) = m / 1440 := by rw [Int.tdiv_eq_ediv_of_nonneg k5]; exact wrap64 _ (by omega)
  have k8 : (m / 1440 + 5).tmod 7 = (E : Int) := by rw [Int.tmod_eq_emod_of_nonneg (by omega)]; exact hE
  have k6 : (0 : Int) ≤ m / 1440 + 5 := by omega
  refine wp_region_noPanic ?_
  refine wp_region_held_drew (S := fun w' => w'.cell? ⟨q, 1, none⟩ = some (.slice (some ⟨g, 0, none⟩) D.length dcp) ∧ w'.cell? ⟨q, 2 + E, none⟩ = some (.int .i64 (J : Int)) ∧ w'.cell? ⟨g, J * 2 + 1, none⟩ = some (.slice (some ⟨gr, 0, none⟩) R.length cr)) (by kernel_rfl) ?_ (fun hHeld => ?_)
  · (try dsimp only)
    exact ⟨hc4 1, hJ2, pR⟩
  refine wpAnyH_take (i := 0) (oi := { dst := some 52, op := Op.fieldAddr 29 (Operand.tmp 5) 1, type := 0, pos := "outright.go:272", after := #[], guard := none }) (v := ?_) rfl (by kernel_rfl) (by kernel_rfl) (by kernel_rfl) (fun _ _ _ h => h) (Or.inl ⟨by rfl, ?_⟩) (by assumption) ?_
  rotate_left
  · intro wz hSz; (try dsimp only at hSz); go_simp; all_goals (with_reducible rfl)
  (try simp only [Act.put, List.setIfInBounds_toArray, List.set_cons_zero, List.set_cons_succ])
  refine wpAnyH_take (i := 1) (oi := { dst := some 53, op := Op.load 23 (Operand.tmp 52), type := 23, pos := "outright.go:272", after := #[{ on := 0, ground := Ground.data }], guard := none }) (v := ?_) rfl (by kernel_rfl) (by kernel_rfl) (by kernel_rfl) (fun _ _ _ h => h) (Or.inl ⟨by rfl, ?_⟩) (by assumption) ?_
  rotate_left
  · intro wz hSz; (try dsimp only at hSz); go_simp; all_goals (with_reducible rfl)
  (try simp only [Act.put, List.setIfInBounds_toArray, List.set_cons_zero, List.set_cons_succ])
  refine wpAnyH_take (i := 2) (oi := { dst := some 54, op := Op.move (Operand.tmp 1), type := 3, pos := "outright.go:272", after := #[], guard := none }) (v := ?_) rfl (by kernel_rfl) (by kernel_rfl) (by kernel_rfl) (fun _ _ _ h => h) (Or.inl ⟨by rfl, ?_⟩) (by assumption) ?_
  rotate_left
  · intro wz hSz; (try dsimp only at hSz); go_simp; all_goals (with_reducible rfl)
  (try simp only [Act.put, List.setIfInBounds_toArray, List.set_cons_zero, List.set_cons_succ])
  refine wpAnyH_take (i := 3) (oi := { dst := some 55, op := Op.binOp BinOp.quo 3 (Operand.tmp 54) (Operand.const (Value.int IntKind.i64 1440)) 3, type := 3, pos := "outright.go:272", after := #[{ on := 2, ground := Ground.data }], guard := none }) (v := ?_) rfl (by kernel_rfl) (by kernel_rfl) (by kernel_rfl) (fun _ _ _ h => h) (Or.inl ⟨by rfl, ?_⟩) (by assumption) ?_
  rotate_left
  · intro wz hSz; (try dsimp only at hSz); go_simp; all_goals (with_reducible rfl)
  (try simp only [Act.put, List.setIfInBounds_toArray, List.set_cons_zero, List.set_cons_succ])
  refine wpAnyH_take (i := 4) (oi := { dst := some 56, op := Op.binOp BinOp.add 3 (Operand.tmp 55) (Operand.const (Value.int IntKind.i64 5)) 3, type := 3, pos := "outright.go:272", after := #[{ on := 3, ground := Ground.data }], guard := none }) (v := ?_) rfl (by kernel_rfl) (by kernel_rfl) (by kernel_rfl) (fun _ _ _ h => h) (Or.inl ⟨by rfl, ?_⟩) (by assumption) ?_
  rotate_left
  · intro wz hSz; (try dsimp only at hSz); go_simp; all_goals (with_reducible rfl)
  (try simp only [Act.put, List.setIfInBounds_toArray, List.set_cons_zero, List.set_cons_succ])
  refine wpAnyH_take (i := 5) (oi := { dst := some 57, op := Op.binOp BinOp.rem 3 (Operand.tmp 56) (Operand.const (Value.int IntKind.i64 7)) 3, type := 3, pos := "outright.go:272", after := #[{ on := 4, ground := Ground.data }], guard := none }) (v := ?_) rfl (by kernel_rfl) (by kernel_rfl) (by kernel_rfl) (fun _ _ _ h => h) (Or.inl ⟨by rfl, ?_⟩) (by assumption) ?_
  rotate_left
  · intro wz hSz; (try dsimp only at hSz); go_simp; all_goals (with_reducible rfl)
  (try simp only [Act.put, List.setIfInBounds_toArray, List.set_cons_zero, List.set_cons_succ])
  refine wpAnyH_take (i := 6) (oi := { dst := some 58, op := Op.fieldAddr 29 (Operand.tmp 5) 2, type := 0, pos := "outright.go:272", after := #[], guard := none }) (v := ?_) rfl (by kernel_rfl) (by kernel_rfl) (by kernel_rfl) (fun _ _ _ h => h) (Or.inl ⟨by rfl, ?_⟩) (by assumption) ?_
  rotate_left
  · intro wz hSz; (try dsimp only at hSz); go_simp; all_goals (with_reducible rfl)
  (try simp only [Act.put, List.setIfInBounds_toArray, List.set_cons_zero, List.set_cons_succ])
  refine wpAnyH_take (i := 7) (oi := { dst := some 59, op := Op.indexAddr 24 (Operand.tmp 58) (Operand.tmp 57), type := 0, pos := "outright.go:272", after := #[{ on := 6, ground := Ground.data }, { on := 5, ground := Ground.data }], guard := none }) (v := ?_) rfl (by kernel_rfl) (by kernel_rfl) (by kernel_rfl) (fun _ _ _ h => h) (Or.inl ⟨by rfl, ?_⟩) (by assumption) ?_
  rotate_left
  · intro wz hSz; (try dsimp only at hSz); go_simp; all_goals (with_reducible rfl)
  (try simp only [Act.put, List.setIfInBounds_toArray, List.set_cons_zero, List.set_cons_succ])
  refine wpAnyH_take (i := 8) (oi := { dst := some 60, op := Op.load 3 (Operand.tmp 59), type := 3, pos := "outright.go:272", after := #[{ on := 7, ground := Ground.data }], guard := none }) (v := ?_) rfl (by kernel_rfl) (by kernel_rfl) (by kernel_rfl) (fun _ _ _ h => h) (Or.inl ⟨by rfl, ?_⟩) (by assumption) ?_
  rotate_left
  · intro wz hSz; (try dsimp only at hSz); go_simp; all_goals (with_reducible rfl)
  (try simp only [Act.put, List.setIfInBounds_toArray, List.set_cons_zero, List.set_cons_succ])
  refine wpAnyH_take (i := 9) (oi := { dst := some 61, op := Op.indexAddr 23 (Operand.tmp 53) (Operand.tmp 60), type := 0, pos := "outright.go:272", after := #[{ on := 1, ground := Ground.data }, { on := 8, ground := Ground.data }], guard := none }) (v := ?_) rfl (by kernel_rfl) (by kernel_rfl) (by kernel_rfl) (fun _ _ _ h => h) (Or.inl ⟨by rfl, ?_⟩) (by assumption) ?_
  rotate_left
  · intro wz hSz; (try dsimp only at hSz); go_simp; all_goals (with_reducible rfl)
  (try simp only [Act.put, List.setIfInBounds_toArray, List.set_cons_zero, List.set_cons_succ])
  refine wpAnyH_take (i := 10) (oi := { dst := some 62, op := Op.fieldAddr 38 (Operand.tmp 61) 1, type := 0, pos := "outright.go:272", after := #[{ on := 9, ground := Ground.data }], guard := none }) (v := ?_) rfl (by kernel_rfl) (by kernel_rfl) (by kernel_rfl) (fun _ _ _ h => h) (Or.inl ⟨by rfl, ?_⟩) (by assumption) ?_
  rotate_left
  · intro wz hSz; (try dsimp only at hSz); go_simp; all_goals (with_reducible rfl)
  (try simp only [Act.put, List.setIfInBounds_toArray, List.set_cons_zero, List.set_cons_succ])
  refine wpAnyH_take (i := 11) (oi := { dst := some 63, op := Op.load 36 (Operand.tmp 62), type := 36, pos := "outright.go:272", after := #[{ on := 10, ground := Ground.data }], guard := none }) (v := ?_) rfl (by kernel_rfl) (by kernel_rfl) (by kernel_rfl) (fun _ _ _ h => h) (Or.inl ⟨by rfl, ?_⟩) (by assumption) ?_
  rotate_left
  · intro wz hSz; (try dsimp only at hSz); go_simp; all_goals (with_reducible rfl)
  (try simp only [Act.put, List.setIfInBounds_toArray, List.set_cons_zero, List.set_cons_succ])
  refine wpAnyH_take (i := 12) (oi := { dst := some 12, op := Op.assign (Operand.tmp 63), type := 36, pos := "outright.go:272", after := #[{ on := 11, ground := Ground.data }, { on := 0, ground := Ground.phase }, { on := 1, ground := Ground.phase }, { on := 2, ground := Ground.phase }, { on := 3, ground := Ground.phase }, { on := 4, ground := Ground.phase }, { on := 5, ground := Ground.phase }, { on := 6, ground := Ground.phase }, { on := 7, ground := Ground.phase }, { on := 8, ground := Ground.phase }, { on := 9, ground := Ground.phase }, { on := 10, ground := Ground.phase }, { on := 11, ground := Ground.phase }], guard := none }) (v := ?_) rfl (by kernel_rfl) (by kernel_rfl) (by kernel_rfl) (fun _ _ _ h => h) (Or.inl ⟨by rfl, ?_⟩) (by assumption) ?_
  rotate_left
  · intro wz hSz; (try dsimp only at hSz); go_simp; all_goals (with_reducible rfl)
  (try simp only [Act.put, List.setIfInBounds_toArray, List.set_cons_zero, List.set_cons_succ])
  refine wpAnyH_done (by kernel_rfl) ?_ _
  refine NoPanic.normal ?_
  go_wp2_with fail
  go_loopg [13] R.length (fun gk s13 wr => ∃ k : Nat, k + gk = R.length ∧ s13 = .int .i64 (k : Int) ∧ Hid (Below w4.heap.size w4 wr))
  case atStart => exact ⟨0, by omega, rfl, (Below.refl _ _).drew⟩
  case round =>
    clear hHeld
    obtain ⟨k, hk, rfl, hb⟩ := hrel
    have s0 : (0 : Int) ≤ (k : Int) := by omega
    by_cases hlt : k < R.length
    · have s1 : (k : Int) < (R.length : Int) := by omega
      have hsl : Hid (slF (tW D x0 x1 x2 x3 x4 x5 x6) (m / 1440 * 1440 + R[k].m) = R[k].s) := sl_rowR hrF.out (by omega) (by omega) hok'.out.2.2 k hlt (hok'.out.2.1 _ (List.getElem_mem hlt)).1 (hok'.out.2.1 _ (List.getElem_mem hlt)).2.2.1
      have hy := hok'.out.2.1 _ (List.getElem_mem hlt)
      have p0 := hR'.out k hlt 0 _ rfl
      have p1 := hR'.out k hlt 1 _ rfl
      rw [Nat.add_zero] at p0
      have p0' := (hb.out.cell (p := ⟨gr, k * 2, none⟩) hg4).trans p0
      have hcq := (hQ4.below hb.out).2.1
      generalize R[k] = y at *
      obtain ⟨ym, ys⟩ := y
      dsimp only at hsl hy p0 p1 p0'
      have s2 : IntKind.i64.wrap (m / 1440 * 1440) = m / 1440 * 1440 := wrap64 _ (by omega)
      have s3 : IntKind.i64.wrap (m / 1440 * 1440 + ym) = m / 1440 * 1440 + ym := wrap64 _ (by omega)
      go_wp2_with fail
      refine wp_region_noPanic ?_
      refine wp_region_held_drew (S := fun w' => (∀ ii, w'.cell? ⟨q, ii, none⟩ = (#[.string ⟨#[116, 105, 109, 101, 116, 97, 98, 108, 101]⟩, .slice (some ⟨g, 0, none⟩) D.length dcp, .int .i64 x0, .int .i64 x1, .int .i64 x2, .int .i64 x3, .int .i64 x4, .int .i64 x5, .int .i64 x6, .slice none 0 0, .slice none 0 0, .slice none 0 0] : Array Value)[ii]?) ∧ w'.cell? ⟨gr, k * 2, none⟩ = some (.int .i64 ym) ∧ Hid (Below w4.heap.size w4 w')) (by kernel_rfl) ?_ (fun hHeld => ?_)
      · (try dsimp only)
        exact ⟨hcq, p0', hb.out.drew⟩
      refine wpAnyH_take (i := 0) (oi := { dst := some 71, op := Op.load 29 (Operand.tmp 5), type := 29, pos := "outright.go:274", after := #[], guard := none }) (v := ?_) rfl (by kernel_rfl) (by kernel_rfl) (by kernel_rfl) (fun _ _ _ h => h) (Or.inl ⟨by rfl, ?_⟩) (by assumption) ?_
      rotate_left
      · intro wz hSz; (try dsimp only at hSz); go_simp; all_goals (with_reducible rfl)
      (try simp only [Act.put, List.setIfInBounds_toArray, List.set_cons_zero, List.set_cons_succ])
      refine wpAnyH_take (i := 1) (oi := { dst := some 72, op := Op.move (Operand.tmp 1), type := 3, pos := "outright.go:274", after := #[], guard := none }) (v := ?_) rfl (by kernel_rfl) (by kernel_rfl) (by kernel_rfl) (fun _ _ _ h => h) (Or.inl ⟨by rfl, ?_⟩) (by assumption) ?_
      rotate_left
      · intro wz hSz; (try dsimp only at hSz); go_simp; all_goals (with_reducible rfl)
      (try simp only [Act.put, List.setIfInBounds_toArray, List.set_cons_zero, List.set_cons_succ])
      refine wpAnyH_take (i := 2) (oi := { dst := some 73, op := Op.binOp BinOp.quo 3 (Operand.tmp 72) (Operand.const (Value.int IntKind.i64 1440)) 3, type := 3, pos := "outright.go:274", after := #[{ on := 1, ground := Ground.data }], guard := none }) (v := ?_) rfl (by kernel_rfl) (by kernel_rfl) (by kernel_rfl) (fun _ _ _ h => h) (Or.inl ⟨by rfl, ?_⟩) (by assumption) ?_
      rotate_left
      · intro wz hSz; (try dsimp only at hSz); go_simp; all_goals (with_reducible rfl)
      (try simp only [Act.put, List.setIfInBounds_toArray, List.set_cons_zero, List.set_cons_succ])
      refine wpAnyH_take (i := 3) (oi := { dst := some 74, op := Op.binOp BinOp.mul 3 (Operand.tmp 73) (Operand.const (Value.int IntKind.i64 1440)) 3, type := 3, pos := "outright.go:274", after := #[{ on := 2, ground := Ground.data }], guard := none }) (v := ?_) rfl (by kernel_rfl) (by kernel_rfl) (by kernel_rfl) (fun _ _ _ h => h) (Or.inl ⟨by rfl, ?_⟩) (by assumption) ?_
      rotate_left
      · intro wz hSz; (try dsimp only at hSz); go_simp; all_goals (with_reducible rfl)
      (try simp only [Act.put, List.setIfInBounds_toArray, List.set_cons_zero, List.set_cons_succ])
      refine wpAnyH_take (i := 4) (oi := { dst := some 75, op := Op.move (Operand.tmp 12), type := 36, pos := "outright.go:274", after := #[], guard := none }) (v := ?_) rfl (by kernel_rfl) (by kernel_rfl) (by kernel_rfl) (fun _ _ _ h => h) (Or.inl ⟨by rfl, ?_⟩) (by assumption) ?_
      rotate_left
      · intro wz hSz; (try dsimp only at hSz); go_simp; all_goals (with_reducible rfl)
      (try simp only [Act.put, List.setIfInBounds_toArray, List.set_cons_zero, List.set_cons_succ])
      refine wpAnyH_take (i := 5) (oi := { dst := some 76, op := Op.move (Operand.tmp 13), type := 3, pos := "outright.go:274", after := #[], guard := none }) (v := ?_) rfl (by kernel_rfl) (by kernel_rfl) (by kernel_rfl) (fun _ _ _ h => h) (Or.inl ⟨by rfl, ?_⟩) (by assumption) ?_
      rotate_left
      · intro wz hSz; (try dsimp only at hSz); go_simp; all_goals (with_reducible rfl)
      (try simp only [Act.put, List.setIfInBounds_toArray, List.set_cons_zero, List.set_cons_succ])
      refine wpAnyH_take (i := 6) (oi := { dst := some 77, op := Op.indexAddr 36 (Operand.tmp 75) (Operand.tmp 76), type := 0, pos := "outright.go:274", after := #[{ on := 4, ground := Ground.data }, { on := 5, ground := Ground.data }], guard := none }) (v := ?_) rfl (by kernel_rfl) (by kernel_rfl) (by kernel_rfl) (fun _ _ _ h => h) (Or.inl ⟨by rfl, ?_⟩) (by assumption) ?_
      rotate_left
      · intro wz hSz; (try dsimp only at hSz); go_simp; all_goals (with_reducible rfl)
      (try simp only [Act.put, List.setIfInBounds_toArray, List.set_cons_zero, List.set_cons_succ])
      refine wpAnyH_take (i := 7) (oi := { dst := some 78, op := Op.fieldAddr 40 (Operand.tmp 77) 0, type := 0, pos := "outright.go:274", after := #[{ on := 6, ground := Ground.data }], guard := none }) (v := ?_) rfl (by kernel_rfl) (by kernel_rfl) (by kernel_rfl) (fun _ _ _ h => h) (Or.inl ⟨by rfl, ?_⟩) (by assumption) ?_
      rotate_left
      · intro wz hSz; (try dsimp only at hSz); go_simp; all_goals (with_reducible rfl)
      (try simp only [Act.put, List.setIfInBounds_toArray, List.set_cons_zero, List.set_cons_succ])
      refine wpAnyH_take (i := 8) (oi := { dst := some 79, op := Op.load 3 (Operand.tmp 78), type := 3, pos := "outright.go:274", after := #[{ on := 7, ground := Ground.data }], guard := none }) (v := ?_) rfl (by kernel_rfl) (by kernel_rfl) (by kernel_rfl) (fun _ _ _ h => h) (Or.inl ⟨by rfl, ?_⟩) (by assumption) ?_
      rotate_left
      · intro wz hSz; (try dsimp only at hSz); go_simp; all_goals (with_reducible rfl)
      (try simp only [Act.put, List.setIfInBounds_toArray, List.set_cons_zero, List.set_cons_succ])
      refine wpAnyH_take (i := 9) (oi := { dst := some 80, op := Op.binOp BinOp.add 3 (Operand.tmp 74) (Operand.tmp 79) 3, type := 3, pos := "outright.go:274", after := #[{ on := 3, ground := Ground.data }, { on := 8, ground := Ground.data }], guard := none }) (v := ?_) rfl (by kernel_rfl) (by kernel_rfl) (by kernel_rfl) (fun _ _ _ h => h) (Or.inl ⟨by rfl, ?_⟩) (by assumption) ?_
      rotate_left
      · intro wz hSz; (try dsimp only at hSz); go_simp; all_goals (with_reducible rfl)
      (try simp only [Act.put, List.setIfInBounds_toArray, List.set_cons_zero, List.set_cons_succ])
      refine wpAnyH_ready (rs := [10]) (by kernel_rfl) (by simp) ?_
      refine AllReadyH.cons (o := { dst := some 81, op := Op.call { callee := Callee.value (Operand.func 7), args := #[Operand.tmp 71, Operand.tmp 80], argTypes := #[29, 3] }, type := 34, pos := "outright.go:274", after := #[{ on := 0, ground := Ground.data }, { on := 9, ground := Ground.data }], guard := none }) rfl (fun K hK => ?_) AllReadyH.nil
      go_simp
      go_at_call 7
      (with_reducible refine (at_w (hD4.below hHeld.2.2.out) rfl hn0 hn8 hxr (m / 1440 * 1440 + ym) (by omega) (by omega) ys hsl.out).mono ?_)
      rintro e w6 ⟨rfl, hb6⟩
      go_wp2_with fail
      refine hK.out _ _ ?_ (fun hHeld => ?_)
      · (try dsimp only)
        exact ⟨fun ii => (hb6.cell (p := ⟨q, ii, none⟩) (cell_ltF ((hHeld.1 0).trans rfl))).trans (hHeld.1 ii), (hb6.cell (p := ⟨gr, _, none⟩) (cell_ltF hHeld.2.1)).trans hHeld.2.1, belT hHeld.2.2.out hb6⟩
      clear hK K
      (try simp only [Act.put, List.setIfInBounds_toArray, List.set_cons_zero, List.set_cons_succ])
      refine wpAnyH_take (i := 11) (oi := { dst := some 70, op := Op.move (Operand.tmp 81), type := 34, pos := "outright.go:274", after := #[{ on := 10, ground := Ground.data }], guard := none }) (v := ?_) rfl (by kernel_rfl) (by kernel_rfl) (by kernel_rfl) (fun _ _ _ h => h) (Or.inl ⟨by rfl, ?_⟩) (by assumption) ?_
      rotate_left
      · intro wz hSz; (try dsimp only at hSz); go_simp; all_goals (with_reducible rfl)
      (try simp only [Act.put, List.setIfInBounds_toArray, List.set_cons_zero, List.set_cons_succ])
      refine wpAnyH_take (i := 12) (oi := { dst := some 82, op := Op.extract (Operand.tmp 70) 0, type := 3, pos := "outright.go:274", after := #[{ on := 11, ground := Ground.data }], guard := none }) (v := ?_) rfl (by kernel_rfl) (by kernel_rfl) (by kernel_rfl) (fun _ _ _ h => h) (Or.inl ⟨by rfl, ?_⟩) (by assumption) ?_
      rotate_left
      · intro wz hSz; (try dsimp only at hSz); go_simp; all_goals (with_reducible rfl)
      (try simp only [Act.put, List.setIfInBounds_toArray, List.set_cons_zero, List.set_cons_succ])
      refine wpAnyH_take (i := 13) (oi := { dst := some 83, op := Op.extract (Operand.tmp 70) 1, type := 33, pos := "outright.go:274", after := #[{ on := 11, ground := Ground.data }, { on := 14, ground := Ground.gcOnly Departure.lateStores }], guard := none }) (v := ?_) rfl (by kernel_rfl) (by kernel_rfl) (by kernel_rfl) (fun _ _ _ h => h) (Or.inl ⟨by rfl, ?_⟩) (by assumption) ?_
      rotate_left
      · intro wz hSz; (try dsimp only at hSz); go_simp; all_goals (with_reducible rfl)
      (try simp only [Act.put, List.setIfInBounds_toArray, List.set_cons_zero, List.set_cons_succ])
      refine wpAnyH_take (i := 14) (oi := { dst := some 14, op := Op.assign (Operand.tmp 82), type := 3, pos := "outright.go:274", after := #[{ on := 12, ground := Ground.data }, { on := 10, ground := Ground.chain }, { on := 0, ground := Ground.phase }, { on := 1, ground := Ground.phase }, { on := 2, ground := Ground.phase }, { on := 3, ground := Ground.phase }, { on := 4, ground := Ground.phase }, { on := 5, ground := Ground.phase }, { on := 6, ground := Ground.phase }, { on := 7, ground := Ground.phase }, { on := 8, ground := Ground.phase }, { on := 9, ground := Ground.phase }, { on := 10, ground := Ground.phase }, { on := 11, ground := Ground.phase }, { on := 12, ground := Ground.phase }, { on := 13, ground := Ground.textOnly Departure.lateStores }], guard := none }) (v := ?_) rfl (by kernel_rfl) (by kernel_rfl) (by kernel_rfl) (fun _ _ _ h => h) (Or.inl ⟨by rfl, ?_⟩) (by assumption) ?_
      rotate_left
      · intro wz hSz; (try dsimp only at hSz); go_simp; all_goals (with_reducible rfl)
      (try simp only [Act.put, List.setIfInBounds_toArray, List.set_cons_zero, List.set_cons_succ])
      refine wpAnyH_take (i := 15) (oi := { dst := some 15, op := Op.assign (Operand.tmp 83), type := 33, pos := "outright.go:274", after := #[{ on := 13, ground := Ground.data }, { on := 14, ground := Ground.chain }, { on := 0, ground := Ground.phase }, { on := 1, ground := Ground.phase }, { on := 2, ground := Ground.phase }, { on := 3, ground := Ground.phase }, { on := 4, ground := Ground.phase }, { on := 5, ground := Ground.phase }, { on := 6, ground := Ground.phase }, { on := 7, ground := Ground.phase }, { on := 8, ground := Ground.phase }, { on := 9, ground := Ground.phase }, { on := 10, ground := Ground.phase }, { on := 11, ground := Ground.phase }, { on := 12, ground := Ground.phase }, { on := 13, ground := Ground.phase }, { on := 14, ground := Ground.phase }], guard := none }) (v := ?_) rfl (by kernel_rfl) (by kernel_rfl) (by kernel_rfl) (fun _ _ _ h => h) (Or.inl ⟨by rfl, ?_⟩) (by assumption) ?_
      rotate_left
      · intro wz hSz; (try dsimp only at hSz); go_simp; all_goals (with_reducible rfl)
      (try simp only [Act.put, List.setIfInBounds_toArray, List.set_cons_zero, List.set_cons_succ])
      refine wpAnyH_done (by kernel_rfl) ?_ _
      refine NoPanic.normal ?_
      obtain ⟨_, _, hb6'⟩ := hHeld
      have p1' := (hb6'.out.cell (p := ⟨gr, k * 2 + 1, none⟩) hg4).trans p1
      go_wp2_with fail
      go_roundg (gk - 1)
      case measure => go_light; omega
      case rel => exact ⟨k + 1, by omega, by go_num, hb6'⟩
    · obtain rfl : k = R.length := by omega
      have s1 : ¬ (R.length : Int) < (R.length : Int) := by omega
      go_wp2_with fail
      go_ret
      exact ⟨rfl, belT hB4 hb.out⟩
end Go.Proofs.Ytjocedfdpigjcaa
