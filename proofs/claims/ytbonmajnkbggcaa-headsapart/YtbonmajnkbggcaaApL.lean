import Derived.Test.YtbonmajnkbggcaaApR
import Derived.Test.YtbonmajnkbggcaaRuC
import Derived.Test.YtbonmajnkbggcaaApG
import Derived.Test.YtbonmajnkbggcaaGrE
import Derived.Test.YtbonmajnkbggcaaSfA
import Derived.Deep.RegionHeld3
import Derived.Laws.Bits64
import Derived.Laws.Bits64b
namespace Go.Proofs.Ytbonmajnkbggcaa
open Go.RowKit
set_option linter.unusedVariables false


theorem pic_at {w : World} {base g c n j : Nat} {G : List Gp} {C : List Cf} {M : List Nat} (h : w.ownsRow base 9 1 (.slice (some ⟨g, 0, none⟩) (n + 1) c) (n + 1) (picsF G C M n)) (hj : j < n + 1) : w.cell? ⟨g, j, none⟩ = some (.string (picF G C M j)) := by
  have hc := h.cellAt j (show j < (n + 1) * 1 by omega)
  refine hc.trans ?_
  unfold picsF
  rw [List.getElem?_map, List.getElem?_range hj]; rfl
theorem pic_size (G : List Gp) (C : List Cf) (M : List Nat) (j : Nat) : (picF G C M j).size = G.length := by unfold picF; rw [showS_size, lst_len]
theorem cellsF_app {α : Type} {cs : α → List Value} (S T : List α) : cellsF cs (S ++ T) = cellsF cs S ++ cellsF cs T := by unfold cellsF; rw [List.flatMap_append]

theorem info26a : (Try.prog.info? 26).map (fun i => (i.zero, i.size, i.bytes)) = some (some (.int .u64 0), 1, 8) := by kernel_rfl
/-- The wants of the whole, one behind the other. -/
def mskL (n : Nat) (L R : List Nat) (k : Nat) : List Nat := (List.range k).map fun j => mskF n (L.getD j 0) (R.getD j 0)
theorem mskL_len (n : Nat) (L R : List Nat) (k : Nat) : (mskL n L R k).length = k := by simp [mskL]
theorem mskL_snoc {n k : Nat} {L R : List Nat} (h1 : k < L.length) (h2 : k < R.length) : cellsF u64 (mskL n L R k) ++ [.int .u64 ((mskF n L[k] R[k] : Nat) : Int)] = cellsF u64 (mskL n L R (k + 1)) := by
  unfold mskL
  rw [List.range_succ, List.map_append]
  unfold cellsF
  rw [List.flatMap_append]
  have e1 : L.getD k 0 = L[k] := by simp [List.getD_eq_getElem?_getD, h1]
  have e2 : R.getD k 0 = R[k] := by simp [List.getD_eq_getElem?_getD, h2]
  simp only [List.map_cons, List.map_nil, e1, e2]
  rfl
theorem mskL_get {n : Nat} {L R : List Nat} (k : Nat) (h : k < L.length) : (mskL n L R L.length).getD k 0 = mskF n (L.getD k 0) (R.getD k 0) := by
  unfold mskL
  simp [List.getD_eq_getElem?_getD, List.getElem?_range h]
theorem mskL_out {n : Nat} {L R : List Nat} (k : Nat) (h : ¬ k < L.length) : (mskL n L R L.length).getD k 0 = 0 := by
  unfold mskL
  have : (List.range L.length)[k]? = none := by rw [List.getElem?_eq_none]; simpa using h
  simp [List.getD_eq_getElem?_getD, this]
theorem getD_out {L : List Nat} (k : Nat) (h : ¬ k < L.length) : L.getD k 0 = 0 := by
  have : L[k]? = none := by rw [List.getElem?_eq_none]; omega
  simp [List.getD_eq_getElem?_getD, this]
theorem mskL_low {n : Nat} {L R : List Nat} (k j : Nat) (hj : j < n) : ((mskL n L R L.length).getD k 0).testBit j = (L.getD k 0).testBit j := by
  by_cases h : k < L.length
  · rw [mskL_get k h]; exact mskF_low hj
  · rw [mskL_out k h, getD_out k h]
theorem mskL_high {n m : Nat} {L R : List Nat} (e : L.length = R.length) (hl : n + m ≤ 64) (k j : Nat) (hj : j < m) : ((mskL n L R L.length).getD k 0).testBit (n + j) = (R.getD k 0).testBit j := by
  by_cases h : k < L.length
  · rw [mskL_get k h]; exact mskF_high hj hl
  · rw [mskL_out k h, getD_out k (by omega)]; simp
theorem whole_eq {n a b : Nat} (hn : n ≤ 63) (ha : a < 18446744073709551616) : bits .or .u64 (bits .and .u64 (a : Int) (IntKind.u64.wrap (IntKind.u64.wrap ((2 : Int) ^ n) - 1))) (IntKind.u64.wrap ((b : Int) * 2 ^ n)) = ((mskF n a b : Nat) : Int) := by
  have e : ((2 : Int) ^ n) = ((2 ^ n : Nat) : Int) := by simp
  have hp := pow_lt (k := n) (by omega)
  have h0 : 0 < 2 ^ n := Nat.two_pow_pos n
  have e1 : IntKind.u64.wrap ((2 ^ n : Nat) : Int) = ((2 ^ n : Nat) : Int) := by
    rw [IntKind.wrap_u64]
    generalize 2 ^ n = z at *
    omega
  have e2 : IntKind.u64.wrap (((2 ^ n : Nat) : Int) - 1) = ((2 ^ n - 1 : Nat) : Int) := by
    rw [IntKind.wrap_u64]
    generalize 2 ^ n = z at *
    omega
  have e3 : IntKind.u64.wrap ((b : Int) * 2 ^ n) = ((b * 2 ^ n % 2 ^ 64 : Nat) : Int) := by
    have e : ((b : Int) * 2 ^ n) = ((b * 2 ^ n : Nat) : Int) := by simp
    rw [e, IntKind.wrap_u64]
    generalize b * 2 ^ n = z
    have : (2 : Nat) ^ 64 = 18446744073709551616 := rfl
    rw [this]
    omega
  have e4 : bits .and .u64 (a : Int) ((2 ^ n - 1 : Nat) : Int) = ((a &&& (2 ^ n - 1) : Nat) : Int) := bits_and_u64_nat a (2 ^ n - 1) ha (by omega)
  rw [e3, e, e1, e2, e4]
  exact bits_or_u64_nat _ _ (Nat.lt_of_le_of_lt Nat.and_le_left ha) (Nat.mod_lt _ (Nat.two_pow_pos 64))

def keyP : Option Cf → Int
  | none => 0
  | some b => b.a * 64 + b.b + 1
theorem rows_few {n : Nat} (hn : n ≤ 64) : ∀ {C : List Cf} {p : Option Cf}, rowsB n p C = true → (∀ b, p = some b → 0 ≤ b.a ∧ b.a < 64 ∧ 0 ≤ b.b ∧ b.b < 64) → (C.length : Int) + keyP p ≤ 4096 := by
  intro C
  induction C with
  | nil =>
    intro p _ hp
    cases p with
    | none => simp [keyP]
    | some b => have := hp b rfl; simp [keyP]; omega
  | cons c cs ih =>
    intro p h hp
    unfold rowsB at h
    simp only [Bool.and_eq_true] at h
    have hc := h.1.1
    unfold cfB at hc
    simp only [Bool.and_eq_true, decide_eq_true_eq] at hc
    have := ih h.2 (fun b hb => by cases hb; omega)
    have ho := h.1.2
    simp only [List.length_cons]
    cases p with
    | none => simp [keyP] at this ⊢; omega
    | some b =>
      have hb := hp b rfl
      unfold ordP ordB at ho
      simp only [Bool.or_eq_true, Bool.and_eq_true, decide_eq_true_eq] at ho
      simp [keyP] at this ⊢
      omega
theorem grid_few {G : List Gp} {C : List Cf} (h : gridB G C = true) : C.length ≤ 4096 := by
  have h64 := grid_len h
  unfold gridB at h
  simp only [Bool.and_eq_true] at h
  have := rows_few h64 h.2.2 (fun b hb => by cases hb)
  simp [keyP] at this
  omega

theorem Fl.row {α : Type} {sz : Nat} {cs : α → List Value} (hl : ∀ x, (cs x).length = sz) {w : World} {base e n : Nat} {v : Value} {L : List α} (h : w.ownsRow base e sz v n (cellsF cs L)) (hn : n = L.length) : Fl sz cs w v L := by
  subst hn
  rcases h.2 with ⟨rfl, h0⟩ | ⟨g, cap, cur, rfl, _, _, h4, _⟩
  · exact .inl ⟨rfl, List.length_eq_zero_iff.1 h0⟩
  · have := Fl.own hl h (own_lt h g rfl).2 (Nat.le_refl _) h4
    rw [List.take_length] at this
    exact this
theorem cells_snoc {k n : Nat} {Cs Ct : List Cf} (h : k < Ct.length) : cellsF Cf.cs (Cs ++ (Ct.take k).map (Cf.up n)) ++ [.int .i64 (Ct[k].a + n), .int .i64 (Ct[k].b + n), .int .i64 Ct[k].ab, .int .i64 Ct[k].ba] = cellsF Cf.cs (Cs ++ (Ct.take (k + 1)).map (Cf.up n)) := by
  rw [List.take_succ_eq_append_getElem h, List.map_append, ← List.append_assoc]
  unfold cellsF
  rw [List.flatMap_append (xs := Cs ++ _)]
  rfl
set_option maxRecDepth 100000 in
set_option maxHeartbeats 4000000 in
theorem aparts (S T : List Gp) (Cs Ct : List Cf) (L R : List Nat) (u1 u2 u3 u4 v1 v2 : Value) (w : World) (h1 : Fl 5 Gp.cs w u1 S) (h2 : Fl 4 Cf.cs w u2 Cs) (h3 : Fl 5 Gp.cs w u3 T) (h4 : Fl 4 Cf.cs w u4 Ct) (h5 : Fl 1 u64 w v1 L) (h6 : Fl 1 u64 w v2 R) (lS : S.length ≤ 2932031007317) (lCs : Cs.length ≤ 4398046511000) (lT : T.length ≤ 2932031007317) (lCt : Ct.length ≤ 4398046511000) (lL : L.length ≤ 17592186044000) (lR : R.length ≤ 17592186044000) (hL : ∀ x ∈ L, x < 18446744073709551616) (hR : ∀ x ∈ R, x < 18446744073709551616) :
    Calls Try.prog 5 #[.agg #[u1, u2], .agg #[u3, u4], v1, v2] w fun e w' => e = .returned (.bool true) ∧ Below w.heap.size w w' := by
  have kS := fun (X : World) (hX : Below w.heap.size w X) => ref7Grid_any S Cs u1 u2 X (h1.below hX) (h2.below hX) lS lCs
  have kT := fun (X : World) (hX : Below w.heap.size w X) => ref7Grid_any T Ct u3 u4 X (h3.below hX) (h4.below hX) lT lCt
  have kA := fun (hg : gridB S Cs = true) (X : World) (hX : Below w.heap.size w X) => run_ok S Cs L u1 u2 v1 X (h1.below hX) (h2.below hX) (h5.below hX) lS lCs lL hL hg
  have kB := fun (hg : gridB T Ct = true) (X : World) (hX : Below w.heap.size w X) => run_ok T Ct R u3 u4 v2 X (h3.below hX) (h4.below hX) (h6.below hX) lT lCt lR hR hg
  have f1 := fun (X : World) (hX : Below w.heap.size w X) => h1.below hX
  have f2 := fun (X : World) (hX : Below w.heap.size w X) => h2.below hX
  have f3 := fun (X : World) (hX : Below w.heap.size w X) => h3.below hX
  obtain ⟨va, ca, rfl, -⟩ := h1.any
  obtain ⟨vc, cc, rfl, -⟩ := h2.any
  obtain ⟨vt, ct, rfl, -⟩ := h3.any
  obtain ⟨vd, cd, rfl, kD⟩ := h4.any
  obtain ⟨vL, cL, rfl, kL⟩ := h5.nums
  obtain ⟨vR, cR, rfl, kR⟩ := h6.nums
  have B0 : Has ((w.alloc (.cells #[.slice va S.length ca, .slice vc Cs.length cc] 25)).alloc (.cells #[.slice vt T.length ct, .slice vd Ct.length cd] 25)) w.heap.size #[.slice va S.length ca, .slice vc Cs.length cc] := (Has.new _ _ _ rfl).alloc _
  have B1 : Has ((w.alloc (.cells #[.slice va S.length ca, .slice vc Cs.length cc] 25)).alloc (.cells #[.slice vt T.length ct, .slice vd Ct.length cd] 25)) (w.heap.size + 1) #[.slice vt T.length ct, .slice vd Ct.length cd] := Has.new _ _ _ (by simp)
  have hb0 : Below w.heap.size w ((w.alloc (.cells #[.slice va S.length ca, .slice vc Cs.length cc] 25)).alloc (.cells #[.slice vt T.length ct, .slice vd Ct.length cd] 25)) := belA
  clear h1 h2 h3 h4 h5 h6
  go_enter Try.func5, Try.ntmps5
  go_upto_region 1 with fail
  generalize ((w.alloc (.cells #[.slice va S.length ca, .slice vc Cs.length cc] 25)).alloc (.cells #[.slice vt T.length ct, .slice vd Ct.length cd] 25)) = W0 at *
  refine wp_region_noPanic ?_
  refine wp_region_held_drew (S := fun w' => w'.cell? ⟨w.heap.size, 0, none⟩ = some (.slice va S.length ca) ∧ w'.cell? ⟨w.heap.size + 1, 0, none⟩ = some (.slice vt T.length ct)) (by kernel_rfl) ?_ (fun hHeld => ?_)
  · (try dsimp only)
    exact ⟨B0.drew.2.1 0, B1.drew.2.1 0⟩
  refine wpAnyH_take (i := 0) (oi := { dst := some 24, op := Op.fieldAddr 25 (Operand.tmp 4) 0, type := 0, pos := "headssafe.go:256", after := #[], guard := none }) (v := ?_) rfl (by kernel_rfl) (by kernel_rfl) (by kernel_rfl) (fun _ _ _ h => h) (Or.inl ⟨by rfl, ?_⟩) (by assumption) ?_
  rotate_left
  · intro wz hSz; (try dsimp only at hSz); go_simp; all_goals (with_reducible rfl)
  (try simp only [Act.put, List.setIfInBounds_toArray, List.set_cons_zero, List.set_cons_succ])
  refine wpAnyH_take (i := 1) (oi := { dst := some 25, op := Op.load 22 (Operand.tmp 24), type := 22, pos := "headssafe.go:256", after := #[{ on := 0, ground := Ground.data }], guard := none }) (v := ?_) rfl (by kernel_rfl) (by kernel_rfl) (by kernel_rfl) (fun _ _ _ h => h) (Or.inl ⟨by rfl, ?_⟩) (by assumption) ?_
  rotate_left
  · intro wz hSz; (try dsimp only at hSz); go_simp; all_goals (with_reducible rfl)
  (try simp only [Act.put, List.setIfInBounds_toArray, List.set_cons_zero, List.set_cons_succ])
  refine wpAnyH_take (i := 2) (oi := { dst := some 26, op := Op.call { callee := Callee.builtin Builtin.len, args := #[Operand.tmp 25], argTypes := #[22] }, type := 3, pos := "headssafe.go:256", after := #[{ on := 1, ground := Ground.data }], guard := none }) (v := ?_) rfl (by kernel_rfl) (by kernel_rfl) (by kernel_rfl) (fun _ _ _ h => h) (Or.inl ⟨by rfl, ?_⟩) (by assumption) ?_
  rotate_left
  · intro wz hSz; (try dsimp only at hSz); go_simp; all_goals (with_reducible rfl)
  (try simp only [Act.put, List.setIfInBounds_toArray, List.set_cons_zero, List.set_cons_succ])
  refine wpAnyH_take (i := 3) (oi := { dst := some 27, op := Op.fieldAddr 25 (Operand.tmp 5) 0, type := 0, pos := "headssafe.go:256", after := #[], guard := none }) (v := ?_) rfl (by kernel_rfl) (by kernel_rfl) (by kernel_rfl) (fun _ _ _ h => h) (Or.inl ⟨by rfl, ?_⟩) (by assumption) ?_
  rotate_left
  · intro wz hSz; (try dsimp only at hSz); go_simp; all_goals (with_reducible rfl)
  (try simp only [Act.put, List.setIfInBounds_toArray, List.set_cons_zero, List.set_cons_succ])
  refine wpAnyH_take (i := 4) (oi := { dst := some 28, op := Op.load 22 (Operand.tmp 27), type := 22, pos := "headssafe.go:256", after := #[{ on := 3, ground := Ground.data }], guard := none }) (v := ?_) rfl (by kernel_rfl) (by kernel_rfl) (by kernel_rfl) (fun _ _ _ h => h) (Or.inl ⟨by rfl, ?_⟩) (by assumption) ?_
  rotate_left
  · intro wz hSz; (try dsimp only at hSz); go_simp; all_goals (with_reducible rfl)
  (try simp only [Act.put, List.setIfInBounds_toArray, List.set_cons_zero, List.set_cons_succ])
  refine wpAnyH_take (i := 5) (oi := { dst := some 29, op := Op.call { callee := Callee.builtin Builtin.len, args := #[Operand.tmp 28], argTypes := #[22] }, type := 3, pos := "headssafe.go:256", after := #[{ on := 4, ground := Ground.data }], guard := none }) (v := ?_) rfl (by kernel_rfl) (by kernel_rfl) (by kernel_rfl) (fun _ _ _ h => h) (Or.inl ⟨by rfl, ?_⟩) (by assumption) ?_
  rotate_left
  · intro wz hSz; (try dsimp only at hSz); go_simp; all_goals (with_reducible rfl)
  (try simp only [Act.put, List.setIfInBounds_toArray, List.set_cons_zero, List.set_cons_succ])
  refine wpAnyH_take (i := 6) (oi := { dst := some 9, op := Op.assign (Operand.tmp 26), type := 3, pos := "headssafe.go:256", after := #[{ on := 2, ground := Ground.data }, { on := 0, ground := Ground.phase }, { on := 1, ground := Ground.phase }, { on := 2, ground := Ground.phase }, { on := 3, ground := Ground.textOnly Departure.lateStores }, { on := 4, ground := Ground.textOnly Departure.lateStores }, { on := 5, ground := Ground.textOnly Departure.lateStoresUnsure }], guard := none }) (v := ?_) rfl (by kernel_rfl) (by kernel_rfl) (by kernel_rfl) (fun _ _ _ h => h) (Or.inl ⟨by rfl, ?_⟩) (by assumption) ?_
  rotate_left
  · intro wz hSz; (try dsimp only at hSz); go_simp; all_goals (with_reducible rfl)
  (try simp only [Act.put, List.setIfInBounds_toArray, List.set_cons_zero, List.set_cons_succ])
  refine wpAnyH_take (i := 7) (oi := { dst := some 10, op := Op.assign (Operand.tmp 29), type := 3, pos := "headssafe.go:256", after := #[{ on := 5, ground := Ground.data }, { on := 6, ground := Ground.chain }, { on := 0, ground := Ground.phase }, { on := 1, ground := Ground.phase }, { on := 2, ground := Ground.phase }, { on := 3, ground := Ground.phase }, { on := 4, ground := Ground.phase }, { on := 5, ground := Ground.phase }, { on := 6, ground := Ground.phase }], guard := none }) (v := ?_) rfl (by kernel_rfl) (by kernel_rfl) (by kernel_rfl) (fun _ _ _ h => h) (Or.inl ⟨by rfl, ?_⟩) (by assumption) ?_
  rotate_left
  · intro wz hSz; (try dsimp only at hSz); go_simp; all_goals (with_reducible rfl)
  (try simp only [Act.put, List.setIfInBounds_toArray, List.set_cons_zero, List.set_cons_succ])
  refine wpAnyH_done (by kernel_rfl) ?_ _
  refine NoPanic.normal ?_
  replace B0 := B0.drew
  replace B1 := B1.drew
  replace hb0 := hb0.drew
  generalize W0.drew = Y0 at *
  obtain ⟨_, b0c, _⟩ := id B0
  have w1 : IntKind.i64.wrap ((S.length : Int) + (T.length : Int)) = (S.length : Int) + (T.length : Int) := wrap64 _ (by omega)
  cases hgS : gridB S Cs with
  | false =>
    rw [hgS] at kS
    clear kT kA kB f1 f2 f3 kD kL kR
    go_wp2_with (go_at_call 21; (with_reducible refine Calls.mono (kS _ (by exact hb0)) ?_); rintro e y1 ⟨rfl, hy1⟩; have hb1 := bel_after hb0 hb0.size hy1; have P1 := B0.below hy1; have P2 := B1.below hy1; obtain ⟨_, p1c, _⟩ := id P2; clear hy1)
    go_ret
    exact ⟨rfl, hb1⟩
  | true =>
    rw [hgS] at kS
    cases hgT : gridB T Ct with
    | false =>
      rw [hgT] at kT
      clear kA kB f1 f2 f3 kD kL kR
      go_wp2_with (first | (go_at_call 21; (with_reducible refine Calls.mono (kS _ (by exact hb0)) ?_); rintro e y1 ⟨rfl, hy1⟩; have hb1 := bel_after hb0 hb0.size hy1; have P1 := B0.below hy1; have P2 := B1.below hy1; obtain ⟨_, p1c, _⟩ := id P2; clear hy1) | (go_at_call 21; (with_reducible refine Calls.mono (kT _ (by exact hb1)) ?_); rintro e y2 ⟨rfl, hy2⟩; have hb2 := bel_after hb1 hb1.size hy2; have Q1 := P1.below hy2; have Q2 := P2.below hy2; clear hy2))
      go_ret
      exact ⟨rfl, hb2⟩
    | true =>
      rw [hgT] at kT
      have lS' := grid_len hgS
      have lT' := grid_len hgT
      by_cases c1 : (64 : Int) < (S.length : Int) + (T.length : Int)
      · clear kA kB f1 f2 f3 kD kL kR
        go_wp2_with (first | (go_at_call 21; (with_reducible refine Calls.mono (kS _ (by exact hb0)) ?_); rintro e y1 ⟨rfl, hy1⟩; have hb1 := bel_after hb0 hb0.size hy1; have P1 := B0.below hy1; have P2 := B1.below hy1; obtain ⟨_, p1c, _⟩ := id P2; clear hy1) | (go_at_call 21; (with_reducible refine Calls.mono (kT _ (by exact hb1)) ?_); rintro e y2 ⟨rfl, hy2⟩; have hb2 := bel_after hb1 hb1.size hy2; have Q1 := P1.below hy2; have Q2 := P2.below hy2; clear hy2))
        go_ret
        exact ⟨rfl, hb2⟩
      · by_cases c2 : (63 : Int) < (S.length : Int)
        · clear kA kB f1 f2 f3 kD kL kR
          go_wp2_with (first | (go_at_call 21; (with_reducible refine Calls.mono (kS _ (by exact hb0)) ?_); rintro e y1 ⟨rfl, hy1⟩; have hb1 := bel_after hb0 hb0.size hy1; have P1 := B0.below hy1; have P2 := B1.below hy1; obtain ⟨_, p1c, _⟩ := id P2; clear hy1) | (go_at_call 21; (with_reducible refine Calls.mono (kT _ (by exact hb1)) ?_); rintro e y2 ⟨rfl, hy2⟩; have hb2 := bel_after hb1 hb1.size hy2; have Q1 := P1.below hy2; have Q2 := P2.below hy2; clear hy2))
          go_ret
          exact ⟨rfl, hb2⟩
        · by_cases c3 : (L.length : Int) = (R.length : Int)
          case neg =>
            have c3' : ((L.length : Int) != (R.length : Int)) = true := by simpa using c3
            clear kA kB f1 f2 f3 kD kL kR
            go_wp2_with (first | (go_at_call 21; (with_reducible refine Calls.mono (kS _ (by exact hb0)) ?_); rintro e y1 ⟨rfl, hy1⟩; have hb1 := bel_after hb0 hb0.size hy1; have P1 := B0.below hy1; have P2 := B1.below hy1; obtain ⟨_, p1c, _⟩ := id P2; clear hy1) | (go_at_call 21; (with_reducible refine Calls.mono (kT _ (by exact hb1)) ?_); rintro e y2 ⟨rfl, hy2⟩; have hb2 := bel_after hb1 hb1.size hy2; have Q1 := P1.below hy2; have Q2 := P2.below hy2; clear hy2))
            go_ret
            exact ⟨rfl, hb2⟩
          case pos =>
            go_upto_region 4 with (first | (go_at_call 21; (with_reducible refine Calls.mono (kS _ (by exact hb0)) ?_); rintro e y1 ⟨rfl, hy1⟩; have hb1 := bel_after hb0 hb0.size hy1; have P1 := B0.below hy1; have P2 := B1.below hy1; obtain ⟨_, p1c, _⟩ := id P2; clear hy1) | (go_at_call 21; (with_reducible refine Calls.mono (kT _ (by exact hb1)) ?_); rintro e y2 ⟨rfl, hy2⟩; have hb2 := bel_after hb1 hb1.size hy2; have Q1 := P1.below hy2; have Q2 := P2.below hy2; clear hy2))
            clear kS kT b0c p1c B0 B1 P1 P2 hb0 hb1
            refine wp_region_noPanic ?_
            refine wp_region_held_drew (S := fun w' => (w'.cell? ⟨w.heap.size, 0, none⟩ = some (.slice va S.length ca) ∧ w'.cell? ⟨w.heap.size, 1, none⟩ = some (.slice vc Cs.length cc)) ∧ w'.cell? ⟨w.heap.size + 1, 0, none⟩ = some (.slice vt T.length ct)) (by kernel_rfl) ?_ (fun hHeld => ?_)
            · (try dsimp only)
              exact ⟨⟨Q1.drew.2.1 0, Q1.drew.2.1 1⟩, Q2.drew.2.1 0⟩
            refine wpAnyH_take (i := 0) (oi := { dst := some 55, op := Op.fieldAddr 25 (Operand.tmp 4) 0, type := 0, pos := "headssafe.go:260", after := #[], guard := none }) (v := ?_) rfl (by kernel_rfl) (by kernel_rfl) (by kernel_rfl) (fun _ _ _ h => h) (Or.inl ⟨by rfl, ?_⟩) (by assumption) ?_
            rotate_left
            · intro wz hSz; (try dsimp only at hSz); go_simp; all_goals (with_reducible rfl)
            (try simp only [Act.put, List.setIfInBounds_toArray, List.set_cons_zero, List.set_cons_succ])
            refine wpAnyH_take (i := 1) (oi := { dst := some 56, op := Op.load 22 (Operand.tmp 55), type := 22, pos := "headssafe.go:260", after := #[{ on := 0, ground := Ground.data }], guard := none }) (v := ?_) rfl (by kernel_rfl) (by kernel_rfl) (by kernel_rfl) (fun _ _ _ h => h) (Or.inl ⟨by rfl, ?_⟩) (by assumption) ?_
            rotate_left
            · intro wz hSz; (try dsimp only at hSz); go_simp; all_goals (with_reducible rfl)
            (try simp only [Act.put, List.setIfInBounds_toArray, List.set_cons_zero, List.set_cons_succ])
            refine wpAnyH_take (i := 3) (oi := { dst := some 58, op := Op.fieldAddr 25 (Operand.tmp 5) 0, type := 0, pos := "headssafe.go:260", after := #[], guard := none }) (v := ?_) rfl (by kernel_rfl) (by kernel_rfl) (by kernel_rfl) (fun _ _ _ h => h) (Or.inl ⟨by rfl, ?_⟩) (by assumption) ?_
            rotate_left
            · intro wz hSz; (try dsimp only at hSz); go_simp; all_goals (with_reducible rfl)
            (try simp only [Act.put, List.setIfInBounds_toArray, List.set_cons_zero, List.set_cons_succ])
            refine wpAnyH_take (i := 4) (oi := { dst := some 59, op := Op.load 22 (Operand.tmp 58), type := 22, pos := "headssafe.go:260", after := #[{ on := 3, ground := Ground.data }], guard := none }) (v := ?_) rfl (by kernel_rfl) (by kernel_rfl) (by kernel_rfl) (fun _ _ _ h => h) (Or.inl ⟨by rfl, ?_⟩) (by assumption) ?_
            rotate_left
            · intro wz hSz; (try dsimp only at hSz); go_simp; all_goals (with_reducible rfl)
            (try simp only [Act.put, List.setIfInBounds_toArray, List.set_cons_zero, List.set_cons_succ])
            refine wpAnyH_take (i := 6) (oi := { dst := some 61, op := Op.fieldAddr 25 (Operand.tmp 4) 1, type := 0, pos := "headssafe.go:260", after := #[], guard := none }) (v := ?_) rfl (by kernel_rfl) (by kernel_rfl) (by kernel_rfl) (fun _ _ _ h => h) (Or.inl ⟨by rfl, ?_⟩) (by assumption) ?_
            rotate_left
            · intro wz hSz; (try dsimp only at hSz); go_simp; all_goals (with_reducible rfl)
            (try simp only [Act.put, List.setIfInBounds_toArray, List.set_cons_zero, List.set_cons_succ])
            refine wpAnyH_take (i := 7) (oi := { dst := some 62, op := Op.load 23 (Operand.tmp 61), type := 23, pos := "headssafe.go:260", after := #[{ on := 6, ground := Ground.data }], guard := none }) (v := ?_) rfl (by kernel_rfl) (by kernel_rfl) (by kernel_rfl) (fun _ _ _ h => h) (Or.inl ⟨by rfl, ?_⟩) (by assumption) ?_
            rotate_left
            · intro wz hSz; (try dsimp only at hSz); go_simp; all_goals (with_reducible rfl)
            (try simp only [Act.put, List.setIfInBounds_toArray, List.set_cons_zero, List.set_cons_succ])
            clear hHeld
            have zz : w.heap.size + 2 ≤ y2.drew.heap.size := Q2.drew.1
            refine reg4 S T Cs y2.drew w.heap.size _ _ _ _ _ _ _ _ _ _ _ _ _ _ _ _ _ _ _ _ _ _ _ _ _ _ _ _ _ _ _ _ _ _ _ _ _ _ _ _ _ _ _ _ zz lS' lT' lCs va vt vc ca ct cc rfl rfl rfl (fun X hX => fl_src gp_len (by decide) (f1 X (bel_after hb2.drew hb2.drew.size hX))) (fun X hX => fl_src gp_len (by decide) (f3 X (bel_after hb2.drew hb2.drew.size hX))) (fun X hX => fl_src cf_len (by decide) (f2 X (bel_after hb2.drew hb2.drew.size hX))) Q1.drew Q2.drew _ _ (fun X q1 q2 => ⟨⟨q1.2.1 0, q1.2.1 1⟩, q2.2.1 0⟩) ?_ _ (of_decide_eq_true (by kernel_rfl))
            intro a2 a3 c2' c3' p X hbX oG oC HX hp nG nC Q3 Q4 x57 x64
            refine NoPanic.normal ?_
            have hcf := grid_cf hgT
            have lC1 := grid_few hgS
            have lC2 := grid_few hgT
            have hbw := bel_after hb2.drew hb2.drew.size hbX
            have gp' : ∀ q, (Value.slice a2 (S.length + T.length) c2').ownBlock = some q → q ≠ p := fun q hq => (nG q hq).1
            obtain ⟨Bb, eB⟩ : ∃ Bb, Bb = y2.drew.heap.size := ⟨_, rfl⟩
            rw [← eB] at zz oG oC hp
            clear eB hbX hb2 Q1 Q2
            obtain ⟨ti, hi, hi0, hi1, hi2⟩ := info_parts info49a
            go_wp2_with fail
            go_loopw [12] (fun t wr => ∃ (k : Nat) (a3 : Option Addr) (c3 : Nat), k ≤ Ct.length ∧ t = .int .i64 (k : Int) ∧ Hid (wr.ownsRow Bb 49 4 (.slice a3 (Cs.length + k) c3) (Cs.length + k) (cellsF Cf.cs (Cs ++ (Ct.take k).map (Cf.up S.length)))) ∧ Hid (Has wr p #[(.slice a2 (S.length + T.length) c2'), (.slice a3 (Cs.length + k) c3)]) ∧ Hid (wr.ownsRow Bb 58 5 (.slice a2 (S.length + T.length) c2') (S.length + T.length) (cellsF Gp.cs S ++ cellsF Gp.cs T)) ∧ Hid (∀ q, (Value.slice a3 (Cs.length + k) c3).ownBlock = some q → q ≠ p ∧ (Value.slice a2 (S.length + T.length) c2').ownBlock ≠ some q) ∧ Hid (Has wr w.heap.size #[.slice va S.length ca, .slice vc Cs.length cc]) ∧ Hid (Has wr (w.heap.size + 1) #[.slice vt T.length ct, .slice vd Ct.length cd]) ∧ Hid (Below w.heap.size w wr)) (fun t _ => Ct.length - (intOf t).toNat)
            case atStart => exact ⟨0, a3, c3', by omega, rfl, (show X.ownsRow Bb 49 4 _ _ (cellsF Cf.cs (Cs ++ [])) by rw [List.append_nil]; exact oC), HX, oG, fun q hq => ⟨nC q hq, fun h => (nG q h).2 hq⟩, Q3, Q4, hbw⟩
            case round =>
              clear HX oG oC nG nC Q3 Q4 hbw
              obtain ⟨k, a3, c3, hkl, rfl, oC', HX', oG', nC', Q3', Q4', hb'⟩ := hrel
              have oC := oC'.out
              have HX := HX'.out
              have oG := oG'.out
              have nC := nC'.out
              have Q3 := Q3'.out
              have Q4 := Q4'.out
              have hb := hb'.out
              clear oC' HX' oG' nC' Q3' Q4' hb'
              obtain ⟨_, b1, _⟩ := id Q4
              by_cases hlt : k < Ct.length
              · obtain ⟨g, o, rfl, hg, P⟩ := kD.resolve_left (by intro e; rw [e] at hlt; simp at hlt)
                have p0 := (hb.cell (p := ⟨g, _, none⟩) hg).trans (P k hlt 0 _ rfl)
                have p1 := (hb.cell (p := ⟨g, _, none⟩) hg).trans (P k hlt 1 _ rfl)
                have p2 := (hb.cell (p := ⟨g, _, none⟩) hg).trans (P k hlt 2 _ rfl)
                have p3 := (hb.cell (p := ⟨g, _, none⟩) hg).trans (P k hlt 3 _ rfl)
                simp only [Nat.add_zero] at p0
                obtain ⟨ra, rb, rc, _, _⟩ := hcf k hlt
                have wa : IntKind.i64.wrap (Ct[k].a + (S.length : Int)) = Ct[k].a + (S.length : Int) := wrap64 _ (by omega)
                have wb : IntKind.i64.wrap (Ct[k].b + (S.length : Int)) = Ct[k].b + (S.length : Int) := wrap64 _ (by omega)
                have sn : Hid (_ = _) := cells_snoc (n := S.length) (Cs := Cs) hlt
                have t1 : (k : Int) < (Ct.length : Int) := by omega
                have t0 : (0 : Int) ≤ (k : Int) := by omega
                have t2 : k + 1 ≤ Ct.length := hlt
                clear P kD kL kR hcf kA kB f1 f2 f3 ra rb rc
                generalize Ct[k].a = xa at *
                generalize Ct[k].b = xb at *
                generalize Ct[k].ab = xab at *
                generalize Ct[k].ba = xba at *
                go_upto_region 9 with fail
                have zr : wr.heap.size + 1 ≤ (wr.alloc (.cells #[.int .i64 xa, .int .i64 xb, .int .i64 xab, .int .i64 xba] 49)).heap.size := by simp
                have HN : Has (wr.alloc (.cells #[.int .i64 xa, .int .i64 xb, .int .i64 xab, .int .i64 xba] 49)) wr.heap.size #[.int .i64 xa, .int .i64 xb, .int .i64 xab, .int .i64 xba] := Has.new _ _ _ rfl
                replace hb := hb.alloc hb.size (.cells #[.int .i64 xa, .int .i64 xb, .int .i64 xab, .int .i64 xba] 49)
                replace HX := HX.alloc (.cells #[.int .i64 xa, .int .i64 xb, .int .i64 xab, .int .i64 xba] 49)
                replace Q3 := Q3.alloc (.cells #[.int .i64 xa, .int .i64 xb, .int .i64 xab, .int .i64 xba] 49)
                replace Q4 := Q4.alloc (.cells #[.int .i64 xa, .int .i64 xb, .int .i64 xab, .int .i64 xba] 49)
                replace oC := own_bel oC (belN1 : Below wr.heap.size wr (wr.alloc (.cells #[.int .i64 xa, .int .i64 xb, .int .i64 xab, .int .i64 xba] 49)))
                replace oG := own_bel oG (belN1 : Below wr.heap.size wr (wr.alloc (.cells #[.int .i64 xa, .int .i64 xb, .int .i64 xab, .int .i64 xba] 49)))
                generalize (wr.alloc (.cells #[.int .i64 xa, .int .i64 xb, .int .i64 xab, .int .i64 xba] 49)) = V1 at *
                clear p0 p1 p2 p3 b1
                obtain ⟨_, n1, _⟩ := id HN
                obtain ⟨_, x1, _⟩ := id HX
                go_wp2_with (at_builtin; (refine wpList_append_mine _ rfl _ _ 23 rfl Bb 49 ti _ 4 32 Try.underlying23 hi hi0 hi1 hi2 rfl (by decide) (.slice a3 (Cs.length + k) c3) (Cs.length + k) (cellsF Cf.cs (Cs ++ (Ct.take k).map (Cf.up S.length))) rfl (own_bel oC belN1) ⟨V1.heap.size, 0, none⟩ 1 1 [.int .i64 (xa + (S.length : Int)), .int .i64 (xb + (S.length : Int)), .int .i64 xab, .int .i64 xba] rfl rfl (cells_at (W := V1) rfl _ _) (all_one rfl) (by decide) (by unfold maxLen; omega) (by omega) (by simp; omega) ?_); intro g' c' y oC' gr at' _ _; have O := only_of_grown gr; have HY := HX.only O (fun h => (nC p h).1 rfl); obtain ⟨_, z1, z2⟩ := id HY)
                have lG := fun q (hq : (Value.slice a2 (S.length + T.length) c2').ownBlock = some q) => (own_lt oG q hq).2
                have oG1 := own_only2 oG O (fun q hq h => (nC q h).2 hq)
                have Q31 := Q3.only O (fun h => by have := (own_lt oC _ h).1; omega)
                have Q41 := Q4.only O (fun h => by have := (own_lt oC _ h).1; omega)
                have hb1 := bel_only hb O (by omega) (fun q hq h => by have := (own_lt oC _ h).1; omega)
                have Os : Only (fun q => q = p) y (y.setCell ⟨p, 1, none⟩ (.slice (some ⟨g', 0, none⟩) (Cs.length + k + 1) c')) := only_of_set _ _ _ _
                have nC1 : ∀ q, (Value.slice (some ⟨g', 0, none⟩) (Cs.length + k + 1) c').ownBlock = some q → q ≠ p ∧ (Value.slice a2 (S.length + T.length) c2').ownBlock ≠ some q := fun q hq => by
                  have e : g' = q := by injection hq
                  subst e
                  rcases at' with h | h
                  · exact nC _ h
                  · simp at h
                    exact ⟨by have := HX.1; omega, fun h2 => by have := lG _ h2; omega⟩
                rw [sn.out] at oC'
                have r1 := own_only2 oC' Os (fun q hq h => (nC1 q hq).1 h)
                have r2 : Has (y.setCell ⟨p, 1, none⟩ (.slice (some ⟨g', 0, none⟩) (Cs.length + k + 1) c')) p #[(.slice a2 (S.length + T.length) c2'), (.slice (some ⟨g', 0, none⟩) (Cs.length + k + 1) c')] := by simpa using HY.set 1 (by simp) (.slice (some ⟨g', 0, none⟩) (Cs.length + k + 1) c')
                have r3 := own_only2 oG1 Os (fun q hq h => gp' q hq h)
                have r4 := Q31.only Os (by omega)
                have r5 := Q41.only Os (by omega)
                have r6 := bel_only hb1 Os (by omega) (fun q hq h => by omega)
                go_roundw
                case rel => exact ⟨k + 1, _, _, by omega, by go_num, r1, r2, r3, nC1, r4, r5, r6⟩
                case measure => simp [intOf]; omega
              · have t1 : ¬ (k : Int) < (Ct.length : Int) := by omega
                obtain rfl : k = Ct.length := by omega
                generalize wr = X5 at *
                rw [List.take_length] at oC
                clear kD hcf ti hi hi0 hi1 hi2
                have lSn : S.length ≤ 63 := by omega
                obtain ⟨tj, hj, hj0, hj1, hj2⟩ := info_parts info26a
                have hbX := hb
                go_wp2_with fail
                go_loopw [14, 15] (fun u t wr => ∃ (k : Nat) (ua : Option Addr) (uc : Nat), k ≤ L.length ∧ t = .int .i64 (k : Int) ∧ u = .slice ua k uc ∧ Hid (wr.ownsRow X5.heap.size 26 1 (.slice ua k uc) k (cellsF u64 (mskL S.length L R k))) ∧ Hid (Below X5.heap.size X5 wr)) (fun _ t _ => L.length - (intOf t).toNat)
                case atStart => exact ⟨0, none, 0, by omega, rfl, rfl, World.ownsRow_nil _ _ _ _, Below.refl _ _⟩
                case round =>
                  clear b1 t1
                  obtain ⟨k, ua, uc, hkl, rfl, rfl, oW', hb'⟩ := hrel
                  have oW := oW'.out
                  have hb := hb'.out
                  have hbw := bel_after hbX hbX.size hb
                  clear oW' hb'
                  by_cases hlt : k < L.length
                  · have hlr : k < R.length := by omega
                    obtain ⟨g, o, rfl, hg, P⟩ := kL.resolve_left (by intro e; rw [e] at hlt; simp at hlt)
                    obtain ⟨g2, o2, rfl, hg2, P2⟩ := kR.resolve_left (by intro e; rw [e] at hlr; simp at hlr)
                    have p0 := (hbw.cell (p := ⟨g, _, none⟩) hg).trans (P k hlt _ rfl)
                    have p1 := (hbw.cell (p := ⟨g2, _, none⟩) hg2).trans (P2 k hlr _ rfl)
                    have hA := hL _ (List.getElem_mem hlt)
                    have sn : Hid (_ = _) := mskL_snoc (n := S.length) hlt hlr
                    have s1 : min S.length 64 = S.length := by omega
                    have s2 : IntKind.u64.wrap (S.length : Int) = (S.length : Int) := by rw [IntKind.wrap_u64]; omega
                    have s6 : Hid (_ = _) := whole_eq (n := S.length) (b := R[k]) lSn hA
                    have t1 : (k : Int) < (L.length : Int) := by omega
                    have t1' : (k : Int) < (R.length : Int) := by omega
                    have t0 : (0 : Int) ≤ (k : Int) := by omega
                    have t2 : k + 1 ≤ L.length := hlt
                    clear P P2 kL kR kA kB f1 f2 f3 hL hR
                    generalize L[k] = A at *
                    generalize R[k] = Bv at *
                    go_wp2_with (at_builtin; (refine wpList_append_mine _ rfl _ _ 43 rfl X5.heap.size 26 tj _ 1 8 Try.underlying43 hj hj0 hj1 hj2 rfl (by decide) (.slice ua k uc) k (cellsF u64 (mskL S.length L R k)) rfl (own_bel oW belN1) ⟨wr.heap.size, 0, none⟩ 1 1 [.int .u64 _] rfl rfl (cells_at (W := wr) rfl _ _) (all_one rfl) (by decide) (by unfold maxLen; omega) (by omega) (by have := hb.size; simp; omega) ?_); intro g' c' y oW' gr at' _ _; have O := only_of_grown gr)
                    rw [s6.out, sn.out] at oW'
                    have hb1 := bel_only hb O (Nat.le_refl _) (fun q hq h => by have := (own_lt oW _ h).1; omega)
                    go_roundw
                    case rel => exact ⟨k + 1, _, _, by omega, by go_num, rfl, oW', hb1⟩
                    case measure => simp [intOf]; omega
                  · have t1 : ¬ (k : Int) < (L.length : Int) := by omega
                    obtain rfl : k = L.length := by omega
                    have sd : Side S T Cs Ct := ⟨hgS, hgT⟩
                    have lLR : L.length = R.length := by omega
                    have lst : S.length + T.length ≤ 64 := by omega
                    have gB := grid_both sd lst
                    have bp := beside_pic sd (mskL_low (n := S.length) (L := L) (R := R)) (mskL_high (n := S.length) (m := T.length) lLR lst)
                    have okMs : ∀ x ∈ mskL S.length L R L.length, x < 18446744073709551616 := fun x hx => by
                      obtain ⟨j, _, rfl⟩ := List.mem_map.1 hx
                      exact mskF_lt lSn
                    have lMs := mskL_len S.length L R L.length
                    generalize mskL S.length L R L.length = Ms at *
                    replace oG := own_bel oG hb
                    replace oC := own_bel oC hb
                    replace Q3 := Q3.below hb
                    replace Q4 := Q4.below hb
                    replace HX := HX.below hb
                    rw [← cellsF_app] at oG
                    have F1 : Fl 5 Gp.cs wr (.slice a2 (S.length + T.length) c2') (S ++ T) := Fl.row gp_len oG (by simp)
                    have F2 : Fl 4 Cf.cs wr (.slice a3 (Cs.length + Ct.length) c3) (bothC S.length Cs Ct) := Fl.row cf_len oC (by simp [bothC])
                    have F3 : Fl 1 u64 wr (.slice ua L.length uc) Ms := Fl.row u64_len oW lMs.symm
                    have lBC : (bothC S.length Cs Ct).length ≤ 4398046511000 := by simp [bothC]; omega
                    have kC := fun (X : World) (hX : Below wr.heap.size wr X) => run_ok (S ++ T) (bothC S.length Cs Ct) Ms _ _ _ X (F1.below hX) (F2.below hX) (F3.below hX) (by rw [List.length_append]; omega) lBC (by omega) okMs gB
                    simp only [lMs] at kC
                    have wl : IntKind.i64.wrap ((L.length : Int) + 1) = (L.length : Int) + 1 := wrap64 _ (by omega)
                    have wr' : IntKind.i64.wrap ((R.length : Int) + 1) = (R.length : Int) + 1 := wrap64 _ (by omega)
                    clear F1 F2 F3 oG oC oW nC kL kR f1 f2 f3 gB okMs lBC hL hR lMs lLR tj hj hj0 hj1 hj2
                    obtain ⟨_, q3c, _⟩ := id Q3
                    go_upto_region 17 with (go_at_call 22; (with_reducible refine Calls.mono (kA hgS _ (by exact hbw)) ?_); rintro e y6 ⟨⟨g1, d1, rfl, ow1⟩, hy6⟩; have hb6 := bel_after hbw hbw.size hy6; have Q46 := Q4.below hy6; have HX6 := HX.below hy6; have bz6 := hy6; obtain ⟨_, q4c, _⟩ := id Q46)
                    clear q3c Q3 hy6
                    go_upto_region 18 with (go_at_call 22; (with_reducible refine Calls.mono (kB hgT _ (by exact hb6)) ?_); rintro e y7 ⟨⟨g2, d2, rfl, ow2⟩, hy7⟩; have hb7 := bel_after hb6 hb6.size hy7; have HX7 := HX6.below hy7; have bz7 := bel_after bz6 bz6.size hy7; obtain ⟨_, xxc, _⟩ := id HX7; have ow1' := own_bel ow1 hy7)
                    clear q4c Q46 Q4 hy7
                    go_upto_region 19 with (go_at_call 22; (with_reducible refine Calls.mono (kC _ (by exact bz7)) ?_); rintro e y8 ⟨⟨g3, d3, rfl, ow3⟩, hy8⟩; have hb8 := bel_after hb7 hb7.size hy8; have ow1'' := own_bel ow1' hy8; have ow2'' := own_bel ow2 hy8)
                    clear xxc HX7 HX6 HX hy8 kC kA kB
                    have hq1 := own_lt ow1'' g1 rfl
                    have hq2 := own_lt ow2'' g2 rfl
                    have hq3 := own_lt ow3 g3 rfl
                    go_wp2_with fail
                    go_loopw [23] (fun t wx => ∃ j : Nat, j ≤ L.length + 1 ∧ t = .int .i64 (j : Int) ∧ Hid (Below y8.heap.size y8 wx)) (fun t _ => L.length + 1 - (intOf t).toNat)
                    case atStart => exact ⟨0, by omega, rfl, Below.refl _ _⟩
                    case round =>
                      obtain ⟨j, hjm, rfl, bX'⟩ := hrel
                      have bX := bX'.out
                      clear bX'
                      have bW := bel_after hb8 hb8.size bX
                      by_cases jlt : j < L.length + 1
                      · have pA := (bX.drew.cell (p := ⟨g1, j, none⟩) hq1.2).trans (pic_at ow1'' jlt)
                        have pB := (bX.drew.cell (p := ⟨g2, j, none⟩) hq2.2).trans (pic_at ow2'' (by omega))
                        have pC := (bX.drew.cell (p := ⟨g3, j, none⟩) hq3.2).trans (pic_at ow3 jlt)
                        rw [bp j] at pC
                        have zA : (((picF S Cs L j).size : Nat) : Int) = (S.length : Int) := by rw [pic_size]
                        have zB : (((picF T Ct R j).size : Nat) : Int) = (T.length : Int) := by rw [pic_size]
                        have zC : ¬ (picF S Cs L j).size + (picF T Ct R j).size > 9223372036854775807 := by rw [pic_size, pic_size]; omega
                        have zD : ¬ 9223372036854775807 < (picF S Cs L j).size + (picF T Ct R j).size := by rw [pic_size, pic_size]; omega
                        have j1 : (j : Int) < (L.length : Int) + 1 := by omega
                        have j2 : (j : Int) < (R.length : Int) + 1 := by omega
                        have j0 : (0 : Int) ≤ (j : Int) := by omega
                        clear ow1'' ow2'' ow3 ow1 ow1' ow2 bp
                        generalize picF S Cs L j = sA at *
                        generalize picF T Ct R j = sB at *
                        go_upto_region 24 with fail
                        refine wp_region_noPanic ?_
                        refine wp_region_held_drew (S := fun w' => w'.cell? ⟨g1, j, none⟩ = some (.string sA) ∧ w'.cell? ⟨g2, j, none⟩ = some (.string sB) ∧ w'.cell? ⟨g3, j, none⟩ = some (.string (sA ++ sB))) (by kernel_rfl) ?_ (fun hHeld => ?_)
                        · (try dsimp only)
                          exact ⟨pA, pB, pC⟩
                        refine wpAnyH_take (i := 0) (oi := { dst := some 180, op := Op.move (Operand.tmp 17), type := 51, pos := "headssafe.go:277", after := #[], guard := none }) (v := ?_) rfl (by kernel_rfl) (by kernel_rfl) (by kernel_rfl) (fun _ _ _ h => h) (Or.inl ⟨by rfl, ?_⟩) (by assumption) ?_
                        rotate_left
                        · intro wz hSz; (try dsimp only at hSz); go_simp; all_goals (with_reducible rfl)
                        (try simp only [Act.put, List.setIfInBounds_toArray, List.set_cons_zero, List.set_cons_succ])
                        refine wpAnyH_take (i := 1) (oi := { dst := some 181, op := Op.move (Operand.tmp 23), type := 3, pos := "headssafe.go:277", after := #[], guard := none }) (v := ?_) rfl (by kernel_rfl) (by kernel_rfl) (by kernel_rfl) (fun _ _ _ h => h) (Or.inl ⟨by rfl, ?_⟩) (by assumption) ?_
                        rotate_left
                        · intro wz hSz; (try dsimp only at hSz); go_simp; all_goals (with_reducible rfl)
                        (try simp only [Act.put, List.setIfInBounds_toArray, List.set_cons_zero, List.set_cons_succ])
                        refine wpAnyH_take (i := 2) (oi := { dst := some 182, op := Op.indexAddr 51 (Operand.tmp 180) (Operand.tmp 181), type := 0, pos := "headssafe.go:277", after := #[{ on := 0, ground := Ground.data }, { on := 1, ground := Ground.data }], guard := none }) (v := ?_) rfl (by kernel_rfl) (by kernel_rfl) (by kernel_rfl) (fun _ _ _ h => h) (Or.inl ⟨by rfl, ?_⟩) (by assumption) ?_
                        rotate_left
                        · intro wz hSz; (try dsimp only at hSz); go_simp; all_goals (with_reducible rfl)
                        (try simp only [Act.put, List.setIfInBounds_toArray, List.set_cons_zero, List.set_cons_succ])
                        refine wpAnyH_take (i := 3) (oi := { dst := some 183, op := Op.load 9 (Operand.tmp 182), type := 9, pos := "headssafe.go:277", after := #[{ on := 2, ground := Ground.data }], guard := none }) (v := ?_) rfl (by kernel_rfl) (by kernel_rfl) (by kernel_rfl) (fun _ _ _ h => h) (Or.inl ⟨by rfl, ?_⟩) (by assumption) ?_
                        rotate_left
                        · intro wz hSz; (try dsimp only at hSz); go_simp; all_goals (with_reducible rfl)
                        (try simp only [Act.put, List.setIfInBounds_toArray, List.set_cons_zero, List.set_cons_succ])
                        refine wpAnyH_take (i := 4) (oi := { dst := some 184, op := Op.call { callee := Callee.builtin Builtin.len, args := #[Operand.tmp 183], argTypes := #[9] }, type := 3, pos := "headssafe.go:277", after := #[{ on := 3, ground := Ground.data }], guard := none }) (v := ?_) rfl (by kernel_rfl) (by kernel_rfl) (by kernel_rfl) (fun _ _ _ h => h) (Or.inl ⟨by rfl, ?_⟩) (by assumption) ?_
                        rotate_left
                        · intro wz hSz; (try dsimp only at hSz); go_simp; all_goals (with_reducible rfl)
                        (try simp only [Act.put, List.setIfInBounds_toArray, List.set_cons_zero, List.set_cons_succ])
                        refine wpAnyH_take (i := 5) (oi := { dst := some 185, op := Op.move (Operand.tmp 9), type := 3, pos := "headssafe.go:277", after := #[], guard := none }) (v := ?_) rfl (by kernel_rfl) (by kernel_rfl) (by kernel_rfl) (fun _ _ _ h => h) (Or.inl ⟨by rfl, ?_⟩) (by assumption) ?_
                        rotate_left
                        · intro wz hSz; (try dsimp only at hSz); go_simp; all_goals (with_reducible rfl)
                        (try simp only [Act.put, List.setIfInBounds_toArray, List.set_cons_zero, List.set_cons_succ])
                        refine wpAnyH_take (i := 6) (oi := { dst := some 186, op := Op.binOp BinOp.neq 3 (Operand.tmp 184) (Operand.tmp 185) 3, type := 4, pos := "headssafe.go:277", after := #[{ on := 4, ground := Ground.data }, { on := 5, ground := Ground.data }], guard := none }) (v := ?_) rfl (by kernel_rfl) (by kernel_rfl) (by kernel_rfl) (fun _ _ _ h => h) (Or.inl ⟨by rfl, ?_⟩) (by assumption) ?_
                        rotate_left
                        · intro wz hSz; (try dsimp only at hSz); go_simp; all_goals (with_reducible rfl)
                        (try simp only [Act.put, List.setIfInBounds_toArray, List.set_cons_zero, List.set_cons_succ])
                        refine wpAnyH_take (i := 7) (oi := { dst := some 187, op := Op.move (Operand.tmp 186), type := 4, pos := "headssafe.go:277", after := #[{ on := 6, ground := Ground.data }], guard := none }) (v := ?_) rfl (by kernel_rfl) (by kernel_rfl) (by kernel_rfl) (fun _ _ _ h => h) (Or.inl ⟨by rfl, ?_⟩) (by assumption) ?_
                        rotate_left
                        · intro wz hSz; (try dsimp only at hSz); go_simp; all_goals (with_reducible rfl)
                        (try simp only [Act.put, List.setIfInBounds_toArray, List.set_cons_zero, List.set_cons_succ])
                        refine wpAnyH_take (i := 8) (oi := { dst := some 188, op := Op.move (Operand.tmp 19), type := 51, pos := "headssafe.go:277", after := #[{ on := 7, ground := Ground.guard }], guard := some (7, false) }) (v := ?_) rfl (by kernel_rfl) (by kernel_rfl) (by kernel_rfl) (fun _ _ _ h => h) (Or.inl ⟨by rfl, ?_⟩) (by assumption) ?_
                        rotate_left
                        · intro wz hSz; (try dsimp only at hSz); go_simp; all_goals (with_reducible rfl)
                        (try simp only [Act.put, List.setIfInBounds_toArray, List.set_cons_zero, List.set_cons_succ])
                        refine wpAnyH_take (i := 9) (oi := { dst := some 189, op := Op.move (Operand.tmp 23), type := 3, pos := "headssafe.go:277", after := #[{ on := 7, ground := Ground.guard }], guard := some (7, false) }) (v := ?_) rfl (by kernel_rfl) (by kernel_rfl) (by kernel_rfl) (fun _ _ _ h => h) (Or.inl ⟨by rfl, ?_⟩) (by assumption) ?_
                        rotate_left
                        · intro wz hSz; (try dsimp only at hSz); go_simp; all_goals (with_reducible rfl)
                        (try simp only [Act.put, List.setIfInBounds_toArray, List.set_cons_zero, List.set_cons_succ])
                        refine wpAnyH_take (i := 10) (oi := { dst := some 190, op := Op.indexAddr 51 (Operand.tmp 188) (Operand.tmp 189), type := 0, pos := "headssafe.go:277", after := #[{ on := 8, ground := Ground.data }, { on := 9, ground := Ground.data }, { on := 7, ground := Ground.guard }], guard := some (7, false) }) (v := ?_) rfl (by kernel_rfl) (by kernel_rfl) (by kernel_rfl) (fun _ _ _ h => h) (Or.inl ⟨by rfl, ?_⟩) (by assumption) ?_
                        rotate_left
                        · intro wz hSz; (try dsimp only at hSz); go_simp; all_goals (with_reducible rfl)
                        (try simp only [Act.put, List.setIfInBounds_toArray, List.set_cons_zero, List.set_cons_succ])
                        refine wpAnyH_take (i := 11) (oi := { dst := some 191, op := Op.load 9 (Operand.tmp 190), type := 9, pos := "headssafe.go:277", after := #[{ on := 10, ground := Ground.data }, { on := 7, ground := Ground.guard }], guard := some (7, false) }) (v := ?_) rfl (by kernel_rfl) (by kernel_rfl) (by kernel_rfl) (fun _ _ _ h => h) (Or.inl ⟨by rfl, ?_⟩) (by assumption) ?_
                        rotate_left
                        · intro wz hSz; (try dsimp only at hSz); go_simp; all_goals (with_reducible rfl)
                        (try simp only [Act.put, List.setIfInBounds_toArray, List.set_cons_zero, List.set_cons_succ])
                        refine wpAnyH_take (i := 12) (oi := { dst := some 192, op := Op.call { callee := Callee.builtin Builtin.len, args := #[Operand.tmp 191], argTypes := #[9] }, type := 3, pos := "headssafe.go:277", after := #[{ on := 11, ground := Ground.data }, { on := 7, ground := Ground.guard }], guard := some (7, false) }) (v := ?_) rfl (by kernel_rfl) (by kernel_rfl) (by kernel_rfl) (fun _ _ _ h => h) (Or.inl ⟨by rfl, ?_⟩) (by assumption) ?_
                        rotate_left
                        · intro wz hSz; (try dsimp only at hSz); go_simp; all_goals (with_reducible rfl)
                        (try simp only [Act.put, List.setIfInBounds_toArray, List.set_cons_zero, List.set_cons_succ])
                        refine wpAnyH_take (i := 13) (oi := { dst := some 193, op := Op.move (Operand.tmp 10), type := 3, pos := "headssafe.go:277", after := #[{ on := 7, ground := Ground.guard }], guard := some (7, false) }) (v := ?_) rfl (by kernel_rfl) (by kernel_rfl) (by kernel_rfl) (fun _ _ _ h => h) (Or.inl ⟨by rfl, ?_⟩) (by assumption) ?_
                        rotate_left
                        · intro wz hSz; (try dsimp only at hSz); go_simp; all_goals (with_reducible rfl)
                        (try simp only [Act.put, List.setIfInBounds_toArray, List.set_cons_zero, List.set_cons_succ])
                        refine wpAnyH_take (i := 14) (oi := { dst := some 194, op := Op.binOp BinOp.neq 3 (Operand.tmp 192) (Operand.tmp 193) 3, type := 4, pos := "headssafe.go:277", after := #[{ on := 12, ground := Ground.data }, { on := 13, ground := Ground.data }, { on := 7, ground := Ground.guard }], guard := some (7, false) }) (v := ?_) rfl (by kernel_rfl) (by kernel_rfl) (by kernel_rfl) (fun _ _ _ h => h) (Or.inl ⟨by rfl, ?_⟩) (by assumption) ?_
                        rotate_left
                        · intro wz hSz; (try dsimp only at hSz); go_simp; all_goals (with_reducible rfl)
                        (try simp only [Act.put, List.setIfInBounds_toArray, List.set_cons_zero, List.set_cons_succ])
                        refine wpAnyH_take (i := 15) (oi := { dst := some 195, op := Op.pick (Operand.tmp 187) (Operand.const (Value.bool true)) (Operand.tmp 194), type := 4, pos := "headssafe.go:277", after := #[{ on := 7, ground := Ground.data }, { on := 14, ground := Ground.data }], guard := none }) (v := ?_) rfl (by kernel_rfl) (by kernel_rfl) (by kernel_rfl) (fun _ _ _ h => h) (Or.inl ⟨by rfl, ?_⟩) (by assumption) ?_
                        rotate_left
                        · intro wz hSz; (try dsimp only at hSz); go_simp; all_goals (with_reducible rfl)
                        (try simp only [Act.put, List.setIfInBounds_toArray, List.set_cons_zero, List.set_cons_succ])
                        refine wpAnyH_take (i := 16) (oi := { dst := some 196, op := Op.move (Operand.tmp 195), type := 4, pos := "headssafe.go:277", after := #[{ on := 15, ground := Ground.data }, { on := 7, ground := Ground.chain }], guard := none }) (v := ?_) rfl (by kernel_rfl) (by kernel_rfl) (by kernel_rfl) (fun _ _ _ h => h) (Or.inl ⟨by rfl, ?_⟩) (by assumption) ?_
                        rotate_left
                        · intro wz hSz; (try dsimp only at hSz); go_simp; all_goals (with_reducible rfl)
                        (try simp only [Act.put, List.setIfInBounds_toArray, List.set_cons_zero, List.set_cons_succ])
                        refine wpAnyH_take (i := 17) (oi := { dst := some 197, op := Op.move (Operand.tmp 21), type := 51, pos := "headssafe.go:277", after := #[{ on := 16, ground := Ground.guard }], guard := some (16, false) }) (v := ?_) rfl (by kernel_rfl) (by kernel_rfl) (by kernel_rfl) (fun _ _ _ h => h) (Or.inl ⟨by rfl, ?_⟩) (by assumption) ?_
                        rotate_left
                        · intro wz hSz; (try dsimp only at hSz); go_simp; all_goals (with_reducible rfl)
                        (try simp only [Act.put, List.setIfInBounds_toArray, List.set_cons_zero, List.set_cons_succ])
                        refine wpAnyH_take (i := 18) (oi := { dst := some 198, op := Op.move (Operand.tmp 23), type := 3, pos := "headssafe.go:277", after := #[{ on := 16, ground := Ground.guard }], guard := some (16, false) }) (v := ?_) rfl (by kernel_rfl) (by kernel_rfl) (by kernel_rfl) (fun _ _ _ h => h) (Or.inl ⟨by rfl, ?_⟩) (by assumption) ?_
                        rotate_left
                        · intro wz hSz; (try dsimp only at hSz); go_simp; all_goals (with_reducible rfl)
                        (try simp only [Act.put, List.setIfInBounds_toArray, List.set_cons_zero, List.set_cons_succ])
                        refine wpAnyH_take (i := 19) (oi := { dst := some 199, op := Op.indexAddr 51 (Operand.tmp 197) (Operand.tmp 198), type := 0, pos := "headssafe.go:277", after := #[{ on := 17, ground := Ground.data }, { on := 18, ground := Ground.data }, { on := 16, ground := Ground.guard }], guard := some (16, false) }) (v := ?_) rfl (by kernel_rfl) (by kernel_rfl) (by kernel_rfl) (fun _ _ _ h => h) (Or.inl ⟨by rfl, ?_⟩) (by assumption) ?_
                        rotate_left
                        · intro wz hSz; (try dsimp only at hSz); go_simp; all_goals (with_reducible rfl)
                        (try simp only [Act.put, List.setIfInBounds_toArray, List.set_cons_zero, List.set_cons_succ])
                        refine wpAnyH_take (i := 20) (oi := { dst := some 200, op := Op.load 9 (Operand.tmp 199), type := 9, pos := "headssafe.go:277", after := #[{ on := 19, ground := Ground.data }, { on := 16, ground := Ground.guard }], guard := some (16, false) }) (v := ?_) rfl (by kernel_rfl) (by kernel_rfl) (by kernel_rfl) (fun _ _ _ h => h) (Or.inl ⟨by rfl, ?_⟩) (by assumption) ?_
                        rotate_left
                        · intro wz hSz; (try dsimp only at hSz); go_simp; all_goals (with_reducible rfl)
                        (try simp only [Act.put, List.setIfInBounds_toArray, List.set_cons_zero, List.set_cons_succ])
                        refine wpAnyH_take (i := 21) (oi := { dst := some 201, op := Op.move (Operand.tmp 17), type := 51, pos := "headssafe.go:277", after := #[{ on := 16, ground := Ground.guard }], guard := some (16, false) }) (v := ?_) rfl (by kernel_rfl) (by kernel_rfl) (by kernel_rfl) (fun _ _ _ h => h) (Or.inl ⟨by rfl, ?_⟩) (by assumption) ?_
                        rotate_left
                        · intro wz hSz; (try dsimp only at hSz); go_simp; all_goals (with_reducible rfl)
                        (try simp only [Act.put, List.setIfInBounds_toArray, List.set_cons_zero, List.set_cons_succ])
                        refine wpAnyH_take (i := 22) (oi := { dst := some 202, op := Op.move (Operand.tmp 23), type := 3, pos := "headssafe.go:277", after := #[{ on := 16, ground := Ground.guard }], guard := some (16, false) }) (v := ?_) rfl (by kernel_rfl) (by kernel_rfl) (by kernel_rfl) (fun _ _ _ h => h) (Or.inl ⟨by rfl, ?_⟩) (by assumption) ?_
                        rotate_left
                        · intro wz hSz; (try dsimp only at hSz); go_simp; all_goals (with_reducible rfl)
                        (try simp only [Act.put, List.setIfInBounds_toArray, List.set_cons_zero, List.set_cons_succ])
                        refine wpAnyH_take (i := 23) (oi := { dst := some 203, op := Op.indexAddr 51 (Operand.tmp 201) (Operand.tmp 202), type := 0, pos := "headssafe.go:277", after := #[{ on := 21, ground := Ground.data }, { on := 22, ground := Ground.data }, { on := 16, ground := Ground.guard }], guard := some (16, false) }) (v := ?_) rfl (by kernel_rfl) (by kernel_rfl) (by kernel_rfl) (fun _ _ _ h => h) (Or.inl ⟨by rfl, ?_⟩) (by assumption) ?_
                        rotate_left
                        · intro wz hSz; (try dsimp only at hSz); go_simp; all_goals (with_reducible rfl)
                        (try simp only [Act.put, List.setIfInBounds_toArray, List.set_cons_zero, List.set_cons_succ])
                        refine wpAnyH_take (i := 24) (oi := { dst := some 204, op := Op.load 9 (Operand.tmp 203), type := 9, pos := "headssafe.go:277", after := #[{ on := 23, ground := Ground.data }, { on := 16, ground := Ground.guard }], guard := some (16, false) }) (v := ?_) rfl (by kernel_rfl) (by kernel_rfl) (by kernel_rfl) (fun _ _ _ h => h) (Or.inl ⟨by rfl, ?_⟩) (by assumption) ?_
                        rotate_left
                        · intro wz hSz; (try dsimp only at hSz); go_simp; all_goals (with_reducible rfl)
                        (try simp only [Act.put, List.setIfInBounds_toArray, List.set_cons_zero, List.set_cons_succ])
                        refine wpAnyH_take (i := 25) (oi := { dst := some 205, op := Op.move (Operand.tmp 19), type := 51, pos := "headssafe.go:277", after := #[{ on := 16, ground := Ground.guard }], guard := some (16, false) }) (v := ?_) rfl (by kernel_rfl) (by kernel_rfl) (by kernel_rfl) (fun _ _ _ h => h) (Or.inl ⟨by rfl, ?_⟩) (by assumption) ?_
                        rotate_left
                        · intro wz hSz; (try dsimp only at hSz); go_simp; all_goals (with_reducible rfl)
                        (try simp only [Act.put, List.setIfInBounds_toArray, List.set_cons_zero, List.set_cons_succ])
                        refine wpAnyH_take (i := 26) (oi := { dst := some 206, op := Op.move (Operand.tmp 23), type := 3, pos := "headssafe.go:277", after := #[{ on := 16, ground := Ground.guard }], guard := some (16, false) }) (v := ?_) rfl (by kernel_rfl) (by kernel_rfl) (by kernel_rfl) (fun _ _ _ h => h) (Or.inl ⟨by rfl, ?_⟩) (by assumption) ?_
                        rotate_left
                        · intro wz hSz; (try dsimp only at hSz); go_simp; all_goals (with_reducible rfl)
                        (try simp only [Act.put, List.setIfInBounds_toArray, List.set_cons_zero, List.set_cons_succ])
                        refine wpAnyH_take (i := 27) (oi := { dst := some 207, op := Op.indexAddr 51 (Operand.tmp 205) (Operand.tmp 206), type := 0, pos := "headssafe.go:277", after := #[{ on := 25, ground := Ground.data }, { on := 26, ground := Ground.data }, { on := 16, ground := Ground.guard }], guard := some (16, false) }) (v := ?_) rfl (by kernel_rfl) (by kernel_rfl) (by kernel_rfl) (fun _ _ _ h => h) (Or.inl ⟨by rfl, ?_⟩) (by assumption) ?_
                        rotate_left
                        · intro wz hSz; (try dsimp only at hSz); go_simp; all_goals (with_reducible rfl)
                        (try simp only [Act.put, List.setIfInBounds_toArray, List.set_cons_zero, List.set_cons_succ])
                        refine wpAnyH_take (i := 28) (oi := { dst := some 208, op := Op.load 9 (Operand.tmp 207), type := 9, pos := "headssafe.go:277", after := #[{ on := 27, ground := Ground.data }, { on := 16, ground := Ground.guard }], guard := some (16, false) }) (v := ?_) rfl (by kernel_rfl) (by kernel_rfl) (by kernel_rfl) (fun _ _ _ h => h) (Or.inl ⟨by rfl, ?_⟩) (by assumption) ?_
                        rotate_left
                        · intro wz hSz; (try dsimp only at hSz); go_simp; all_goals (with_reducible rfl)
                        (try simp only [Act.put, List.setIfInBounds_toArray, List.set_cons_zero, List.set_cons_succ])
                        refine wpAnyH_take (i := 29) (oi := { dst := some 209, op := Op.binOp BinOp.add 9 (Operand.tmp 204) (Operand.tmp 208) 9, type := 9, pos := "headssafe.go:277", after := #[{ on := 24, ground := Ground.data }, { on := 28, ground := Ground.data }, { on := 16, ground := Ground.guard }], guard := some (16, false) }) (v := ?_) rfl (by kernel_rfl) (by kernel_rfl) (by kernel_rfl) (fun _ _ _ h => h) (Or.inl ⟨by rfl, ?_⟩) (by assumption) ?_
                        rotate_left
                        · intro wz hSz; (try dsimp only at hSz); go_simp; all_goals (with_reducible rfl)
                        (try simp only [Act.put, List.setIfInBounds_toArray, List.set_cons_zero, List.set_cons_succ])
                        refine wpAnyH_take (i := 30) (oi := { dst := some 210, op := Op.binOp BinOp.neq 9 (Operand.tmp 200) (Operand.tmp 209) 9, type := 4, pos := "headssafe.go:277", after := #[{ on := 20, ground := Ground.data }, { on := 29, ground := Ground.data }, { on := 16, ground := Ground.guard }], guard := some (16, false) }) (v := ?_) rfl (by kernel_rfl) (by kernel_rfl) (by kernel_rfl) (fun _ _ _ h => h) (Or.inl ⟨by rfl, ?_⟩) (by assumption) ?_
                        rotate_left
                        · intro wz hSz; (try dsimp only at hSz); go_simp; all_goals (with_reducible rfl)
                        (try simp only [Act.put, List.setIfInBounds_toArray, List.set_cons_zero, List.set_cons_succ])
                        refine wpAnyH_take (i := 31) (oi := { dst := some 211, op := Op.pick (Operand.tmp 196) (Operand.const (Value.bool true)) (Operand.tmp 210), type := 4, pos := "headssafe.go:277", after := #[{ on := 16, ground := Ground.data }, { on := 30, ground := Ground.data }], guard := none }) (v := ?_) rfl (by kernel_rfl) (by kernel_rfl) (by kernel_rfl) (fun _ _ _ h => h) (Or.inl ⟨by rfl, ?_⟩) (by assumption) ?_
                        rotate_left
                        · intro wz hSz; (try dsimp only at hSz); go_simp; all_goals (with_reducible rfl)
                        (try simp only [Act.put, List.setIfInBounds_toArray, List.set_cons_zero, List.set_cons_succ])
                        refine wpAnyH_done (by kernel_rfl) ?_ _
                        refine NoPanic.normal ?_
                        replace bX := bX.drew
                        go_wp2_with fail
                        go_roundw
                        case rel => exact ⟨j + 1, by omega, by go_num, bX⟩
                        case measure => simp [intOf]; omega
                      · have j1 : ¬ (j : Int) < (L.length : Int) + 1 := by omega
                        have j2 : ¬ (j : Int) < (R.length : Int) + 1 := by omega
                        clear ow1'' ow2'' ow3 ow1 ow1' ow2 bp
                        go_wp2_with fail
                        go_ret
                        exact ⟨rfl, bW⟩
end Go.Proofs.Ytbonmajnkbggcaa
