import Derived.Test.YtfmdlcfkfglnhaaDoorTyC
import Derived.Test.YtfmdlcfkfglnhaaDoorTyN
import Derived.Test.YtfmdlcfkfglnhaaDoorApA
import Derived.Test.YtfmdlcfkfglnhaaDoorNesC
namespace Go.Proofs.YtfmdlcfkfglnhaaDoor
open Go.RowKit
set_option linter.unusedVariables false


def vI (st : List Int) : List Value := st.map (Value.int .i64)
theorem vI_get {st : List Int} {j : Nat} (h : j < st.length) : (vI st)[j]? = some (.int .i64 st[j]) := by simp [vI, h]
theorem info3 : (Tryd.prog.info? 3).map (fun i => (i.zero, i.size, i.bytes)) = some (some (.int .i64 0), 1, 8) := by kernel_rfl
theorem Has.set3 {w : World} {b : Nat} {x0 x1 x2 : Value} (h : Has w b #[x0, x1, x2]) (y0 y1 y2 : Value) :
    Has (((w.setCell ⟨b, 0, none⟩ y0).setCell ⟨b, 1, none⟩ y1).setCell ⟨b, 2, none⟩ y2) b #[y0, y1, y2] :=
  ((h.set 0 (by simp) y0).set 1 (by simp) y1).set 2 (by simp) y2
theorem bel3 {B b : Nat} {a w : World} (h : Below B a w) (hb : B ≤ b) (y0 y1 y2 : Value) :
    Below B a (((w.setCell ⟨b, 0, none⟩ y0).setCell ⟨b, 1, none⟩ y1).setCell ⟨b, 2, none⟩ y2) :=
  ((h.setCell hb _).setCell hb _).setCell hb _
theorem set_last {st : List Int} {m : Nat} (h : st.length = m + 1) (t : Int) : st.set m t = st.take m ++ [t] := by
  apply List.ext_getElem
  · simp; omega
  · intro i h1 h2
    by_cases e : i = m
    · subst e
      rw [List.getElem_append_right (by rw [List.length_take]; omega)]
      simp
    · have : i < m := by simp at h1; omega
      rw [List.getElem_set_ne (by omega), List.getElem_append_left (by simp; omega)]; simp
theorem set_two {st : List Int} {m : Nat} (h : st.length = m + 2) (t : Int) : (st.set m t).take (m + 1) = st.take m ++ [t] := by
  apply List.ext_getElem
  · simp; omega
  · intro i h1 h2
    by_cases e : i = m
    · subst e
      rw [List.getElem_append_right (by rw [List.length_take]; omega)]
      simp
    · have : i < m := by simp at h1; omega
      rw [List.getElem_take, List.getElem_set_ne (by omega), List.getElem_append_left (by simp; omega)]; simp
/-- A type and a fault, as they are answered. -/
def tyV (t : Ty) : Value := .tuple #[.int .i64 t.typ, .agg #[.int .i64 t.code, .int .i64 t.line, .int .i64 t.col]]
set_option maxRecDepth 100000 in
set_option maxHeartbeats 8000000 in
theorem lookR_any (S : List Sy) (L : List Nd) (ve vn : Value) (w : World) (hE : Ens w ve S) (hl : S.length ≤ 4611686018427387904) (hN : Nds w vn L) (hf : fEx L = true) :
    Calls Tryd.prog 15 #[ve, .int .i64 0, vn] w fun e w' => e = .returned (tyV (tyF S [] L)) ∧ Below w.heap.size w w' := by
  obtain ⟨H, h256, H0, H1, Hk, hop⟩ := hts L hf
  have kL := fun (k : Nat) (hk : k < L.length) (ho : L[k].op = 1 ∨ L[k].op = 2 ∨ L[k].op = 3 ∨ L[k].op = 4 ∨ L[k].op = 5 ∨ L[k].op = 6) (X : World) (hX : Below w.heap.size w X) => leafR_any S ve X (hE.below hX) hl L[k] ho
  obtain ⟨ea, ec, rfl, -⟩ := hE
  obtain ⟨na, nc, rfl, hc⟩ := hN
  obtain ⟨ti, hi, hi0, hi1, hi2⟩ := info_parts info3
  clear hf
  generalize hA : tyF S [] L = A
  have hA0 : tyF S [] (L.drop 0) = A := hA
  clear hA
  have hb0 : Below w.heap.size w (w.alloc (.cells #[.int .i64 0, .int .i64 0, .int .i64 0] 50)) := bel1 _
  have K0 : Has (w.alloc (.cells #[.int .i64 0, .int .i64 0, .int .i64 0] 50)) w.heap.size #[.int .i64 0, .int .i64 0, .int .i64 0] := Has.new _ _ _ rfl
  go_enter Tryd.func15, Tryd.ntmps15
  go_wp2_with fail
  generalize (w.alloc (.cells #[.int .i64 0, .int .i64 0, .int .i64 0] 50)) = W0 at *
  go_loopw [8, 9] (fun u i wr => ∃ (k n : Nat) (st : List Int) (sa : Option Addr) (sc : Nat), k ≤ L.length ∧ n ≤ 256 ∧ u = .slice sa n sc ∧ i = .int .i64 (k : Int) ∧ Hid (H k = n ∧ st.length = n) ∧ Hid (tyF S st (L.drop k) = A) ∧ Hid (wr.ownsRow W0.heap.size 3 1 (.slice sa n sc) n (vI st)) ∧ Hid (Below W0.heap.size W0 wr)) (fun _ i _ => L.length - (intOf i).toNat)
  case atStart => exact ⟨0, 0, [], none, 0, by omega, by omega, rfl, rfl, ⟨H0, rfl⟩, hA0, World.ownsRow_nil _ _ _ _, Below.refl _ _⟩
  case round =>
    clear hA0
    obtain ⟨k, n, st, sa, sc, hkl, hn, rfl, rfl, hbs', hq', ow', hb'⟩ := hrel
    obtain ⟨hHn, hst⟩ := hbs'.out
    have hq := hq'.out
    have ow := ow'.out
    have hb := hb'.out
    clear hbs' hq' ow' hb'
    have hbw := bel_after hb0 hb0.size hb
    by_cases hlt : k < L.length
    case neg =>
      have s1 : ¬ (k : Int) < (L.length : Int) := by omega
      obtain rfl : k = L.length := by omega
      obtain rfl : n = 1 := by omega
      rw [ty_end S st L _ (Nat.le_refl _)] at hq
      obtain ⟨gs, cs', hsv, -, hgs, -⟩ := own_block ow (by omega)
      injection hsv with hsv1 _ hsv2
      subst hsv1
      subst hsv2
      have l0 : 0 < st.length := by omega
      have z0 := (ow.cellAt 0 (by omega)).trans (vI_get l0)
      rw [show st.getD 0 0 = st[0] by simp [List.getD_eq_getElem?_getD, l0]] at hq
      generalize st[0] = t0 at *
      subst hq
      have KZ := K0.below hb
      obtain ⟨_, KZ1, KZ2⟩ := id KZ
      clear kL hop Hk
      go_wp2_with fail
      obtain ⟨y0, Y1, y2⟩ := KZ.set3 (.int .i64 0) (.int .i64 0) (.int .i64 0)
      exact bodyPost_ret (v := .tuple #[.int .i64 t0, .agg #[.int .i64 0, .int .i64 0, .int .i64 0]]) (by simp [results, Tryd.results15, go_sem, Y1]) rfl ⟨rfl, bel3 hbw (Nat.le_refl _) _ _ _⟩
    case pos =>
      obtain ⟨g, o, rfl, hg, hx⟩ := hc.resolve_left (by intro e; rw [e] at hlt; simp at hlt)
      have hx0 := hx k hlt
      have cL := kL k hlt
      have s1 : (k : Int) < (L.length : Int) := by omega
      have s0 : (0 : Int) ≤ (k : Int) := by omega
      have tk : k + 1 ≤ L.length := hlt
      have hLeaf := ty_leaf S st L k hlt
      have hOne := ty_one S st L k hlt
      have hTwo := ty_two S st L k hlt
      have hpos := lf_pos S L[k]
      have hcase := hop k hlt
      have hk1 := Hk (k + 1) tk
      clear kL hop hx hc Hk
      generalize L[k] = x at *
      obtain ⟨op, val, nm, ln, cl⟩ := x
      simp only [RLeaf] at *
      have kQ : ∀ X : World, Below w.heap.size w X → X.cell? ⟨g, o + k * 5 + 3, none⟩ = some (.int .i64 ln) ∧ X.cell? ⟨g, o + k * 5 + 4, none⟩ = some (.int .i64 cl) := fun X hX => ⟨(hX.cell (p := ⟨g, _, none⟩) hg).trans hx0.2.2.2.1, (hX.cell (p := ⟨g, _, none⟩) hg).trans hx0.2.2.2.2⟩
      have p0 := (hbw.cell (p := ⟨g, _, none⟩) hg).trans hx0.1
      have p1 := (hbw.cell (p := ⟨g, _, none⟩) hg).trans hx0.2.1
      have p2 := (hbw.cell (p := ⟨g, _, none⟩) hg).trans hx0.2.2.1
      obtain ⟨p3, p4⟩ := kQ _ hbw
      clear hx0
      rcases hcase with ⟨ho, hH⟩ | ⟨⟨ho1, ho2⟩, hB, hn1, hH⟩ | ⟨ho1, hB, hn2, hH⟩
      · have kO : ∀ X, Calls Tryd.prog 25 #[.int .i64 op] X fun e w' => e = .returned (.int .i64 0) ∧ w' = X := fun X => by have := operands_any op X; rw [if_neg (by omega), if_neg (by omega)] at this; exact this
        have cL := cL ho
        rw [hLeaf (by omega)] at hq
        clear hLeaf hOne hTwo
        generalize lfF S ⟨op, val, nm, ln, cl⟩ = r at *
        obtain ⟨tt, cc⟩ := r
        simp only at *
        by_cases hc0 : cc = 0
        · have htt := hpos hc0
          subst hc0
          have n0 : (tt == 0) = false := by simpa using htt
          simp only [ne_eq, not_true_eq_false, if_false] at hq
          go_wp2_with fail
          go_at_call 25
          refine Calls.mono (kO _) ?_
          rintro e wx ⟨rfl, hwx⟩
          have hwy := hwx.symm
          clear hwx
          subst hwy
          go_wp2_with fail
          go_at_call 26
          refine Calls.mono (cL _ (by exact hbw)) ?_
          rintro e w2 ⟨rfl, hb2⟩
          have hbM := bel_after hb hb.size hb2
          have o2 := own_bel ow hb2
          go_wp2_with (at_builtin; (refine wpList_append_mine _ rfl _ _ 75 rfl W0.heap.size 3 ti _ 1 8 Tryd.underlying75 hi hi0 hi1 hi2 rfl (by decide) (.slice sa n sc) n (vI st) rfl (own_bel o2 (bel1 _)) ⟨w2.heap.size, 0, none⟩ 1 1 [.int .i64 tt] rfl rfl (cells_at (W := w2) rfl _ _) (all_one rfl) (by decide) (by unfold maxLen; omega) (by omega) (by have := hbM.size; simp; omega) ?_); intro g' c' y o3 gr _ _ _; have b3 := grown_bel (hbM.alloc hbM.size _) gr (Nat.le_refl _) (fun q hq => (own_lt o2 q hq).1))
          go_roundw
          case rel => exact ⟨k + 1, n + 1, st ++ [tt], _, _, by omega, by omega, rfl, by go_num, ⟨by omega, by simp; omega⟩, hq, (by show World.ownsRow _ _ _ _ _ _ _; rw [show vI (st ++ [tt]) = vI st ++ [.int .i64 tt] by simp [vI]]; exact o3), b3⟩
          case measure => simp [intOf]; omega
        · rw [if_pos hc0] at hq
          subst hq
          have n0 : (cc == 0) = false := by simpa using hc0
          have n1 : (cc != 0) = true := by simpa using hc0
          go_wp2_with fail
          go_at_call 25
          refine Calls.mono (kO _) ?_
          rintro e wx ⟨rfl, hwx⟩
          have hwy := hwx.symm
          clear hwx
          subst hwy
          go_wp2_with fail
          go_at_call 26
          refine Calls.mono (cL _ (by exact hbw)) ?_
          rintro e w2 ⟨rfl, hb2⟩
          have hbM := bel_after hb hb.size hb2
          have o2 := own_bel ow hb2
          go_wp2_with (at_builtin; (refine wpList_append_mine _ rfl _ _ 75 rfl W0.heap.size 3 ti _ 1 8 Tryd.underlying75 hi hi0 hi1 hi2 rfl (by decide) (.slice sa n sc) n (vI st) rfl (own_bel o2 (bel1 _)) ⟨w2.heap.size, 0, none⟩ 1 1 [.int .i64 tt] rfl rfl (cells_at (W := w2) rfl _ _) (all_one rfl) (by decide) (by unfold maxLen; omega) (by omega) (by have := hbM.size; simp; omega) ?_); intro g' c' y o3 gr _ _ _; have b3 := grown_bel (hbM.alloc hbM.size _) gr (Nat.le_refl _) (fun q hq => (own_lt o2 q hq).1))
          have hbZ := bel_after hb0 hb0.size b3
          have KZ := K0.below b3
          obtain ⟨_, KZ1, KZ2⟩ := id KZ
          refine wp_region_noPanic ?_
          refine wp_region_held_drew (S := fun w' => w'.cell? ⟨g, o + k * 5 + 3, none⟩ = some (.int .i64 ln) ∧ w'.cell? ⟨g, o + k * 5 + 4, none⟩ = some (.int .i64 cl)) (by kernel_rfl) ?_ (fun hHeld => ?_)
          · (try dsimp only)
            exact kQ _ hbZ.drew
          refine wpAnyH_take (i := 0) (oi := { dst := some 90, op := Op.move (Operand.tmp 12), type := 46, pos := "ref.go:187", after := #[{ on := 7, ground := Ground.gcOnly Departure.lateStores }], guard := none }) (v := ?_) rfl (by kernel_rfl) (by kernel_rfl) (by kernel_rfl) (fun _ _ _ h => h) (Or.inl ⟨by rfl, ?_⟩) (by assumption) ?_
          rotate_left
          · intro wz hSz; (try dsimp only at hSz); go_simp; all_goals (with_reducible rfl)
          (try simp only [Act.put, List.setIfInBounds_toArray, List.set_cons_zero, List.set_cons_succ])
          refine wpAnyH_take (i := 1) (oi := { dst := some 91, op := Op.move (Operand.tmp 2), type := 23, pos := "ref.go:187", after := #[{ on := 7, ground := Ground.gcOnly Departure.lateStores }], guard := none }) (v := ?_) rfl (by kernel_rfl) (by kernel_rfl) (by kernel_rfl) (fun _ _ _ h => h) (Or.inl ⟨by rfl, ?_⟩) (by assumption) ?_
          rotate_left
          · intro wz hSz; (try dsimp only at hSz); go_simp; all_goals (with_reducible rfl)
          (try simp only [Act.put, List.setIfInBounds_toArray, List.set_cons_zero, List.set_cons_succ])
          refine wpAnyH_take (i := 2) (oi := { dst := some 92, op := Op.move (Operand.tmp 9), type := 3, pos := "ref.go:187", after := #[{ on := 7, ground := Ground.gcOnly Departure.lateStores }], guard := none }) (v := ?_) rfl (by kernel_rfl) (by kernel_rfl) (by kernel_rfl) (fun _ _ _ h => h) (Or.inl ⟨by rfl, ?_⟩) (by assumption) ?_
          rotate_left
          · intro wz hSz; (try dsimp only at hSz); go_simp; all_goals (with_reducible rfl)
          (try simp only [Act.put, List.setIfInBounds_toArray, List.set_cons_zero, List.set_cons_succ])
          refine wpAnyH_take (i := 3) (oi := { dst := some 93, op := Op.indexAddr 23 (Operand.tmp 91) (Operand.tmp 92), type := 0, pos := "ref.go:187", after := #[{ on := 1, ground := Ground.data }, { on := 2, ground := Ground.data }, { on := 7, ground := Ground.gcOnly Departure.lateStores }], guard := none }) (v := ?_) rfl (by kernel_rfl) (by kernel_rfl) (by kernel_rfl) (fun _ _ _ h => h) (Or.inl ⟨by rfl, ?_⟩) (by assumption) ?_
          rotate_left
          · intro wz hSz; (try dsimp only at hSz); go_simp; all_goals (with_reducible rfl)
          (try simp only [Act.put, List.setIfInBounds_toArray, List.set_cons_zero, List.set_cons_succ])
          refine wpAnyH_take (i := 4) (oi := { dst := some 94, op := Op.fieldAddr 60 (Operand.tmp 93) 3, type := 0, pos := "ref.go:187", after := #[{ on := 3, ground := Ground.data }, { on := 7, ground := Ground.gcOnly Departure.lateStores }], guard := none }) (v := ?_) rfl (by kernel_rfl) (by kernel_rfl) (by kernel_rfl) (fun _ _ _ h => h) (Or.inl ⟨by rfl, ?_⟩) (by assumption) ?_
          rotate_left
          · intro wz hSz; (try dsimp only at hSz); go_simp; all_goals (with_reducible rfl)
          (try simp only [Act.put, List.setIfInBounds_toArray, List.set_cons_zero, List.set_cons_succ])
          refine wpAnyH_take (i := 5) (oi := { dst := some 95, op := Op.load 48 (Operand.tmp 94), type := 48, pos := "ref.go:187", after := #[{ on := 4, ground := Ground.data }, { on := 7, ground := Ground.gcOnly Departure.lateStores }], guard := none }) (v := ?_) rfl (by kernel_rfl) (by kernel_rfl) (by kernel_rfl) (fun _ _ _ h => h) (Or.inl ⟨by rfl, ?_⟩) (by assumption) ?_
          rotate_left
          · intro wz hSz; (try dsimp only at hSz); go_simp; all_goals (with_reducible rfl)
          (try simp only [Act.put, List.setIfInBounds_toArray, List.set_cons_zero, List.set_cons_succ])
          refine wpAnyH_take (i := 6) (oi := { dst := some 96, op := Op.build 50 #[(0, Operand.tmp 90), (1, Operand.tmp 95)], type := 50, pos := "ref.go:187", after := #[{ on := 0, ground := Ground.data }, { on := 5, ground := Ground.data }, { on := 7, ground := Ground.gcOnly Departure.lateStores }], guard := none }) (v := ?_) rfl (by kernel_rfl) (by kernel_rfl) (by kernel_rfl) (fun _ _ _ h => h) (Or.inl ⟨by rfl, ?_⟩) (by assumption) ?_
          rotate_left
          · intro wz hSz; (try dsimp only at hSz); go_simp; all_goals (with_reducible rfl)
          (try simp only [Act.put, List.setIfInBounds_toArray, List.set_cons_zero, List.set_cons_succ])
          refine wpAnyH_take (i := 7) (oi := { dst := some 6, op := Op.assign (Operand.const (Value.int IntKind.i64 0)), type := 3, pos := "ref.go:187", after := #[{ on := 0, ground := Ground.textOnly Departure.lateStores }, { on := 1, ground := Ground.textOnly Departure.lateStores }, { on := 2, ground := Ground.textOnly Departure.lateStores }, { on := 3, ground := Ground.textOnly Departure.lateStores }, { on := 4, ground := Ground.textOnly Departure.lateStores }, { on := 5, ground := Ground.textOnly Departure.lateStores }, { on := 6, ground := Ground.textOnly Departure.lateStores }], guard := none }) (v := ?_) rfl (by kernel_rfl) (by kernel_rfl) (by kernel_rfl) (fun _ _ _ h => h) (Or.inl ⟨by rfl, ?_⟩) (by assumption) ?_
          rotate_left
          · intro wz hSz; (try dsimp only at hSz); go_simp; all_goals (with_reducible rfl)
          (try simp only [Act.put, List.setIfInBounds_toArray, List.set_cons_zero, List.set_cons_succ])
          refine wpAnyH_ready (rs := [8]) (by kernel_rfl) (by simp) ?_
          refine AllReadyH.cons (o := { dst := none, op := Op.store 50 (Operand.tmp 7) (Operand.tmp 96), type := 0, pos := "ref.go:187", after := #[{ on := 6, ground := Ground.data }, { on := 7, ground := Ground.chain }, { on := 0, ground := Ground.phase }, { on := 1, ground := Ground.phase }, { on := 2, ground := Ground.phase }, { on := 3, ground := Ground.phase }, { on := 4, ground := Ground.phase }, { on := 5, ground := Ground.phase }, { on := 6, ground := Ground.phase }, { on := 7, ground := Ground.phase }], guard := none }) rfl (fun K hK => ?_) AllReadyH.nil
          go_simp
          refine hK.out _ _ ?_ (fun hHeld => ?_)
          · (try dsimp only)
            exact kQ _ (bel3 hbZ.drew (Nat.le_refl _) _ _ _)
          clear hK K
          (try simp only [Act.put, List.setIfInBounds_toArray, List.set_cons_zero, List.set_cons_succ])
          refine wpAnyH_done (by kernel_rfl) ?_ _
          refine NoPanic.normal ?_
          go_wp2_with fail
          obtain ⟨y0, Y1, y2⟩ := (KZ.set3 (.int .i64 cc) (.int .i64 ln) (.int .i64 cl)).drew
          exact bodyPost_ret (v := .tuple #[.int .i64 0, .agg #[.int .i64 cc, .int .i64 ln, .int .i64 cl]]) (by simp [results, Tryd.results15, go_sem, Y1]) rfl ⟨rfl, (bel3 hbZ (Nat.le_refl _) _ _ _).drew⟩
      · have kO : ∀ X, Calls Tryd.prog 25 #[.int .i64 op] X fun e w' => e = .returned (.int .i64 1) ∧ w' = X := fun X => by have := operands_any op X; rw [if_neg (by omega), if_pos ho1] at this; exact this
        obtain ⟨m, rfl⟩ : ∃ m, n = m + 1 := ⟨n - 1, by omega⟩
        rw [hOne ho1 ho2, hst] at hq
        clear hLeaf hOne hTwo cL hpos
        have lm : m < st.length := by omega
        simp only [Nat.add_sub_cancel] at hq
        rw [show st.getD m 0 = st[m] by simp [List.getD_eq_getElem?_getD, lm]] at hq
        obtain ⟨gs, cs', hsv, -, hgs, -⟩ := own_block ow (by omega)
        injection hsv with hsv1 _ hsv2
        subst hsv1
        subst hsv2
        have Bc := fun (X : World) (hX : X.ownsRow W0.heap.size 3 1 (.slice (some ⟨gs, 0, none⟩) (m + 1) sc) (m + 1) (vI st)) => (hX.cellAt m (by omega)).trans (vI_get lm)
        have i0 : (0 : Int) ≤ (m : Int) := by omega
        have i1 : (m : Int) < ((m + 1 : Nat) : Int) := by omega
        have i2 : (m : Int) < (m : Int) + 1 := by omega
        have kR := fun X => result_any op st[m] 0 X hB
        have zr := Bc _ ow
        generalize st[m] = tm at *
        generalize resF op tm 0 = tt at *
        go_wp2_with fail
        go_at_call 25
        refine Calls.mono (kO _) ?_
        rintro e wx ⟨rfl, hwx⟩
        have hwy := hwx.symm
        clear hwx
        subst hwy
        go_wp2_with fail
        go_quiet ((go_at_call 27; exact Calls.quiet_of_same (kR _)))
        have o2 := own_bel ow (bel_drewN (n := nq) (Below.refl _ _))
        have hbM : Below W0.heap.size W0 (wr.drewN nq) := bel_drewN hb
        have zc := Bc _ o2
        have zf := o2.frozenAt m
        have o3 := (o2.stored m (.int .i64 tt)).1
        have b3 : Below W0.heap.size W0 ((wr.drewN nq).setCell ⟨gs, m, none⟩ (.int .i64 tt)) := hbM.setCell hgs _
        by_cases ht0 : tt = 0
        · subst ht0
          rw [if_pos rfl] at hq
          subst hq
          go_wp2_with fail
          have hbZ := bel_after hb0 hb0.size b3
          have KZ := K0.below b3
          obtain ⟨_, KZ1, KZ2⟩ := id KZ
          refine wp_region_noPanic ?_
          refine wp_region_held_drew (S := fun w' => w'.cell? ⟨g, o + k * 5 + 3, none⟩ = some (.int .i64 ln) ∧ w'.cell? ⟨g, o + k * 5 + 4, none⟩ = some (.int .i64 cl)) (by kernel_rfl) ?_ (fun hHeld => ?_)
          · (try dsimp only)
            exact kQ _ hbZ.drew
          refine wpAnyH_take (i := 0) (oi := { dst := some 99, op := Op.move (Operand.tmp 2), type := 23, pos := "ref.go:190", after := #[{ on := 6, ground := Ground.gcOnly Departure.lateStores }], guard := none }) (v := ?_) rfl (by kernel_rfl) (by kernel_rfl) (by kernel_rfl) (fun _ _ _ h => h) (Or.inl ⟨by rfl, ?_⟩) (by assumption) ?_
          rotate_left
          · intro wz hSz; (try dsimp only at hSz); go_simp; all_goals (with_reducible rfl)
          (try simp only [Act.put, List.setIfInBounds_toArray, List.set_cons_zero, List.set_cons_succ])
          refine wpAnyH_take (i := 1) (oi := { dst := some 100, op := Op.move (Operand.tmp 9), type := 3, pos := "ref.go:190", after := #[{ on := 6, ground := Ground.gcOnly Departure.lateStores }], guard := none }) (v := ?_) rfl (by kernel_rfl) (by kernel_rfl) (by kernel_rfl) (fun _ _ _ h => h) (Or.inl ⟨by rfl, ?_⟩) (by assumption) ?_
          rotate_left
          · intro wz hSz; (try dsimp only at hSz); go_simp; all_goals (with_reducible rfl)
          (try simp only [Act.put, List.setIfInBounds_toArray, List.set_cons_zero, List.set_cons_succ])
          refine wpAnyH_take (i := 2) (oi := { dst := some 101, op := Op.indexAddr 23 (Operand.tmp 99) (Operand.tmp 100), type := 0, pos := "ref.go:190", after := #[{ on := 0, ground := Ground.data }, { on := 1, ground := Ground.data }, { on := 6, ground := Ground.gcOnly Departure.lateStores }], guard := none }) (v := ?_) rfl (by kernel_rfl) (by kernel_rfl) (by kernel_rfl) (fun _ _ _ h => h) (Or.inl ⟨by rfl, ?_⟩) (by assumption) ?_
          rotate_left
          · intro wz hSz; (try dsimp only at hSz); go_simp; all_goals (with_reducible rfl)
          (try simp only [Act.put, List.setIfInBounds_toArray, List.set_cons_zero, List.set_cons_succ])
          refine wpAnyH_take (i := 3) (oi := { dst := some 102, op := Op.fieldAddr 60 (Operand.tmp 101) 3, type := 0, pos := "ref.go:190", after := #[{ on := 2, ground := Ground.data }, { on := 6, ground := Ground.gcOnly Departure.lateStores }], guard := none }) (v := ?_) rfl (by kernel_rfl) (by kernel_rfl) (by kernel_rfl) (fun _ _ _ h => h) (Or.inl ⟨by rfl, ?_⟩) (by assumption) ?_
          rotate_left
          · intro wz hSz; (try dsimp only at hSz); go_simp; all_goals (with_reducible rfl)
          (try simp only [Act.put, List.setIfInBounds_toArray, List.set_cons_zero, List.set_cons_succ])
          refine wpAnyH_take (i := 4) (oi := { dst := some 103, op := Op.load 48 (Operand.tmp 102), type := 48, pos := "ref.go:190", after := #[{ on := 3, ground := Ground.data }, { on := 6, ground := Ground.gcOnly Departure.lateStores }], guard := none }) (v := ?_) rfl (by kernel_rfl) (by kernel_rfl) (by kernel_rfl) (fun _ _ _ h => h) (Or.inl ⟨by rfl, ?_⟩) (by assumption) ?_
          rotate_left
          · intro wz hSz; (try dsimp only at hSz); go_simp; all_goals (with_reducible rfl)
          (try simp only [Act.put, List.setIfInBounds_toArray, List.set_cons_zero, List.set_cons_succ])
          refine wpAnyH_take (i := 5) (oi := { dst := some 104, op := Op.build 50 #[(0, Operand.const (Value.int IntKind.i64 53)), (1, Operand.tmp 103)], type := 50, pos := "ref.go:190", after := #[{ on := 4, ground := Ground.data }, { on := 6, ground := Ground.gcOnly Departure.lateStores }], guard := none }) (v := ?_) rfl (by kernel_rfl) (by kernel_rfl) (by kernel_rfl) (fun _ _ _ h => h) (Or.inl ⟨by rfl, ?_⟩) (by assumption) ?_
          rotate_left
          · intro wz hSz; (try dsimp only at hSz); go_simp; all_goals (with_reducible rfl)
          (try simp only [Act.put, List.setIfInBounds_toArray, List.set_cons_zero, List.set_cons_succ])
          refine wpAnyH_take (i := 6) (oi := { dst := some 6, op := Op.assign (Operand.const (Value.int IntKind.i64 0)), type := 3, pos := "ref.go:190", after := #[{ on := 0, ground := Ground.textOnly Departure.lateStores }, { on := 1, ground := Ground.textOnly Departure.lateStores }, { on := 2, ground := Ground.textOnly Departure.lateStores }, { on := 3, ground := Ground.textOnly Departure.lateStores }, { on := 4, ground := Ground.textOnly Departure.lateStores }, { on := 5, ground := Ground.textOnly Departure.lateStores }], guard := none }) (v := ?_) rfl (by kernel_rfl) (by kernel_rfl) (by kernel_rfl) (fun _ _ _ h => h) (Or.inl ⟨by rfl, ?_⟩) (by assumption) ?_
          rotate_left
          · intro wz hSz; (try dsimp only at hSz); go_simp; all_goals (with_reducible rfl)
          (try simp only [Act.put, List.setIfInBounds_toArray, List.set_cons_zero, List.set_cons_succ])
          refine wpAnyH_ready (rs := [7]) (by kernel_rfl) (by simp) ?_
          refine AllReadyH.cons (o := { dst := none, op := Op.store 50 (Operand.tmp 7) (Operand.tmp 104), type := 0, pos := "ref.go:190", after := #[{ on := 5, ground := Ground.data }, { on := 6, ground := Ground.chain }, { on := 0, ground := Ground.phase }, { on := 1, ground := Ground.phase }, { on := 2, ground := Ground.phase }, { on := 3, ground := Ground.phase }, { on := 4, ground := Ground.phase }, { on := 5, ground := Ground.phase }, { on := 6, ground := Ground.phase }], guard := none }) rfl (fun K hK => ?_) AllReadyH.nil
          go_simp
          refine hK.out _ _ ?_ (fun hHeld => ?_)
          · (try dsimp only)
            exact kQ _ (bel3 hbZ.drew (Nat.le_refl _) _ _ _)
          clear hK K
          (try simp only [Act.put, List.setIfInBounds_toArray, List.set_cons_zero, List.set_cons_succ])
          refine wpAnyH_done (by kernel_rfl) ?_ _
          refine NoPanic.normal ?_
          go_wp2_with fail
          obtain ⟨y0, Y1, y2⟩ := (KZ.set3 (.int .i64 53) (.int .i64 ln) (.int .i64 cl)).drew
          exact bodyPost_ret (v := .tuple #[.int .i64 0, .agg #[.int .i64 53, .int .i64 ln, .int .i64 cl]]) (by simp [results, Tryd.results15, go_sem, Y1]) rfl ⟨rfl, (bel3 hbZ (Nat.le_refl _) _ _ _).drew⟩
        · have n0 : (tt == 0) = false := by simpa using ht0
          rw [if_neg ht0] at hq
          go_wp2_with fail
          go_roundw
          case rel => exact ⟨k + 1, m + 1, st.take m ++ [tt], _, _, by omega, by omega, rfl, by go_num, ⟨by omega, by simp; omega⟩, hq, (by show World.ownsRow _ _ _ _ _ _ _; rw [← set_last hst, show vI (st.set m tt) = (vI st).set m (.int .i64 tt) by simp [vI, List.map_set]]; exact o3), b3⟩
          case measure => simp [intOf]; omega
      · have kO : ∀ X, Calls Tryd.prog 25 #[.int .i64 op] X fun e w' => e = .returned (.int .i64 2) ∧ w' = X := fun X => by have := operands_any op X; rw [if_pos ho1] at this; exact this
        obtain ⟨m, rfl⟩ : ∃ m, n = m + 2 := ⟨n - 2, by omega⟩
        rw [hTwo ho1, hst] at hq
        clear hLeaf hOne hTwo cL hpos
        have lm : m < st.length := by omega
        have lm1 : m + 1 < st.length := by omega
        rw [show m + 2 - 2 = m by omega, show m + 2 - 1 = m + 1 by omega] at hq
        rw [show st.getD m 0 = st[m] by simp [List.getD_eq_getElem?_getD, lm], show st.getD (m + 1) 0 = st[m + 1] by simp [List.getD_eq_getElem?_getD, lm1]] at hq
        obtain ⟨gs, cs', hsv, hcp, hgs, -⟩ := own_block ow (by omega)
        injection hsv with hsv1 _ hsv2
        subst hsv1
        subst hsv2
        have Bc := fun (X : World) (hX : X.ownsRow W0.heap.size 3 1 (.slice (some ⟨gs, 0, none⟩) (m + 2) sc) (m + 2) (vI st)) => (hX.cellAt m (by omega)).trans (vI_get lm)
        have Bd := fun (X : World) (hX : X.ownsRow W0.heap.size 3 1 (.slice (some ⟨gs, 0, none⟩) (m + 2) sc) (m + 2) (vI st)) => (hX.cellAt (m + 1) (by omega)).trans (vI_get lm1)
        have i0 : (0 : Int) ≤ (m : Int) := by omega
        have i1 : (m : Int) < ((m + 2 : Nat) : Int) := by omega
        have i2 : (m : Int) < (m : Int) + 2 := by omega
        have i3 : (m : Int) + 1 < (m : Int) + 2 := by omega
        have i4 : (0 : Int) ≤ (m : Int) + 1 := by omega
        have i5 : (m : Int) + 1 ≤ (sc : Int) := by omega
        have i6 : m + 1 ≤ sc := by omega
        have kR := fun X => result_any op st[m] st[m + 1] X hB
        have zr := Bc _ ow
        have zs := Bd _ ow
        generalize st[m] = ta at *
        generalize st[m + 1] = tb at *
        generalize resF op ta tb = tt at *
        go_wp2_with fail
        go_at_call 25
        refine Calls.mono (kO _) ?_
        rintro e wx ⟨rfl, hwx⟩
        have hwy := hwx.symm
        clear hwx
        subst hwy
        go_wp2_with fail
        go_quiet ((go_at_call 27; exact Calls.quiet_of_same (kR _)))
        have o2 := own_bel ow (bel_drewN (n := nq) (Below.refl _ _))
        have hbM : Below W0.heap.size W0 (wr.drewN nq) := bel_drewN hb
        have zc := Bc _ o2
        have zf := o2.frozenAt m
        have o3 := ownsRow_cut (m := m + 1) (by omega) (o2.stored m (.int .i64 tt)).1
        have b3 : Below W0.heap.size W0 ((wr.drewN nq).setCell ⟨gs, m, none⟩ (.int .i64 tt)) := hbM.setCell hgs _
        by_cases ht0 : tt = 0
        · subst ht0
          rw [if_pos rfl] at hq
          subst hq
          go_wp2_with fail
          have hbZ := bel_after hb0 hb0.size b3
          have KZ := K0.below b3
          obtain ⟨_, KZ1, KZ2⟩ := id KZ
          refine wp_region_noPanic ?_
          refine wp_region_held_drew (S := fun w' => w'.cell? ⟨g, o + k * 5 + 3, none⟩ = some (.int .i64 ln) ∧ w'.cell? ⟨g, o + k * 5 + 4, none⟩ = some (.int .i64 cl)) (by kernel_rfl) ?_ (fun hHeld => ?_)
          · (try dsimp only)
            exact kQ _ hbZ.drew
          refine wpAnyH_take (i := 0) (oi := { dst := some 99, op := Op.move (Operand.tmp 2), type := 23, pos := "ref.go:190", after := #[{ on := 6, ground := Ground.gcOnly Departure.lateStores }], guard := none }) (v := ?_) rfl (by kernel_rfl) (by kernel_rfl) (by kernel_rfl) (fun _ _ _ h => h) (Or.inl ⟨by rfl, ?_⟩) (by assumption) ?_
          rotate_left
          · intro wz hSz; (try dsimp only at hSz); go_simp; all_goals (with_reducible rfl)
          (try simp only [Act.put, List.setIfInBounds_toArray, List.set_cons_zero, List.set_cons_succ])
          refine wpAnyH_take (i := 1) (oi := { dst := some 100, op := Op.move (Operand.tmp 9), type := 3, pos := "ref.go:190", after := #[{ on := 6, ground := Ground.gcOnly Departure.lateStores }], guard := none }) (v := ?_) rfl (by kernel_rfl) (by kernel_rfl) (by kernel_rfl) (fun _ _ _ h => h) (Or.inl ⟨by rfl, ?_⟩) (by assumption) ?_
          rotate_left
          · intro wz hSz; (try dsimp only at hSz); go_simp; all_goals (with_reducible rfl)
          (try simp only [Act.put, List.setIfInBounds_toArray, List.set_cons_zero, List.set_cons_succ])
          refine wpAnyH_take (i := 2) (oi := { dst := some 101, op := Op.indexAddr 23 (Operand.tmp 99) (Operand.tmp 100), type := 0, pos := "ref.go:190", after := #[{ on := 0, ground := Ground.data }, { on := 1, ground := Ground.data }, { on := 6, ground := Ground.gcOnly Departure.lateStores }], guard := none }) (v := ?_) rfl (by kernel_rfl) (by kernel_rfl) (by kernel_rfl) (fun _ _ _ h => h) (Or.inl ⟨by rfl, ?_⟩) (by assumption) ?_
          rotate_left
          · intro wz hSz; (try dsimp only at hSz); go_simp; all_goals (with_reducible rfl)
          (try simp only [Act.put, List.setIfInBounds_toArray, List.set_cons_zero, List.set_cons_succ])
          refine wpAnyH_take (i := 3) (oi := { dst := some 102, op := Op.fieldAddr 60 (Operand.tmp 101) 3, type := 0, pos := "ref.go:190", after := #[{ on := 2, ground := Ground.data }, { on := 6, ground := Ground.gcOnly Departure.lateStores }], guard := none }) (v := ?_) rfl (by kernel_rfl) (by kernel_rfl) (by kernel_rfl) (fun _ _ _ h => h) (Or.inl ⟨by rfl, ?_⟩) (by assumption) ?_
          rotate_left
          · intro wz hSz; (try dsimp only at hSz); go_simp; all_goals (with_reducible rfl)
          (try simp only [Act.put, List.setIfInBounds_toArray, List.set_cons_zero, List.set_cons_succ])
          refine wpAnyH_take (i := 4) (oi := { dst := some 103, op := Op.load 48 (Operand.tmp 102), type := 48, pos := "ref.go:190", after := #[{ on := 3, ground := Ground.data }, { on := 6, ground := Ground.gcOnly Departure.lateStores }], guard := none }) (v := ?_) rfl (by kernel_rfl) (by kernel_rfl) (by kernel_rfl) (fun _ _ _ h => h) (Or.inl ⟨by rfl, ?_⟩) (by assumption) ?_
          rotate_left
          · intro wz hSz; (try dsimp only at hSz); go_simp; all_goals (with_reducible rfl)
          (try simp only [Act.put, List.setIfInBounds_toArray, List.set_cons_zero, List.set_cons_succ])
          refine wpAnyH_take (i := 5) (oi := { dst := some 104, op := Op.build 50 #[(0, Operand.const (Value.int IntKind.i64 53)), (1, Operand.tmp 103)], type := 50, pos := "ref.go:190", after := #[{ on := 4, ground := Ground.data }, { on := 6, ground := Ground.gcOnly Departure.lateStores }], guard := none }) (v := ?_) rfl (by kernel_rfl) (by kernel_rfl) (by kernel_rfl) (fun _ _ _ h => h) (Or.inl ⟨by rfl, ?_⟩) (by assumption) ?_
          rotate_left
          · intro wz hSz; (try dsimp only at hSz); go_simp; all_goals (with_reducible rfl)
          (try simp only [Act.put, List.setIfInBounds_toArray, List.set_cons_zero, List.set_cons_succ])
          refine wpAnyH_take (i := 6) (oi := { dst := some 6, op := Op.assign (Operand.const (Value.int IntKind.i64 0)), type := 3, pos := "ref.go:190", after := #[{ on := 0, ground := Ground.textOnly Departure.lateStores }, { on := 1, ground := Ground.textOnly Departure.lateStores }, { on := 2, ground := Ground.textOnly Departure.lateStores }, { on := 3, ground := Ground.textOnly Departure.lateStores }, { on := 4, ground := Ground.textOnly Departure.lateStores }, { on := 5, ground := Ground.textOnly Departure.lateStores }], guard := none }) (v := ?_) rfl (by kernel_rfl) (by kernel_rfl) (by kernel_rfl) (fun _ _ _ h => h) (Or.inl ⟨by rfl, ?_⟩) (by assumption) ?_
          rotate_left
          · intro wz hSz; (try dsimp only at hSz); go_simp; all_goals (with_reducible rfl)
          (try simp only [Act.put, List.setIfInBounds_toArray, List.set_cons_zero, List.set_cons_succ])
          refine wpAnyH_ready (rs := [7]) (by kernel_rfl) (by simp) ?_
          refine AllReadyH.cons (o := { dst := none, op := Op.store 50 (Operand.tmp 7) (Operand.tmp 104), type := 0, pos := "ref.go:190", after := #[{ on := 5, ground := Ground.data }, { on := 6, ground := Ground.chain }, { on := 0, ground := Ground.phase }, { on := 1, ground := Ground.phase }, { on := 2, ground := Ground.phase }, { on := 3, ground := Ground.phase }, { on := 4, ground := Ground.phase }, { on := 5, ground := Ground.phase }, { on := 6, ground := Ground.phase }], guard := none }) rfl (fun K hK => ?_) AllReadyH.nil
          go_simp
          refine hK.out _ _ ?_ (fun hHeld => ?_)
          · (try dsimp only)
            exact kQ _ (bel3 hbZ.drew (Nat.le_refl _) _ _ _)
          clear hK K
          (try simp only [Act.put, List.setIfInBounds_toArray, List.set_cons_zero, List.set_cons_succ])
          refine wpAnyH_done (by kernel_rfl) ?_ _
          refine NoPanic.normal ?_
          go_wp2_with fail
          obtain ⟨y0, Y1, y2⟩ := (KZ.set3 (.int .i64 53) (.int .i64 ln) (.int .i64 cl)).drew
          exact bodyPost_ret (v := .tuple #[.int .i64 0, .agg #[.int .i64 53, .int .i64 ln, .int .i64 cl]]) (by simp [results, Tryd.results15, go_sem, Y1]) rfl ⟨rfl, (bel3 hbZ (Nat.le_refl _) _ _ _).drew⟩
        · have n0 : (tt == 0) = false := by simpa using ht0
          rw [if_neg ht0] at hq
          go_wp2_with fail
          go_roundw
          case rel => exact ⟨k + 1, m + 1, st.take m ++ [tt], _, _, by omega, by omega, rfl, by go_num, ⟨by omega, by simp; omega⟩, hq, (by show World.ownsRow _ _ _ _ _ _ _; rw [← set_two hst, show vI ((st.set m tt).take (m + 1)) = ((vI st).set m (.int .i64 tt)).take ((m + 1) * 1) by simp [vI, List.map_set, List.map_take]]; exact o3), b3⟩
          case measure => simp [intOf]; omega
end Go.Proofs.YtfmdlcfkfglnhaaDoor
