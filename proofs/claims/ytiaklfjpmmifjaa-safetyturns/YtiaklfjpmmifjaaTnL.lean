import Derived.Test.YtiaklfjpmmifjaaTnC
import Derived.Test.YtiaklfjpmmifjaaIntA
namespace Go.Proofs.Ytiaklfjpmmifjaa
open Go.RowKit
set_option linter.unusedVariables false

theorem far5 (V : World) (g b : Nat) (hb : b ≠ g) (a0 a1 a2 a3 a4 : Nat) (v0 v1 v2 v3 v4 : Value) (o : Nat) : ((((((V.setCell ⟨g, a0, none⟩ v0).setCell ⟨g, a1, none⟩ v1).setCell ⟨g, a2, none⟩ v2).setCell ⟨g, a3, none⟩ v3).setCell ⟨g, a4, none⟩ v4).drew).cell? ⟨b, o, none⟩ = V.cell? ⟨b, o, none⟩ := by
  have key : ∀ (V : World) (a : Nat) (v : Value), (V.setCell ⟨g, a, none⟩ v).cell? ⟨b, o, none⟩ = V.cell? ⟨b, o, none⟩ := fun V a v => World.cell?_setCell_other V ⟨g, a, none⟩ ⟨b, o, none⟩ v (by intro e; exact hb (congrArg Addr.block e).symm)
  have hd : ∀ X : World, X.drew.cell? ⟨b, o, none⟩ = X.cell? ⟨b, o, none⟩ := fun _ => rfl
  rw [hd, key, key, key, key, key]
theorem only_cells (g : Nat) : ∀ (cs : List Value) (w : World) (o : Nat), Only (fun q => q = g) w (setCells w g o cs)
  | [], w, _ => Only.refl _ w
  | c :: cs, w, o => ((Only.refl (fun q => q = g) w).set (b := g) (i := o) rfl c).trans (only_cells g cs _ _)
/-- What stands at the loops' heads. -/
structure Tn (w : World) (b : Nat) (vg vc ug : Value) (n : Nat) (X : List Gp) (B : Nat) (L : List Cf) (uc : Value) (V : World) : Prop where
  b5 : Has V w.heap.size #[vg, vc]
  b12 : Has V b #[ug, uc]
  g : V.ownsRow B 44 5 ug n (cellsF Gp.cs X)
  c : V.ownsRow (b + 1) 47 4 uc L.length (cellsF Cf.cs L)
  bel : Below w.heap.size w V
theorem Tn.below {w : World} {b : Nat} {vg vc ug : Value} {n : Nat} {X : List Gp} {B : Nat} {L : List Cf} {uc : Value} {V V' : World} (h : Tn w b vg vc ug n X B L uc V) (hb : Below V.heap.size V V') : Tn w b vg vc ug n X B L uc V' :=
  ⟨h.b5.below hb, h.b12.below hb, own_only2 h.g (Only.of_below (S := fun _ => False) hb) (fun _ _ h => h), own_only2 h.c (Only.of_below (S := fun _ => False) hb) (fun _ _ h => h), h.bel.trans (hb.mono h.bel.size)⟩
theorem inn_nil (C : List Cf) (i j a : Nat) : ∀ m, m ≤ a + 1 → innT C i j a m = []
  | 0, _ => rfl
  | m + 1, h => by
    unfold innT
    rw [inn_nil C i j a m (by omega), if_neg (by omega)]; rfl
theorem row_len (C : List Cf) (i j a b : Nat) : (rowT C i j a b).length ≤ 1 := by unfold rowT; split <;> simp
theorem inn_len (C : List Cf) (i j a : Nat) : ∀ m, (innT C i j a m).length ≤ m
  | 0 => by simp [innT]
  | m + 1 => by
    have := inn_len C i j a m
    unfold innT
    rw [List.length_append]
    split
    · have := row_len C i j a m; omega
    · simp; omega
theorem outl (C : List Cf) (i j n : Nat) : ∀ m, (outT C i j n m).length ≤ n * m
  | 0 => by simp [outT]
  | m + 1 => by
    have h1 := outl C i j n m
    have h2 := inn_len C i j m n
    unfold outT
    rw [List.length_append, Nat.mul_succ]; omega
theorem own_slc {w : World} {base e size n : Nat} {v : Value} {xs : List Value} (h : w.ownsRow base e size v n xs) : ∃ a c, v = .slice a n c := by
  rcases h.2 with ⟨h, h0⟩ | ⟨g', c', _, h, _⟩
  · exact ⟨none, 0, by rw [h, h0]⟩
  · exact ⟨_, _, h⟩
theorem cells_app (L : List Cf) (c : Cf) : cellsF Cf.cs (L ++ [c]) = cellsF Cf.cs L ++ c.cs := by simp [cellsF]
theorem fl_own {α : Type} {sz : Nat} {cs : α → List Value} (hl : ∀ x, (cs x).length = sz) {w : World} {base e n : Nat} {v : Value} {L : List α} (h : w.ownsRow base e sz v n (cellsF cs L)) (hn : n = L.length) : Fl sz cs w v L := by
  subst hn
  have h' := h
  rcases h.2 with ⟨e, h0⟩ | ⟨g, cap, cur, rfl, h1, h2, hc, _⟩
  · exact .inl ⟨e, List.eq_nil_of_length_eq_zero h0⟩
  · have := Fl.own hl h' (Array.getElem?_eq_some_iff.1 h2).1 (Nat.le_refl _) hc
    rwa [List.take_of_length_le (Nat.le_refl _)] at this
theorem wf36 {x : Int} (h : 0 ≤ x ∧ x ≤ 3600) : (Lit.int .i64 x).wf = true := by
  have h1 : IntKind.i64.min = -9223372036854775808 := by decide
  have h2 : IntKind.i64.max = 9223372036854775807 := by decide
  simp [Lit.wf]; omega
theorem srt_ok {n : Nat} {L : List Cf} (hs : Srt n L) (hn : n ≤ 64) : ∀ (i : Nat) (h : i < L.length), L[i].ok := by
  intro i h
  have := cf_in (hs.ok L[i] (List.getElem_mem h))
  exact ⟨wf36 (by omega), wf36 (by omega), wf36 (by omega), wf36 (by omega)⟩
theorem cells_set (G : List Gp) (i : Nat) (x : Gp) (hi : i < G.length) : setAll (cellsF Gp.cs G) (i * 5) x.cs = cellsF Gp.cs (G.set i x) := by
  apply List.ext_getElem?
  intro k
  have hl : (cellsF Gp.cs G).length = G.length * 5 := cellsF_len gp_len _
  have hl2 : (cellsF Gp.cs (G.set i x)).length = G.length * 5 := by rw [cellsF_len gp_len, List.length_set]
  rcases Nat.lt_or_ge k (G.length * 5) with hk | hk
  · have e : k = k / 5 * 5 + k % 5 := by omega
    have h5 : k % 5 < 5 := by omega
    have hd : k / 5 < G.length := by omega
    rcases Nat.lt_or_ge k (i * 5) with h1 | h1
    · rw [setAll_out _ _ _ _ (.inl h1), e, cellsF_get gp_len G (k / 5) (k % 5) hd h5, cellsF_get gp_len (G.set i x) (k / 5) (k % 5) (by simpa using hd) h5, List.getElem_set_ne (by omega)]
    · rcases Nat.lt_or_ge k (i * 5 + 5) with h2 | h2
      · have e2 : k = i * 5 + (k - i * 5) := by omega
        rw [e2, setAll_in _ _ _ _ (by rw [hl, gp_len]; omega) (by rw [gp_len]; omega), cellsF_get gp_len (G.set i x) i (k - i * 5) (by simpa using hi) (by omega), List.getElem_set_self]
      · rw [setAll_out _ _ _ _ (.inr (by rw [gp_len]; omega)), e, cellsF_get gp_len G (k / 5) (k % 5) hd h5, cellsF_get gp_len (G.set i x) (k / 5) (k % 5) (by simpa using hd) h5, List.getElem_set_ne (by omega)]
  · rw [List.getElem?_eq_none (by rw [setAll_len, hl]; exact hk), List.getElem?_eq_none (by rw [hl2]; exact hk)]

set_option maxRecDepth 100000 in
set_option maxHeartbeats 8000000 in
theorem turns_no (G : List Gp) (C : List Cf) (vg vc : Value) (i j : Int) (F T : Nat) (w : World) (h1 : Fl 5 Gp.cs w vg G) (h2 : Fl 4 Cf.cs w vc C) (lG : G.length ≤ 2932031007317) (lC : C.length ≤ 4398046511000)
    (hno : gridB G C = false ∨ i < 0 ∨ j < 0 ∨ (G.length : Int) ≤ i ∨ (G.length : Int) ≤ j) :
    Calls Try.prog 5 #[.agg #[vg, vc], .int .i64 i, .int .i64 j, .int .u64 (F : Int), .int .u64 (T : Int)] w fun e w' => e = .returned (.bool true) ∧ Below w.heap.size w w' := by
  have hb0 : Below w.heap.size w (w.alloc (.cells #[vg, vc] 25)) := (Below.refl _ _).alloc (Nat.le_refl _) _
  have hB0 : Has (w.alloc (.cells #[vg, vc] 25)) w.heap.size #[vg, vc] := Has.new _ _ _ rfl
  have hGr := fun (W : World) (hW : Below w.heap.size w W) => refGrid_any G C vg vc W (h1.below hW) (h2.below hW) lG lC
  obtain ⟨ga, gc, rfl, -⟩ := h1.any
  obtain ⟨ca, cc, rfl, -⟩ := h2.any
  clear h1 h2
  have dA := alive_any (w.alloc (.cells #[.slice ga G.length gc, .slice ca C.length cc] 25))
  have fin : ∀ b : Bool, gridB G C = b → (b = false ∨ i < 0 ∨ j < 0 ∨ (G.length : Int) ≤ i ∨ (G.length : Int) ≤ j) → Calls Try.prog 5 #[.agg #[.slice ga G.length gc, .slice ca C.length cc], .int .i64 i, .int .i64 j, .int .u64 (F : Int), .int .u64 (T : Int)] w fun e w' => e = .returned (.bool true) ∧ Below w.heap.size w w' := by
    intro b hb hno
    rw [hb] at hGr
    clear hb
    cases b with
    | false =>
      clear hno
      go_enter Try.func5, Try.ntmps5
      go_upto_region 3 with (go_at_call 14; (with_reducible refine Calls.mono dA ?_); rintro e w1 ⟨rfl, hE1⟩)
      have hW1 := hb0.trans (hE1.mono hb0.size)
      have hB1 := hB0.below hE1
      have k0 := hB1.2.1 0
      have k1 := hB1.2.1 1
      have dG := hGr w1 hW1
      go_wp2_with (go_at_call 15; (with_reducible refine Calls.mono dG ?_); rintro e w2 ⟨rfl, hE2⟩)
      go_ret
      exact ⟨rfl, hW1.trans (hE2.mono hW1.size)⟩
    | true =>
      have hno2 : i < 0 ∨ (¬ i < 0 ∧ j < 0) ∨ (¬ i < 0 ∧ ¬ j < 0 ∧ (G.length : Int) ≤ i) ∨ (¬ i < 0 ∧ ¬ j < 0 ∧ ¬ (G.length : Int) ≤ i ∧ (G.length : Int) ≤ j) := by
        rcases hno with h | h | h | h | h
        · cases h
        · omega
        · omega
        · omega
        · omega
      clear hno
      rcases hno2 with f1 | ⟨f1, f2⟩ | ⟨f1, f2, f3⟩ | ⟨f1, f2, f3, f4⟩
      all_goals
        go_enter Try.func5, Try.ntmps5
        go_upto_region 3 with (go_at_call 14; (with_reducible refine Calls.mono dA ?_); rintro e w1 ⟨rfl, hE1⟩)
        have hW1 := hb0.trans (hE1.mono hb0.size)
        have hB1 := hB0.below hE1
        have k0 := hB1.2.1 0
        have k1 := hB1.2.1 1
        have dG := hGr w1 hW1
        go_wp2_with (go_at_call 15; (with_reducible refine Calls.mono dG ?_); rintro e w2 ⟨rfl, hE2⟩)
        go_ret
        exact ⟨rfl, hW1.trans (hE2.mono hW1.size)⟩
  exact fin _ rfl hno

set_option maxRecDepth 100000 in
set_option maxHeartbeats 16000000 in
theorem turns_yes (G : List Gp) (C : List Cf) (vg vc : Value) (i j F T : Nat) (w : World) (h1 : Fl 5 Gp.cs w vg G) (h2 : Fl 4 Cf.cs w vc C) (lG : G.length ≤ 2932031007317) (lC : C.length ≤ 4398046511000)
    (ok : ∀ (i : Nat) (h : i < C.length), C[i].ok) (gr : gridB G C = true) (hi : i < G.length) (hj : j < G.length) (hF : F < 18446744073709551616) (hT : T < 18446744073709551616) :
    Calls Try.prog 5 #[.agg #[vg, vc], .int .i64 (i : Int), .int .i64 (j : Int), .int .u64 (F : Int), .int .u64 (T : Int)] w fun e w' => e = .returned (.bool true) ∧ Below w.heap.size w w' := by
  have hb0 : Below w.heap.size w (w.alloc (.cells #[vg, vc] 25)) := (Below.refl _ _).alloc (Nat.le_refl _) _
  have hB0 : Has (w.alloc (.cells #[vg, vc] 25)) w.heap.size #[vg, vc] := Has.new _ _ _ rfl
  have hGr := fun (W : World) (hW : Below w.heap.size w W) => refGrid_any G C vg vc W (h1.below hW) (h2.below hW) lG lC
  have hCp := fun (W : World) (hW : Below w.heap.size w W) => copied_any G C vg vc W (h1.below hW) (h2.below hW) lG lC
  rw [gr] at hGr
  have hF1 : Hid (Fl 5 Gp.cs w vg G) := h1
  have hF2 : Hid (Fl 4 Cf.cs w vc C) := h2
  obtain ⟨ga0, gc, rfl, hga⟩ := h1.any
  obtain ⟨ca, cc, rfl, -⟩ := h2.any
  obtain ⟨g0, o0, rfl, hg0, hgx⟩ : ∃ g o, ga0 = some ⟨g, o, none⟩ ∧ g < w.heap.size ∧ ∀ (i : Nat) (h : i < G.length) (q : Nat) (u : Value), (G[i].cs)[q]? = some u → w.cell? ⟨g, o + i * 5 + q, none⟩ = some u := by
    rcases hga with h | h
    · rw [h] at hi; simp at hi
    · exact h
  clear h1 h2 hga
  have hn64 := (grid_parts gr).1
  have dA := alive_any (w.alloc (.cells #[.slice (some ⟨g0, o0, none⟩) G.length gc, .slice ca C.length cc] 25))
  have f1 : ¬ (i : Int) < 0 := by omega
  have f2 : ¬ (j : Int) < 0 := by omega
  have f3 : ¬ (G.length : Int) ≤ (i : Int) := by omega
  have f4 : ¬ (G.length : Int) ≤ (j : Int) := by omega
  have f5 : (i : Int) < (G.length : Int) := by omega
  have f6 : (j : Int) < (G.length : Int) := by omega
  go_enter Try.func5, Try.ntmps5
  go_upto_region 3 with (go_at_call 14; (with_reducible refine Calls.mono dA ?_); rintro e w1 ⟨rfl, hE1⟩)
  have hW1 := hb0.trans (hE1.mono hb0.size)
  have hB1 := hB0.below hE1
  have k0 := hB1.2.1 0
  have k1 := hB1.2.1 1
  have dG := hGr w1 hW1
  clear dA hB0 hb0
  go_upto_region 6 with (go_at_call 15; (with_reducible refine Calls.mono dG ?_); rintro e w2 ⟨rfl, hE2⟩)
  have hW2 := hW1.trans (hE2.mono hW1.size)
  have hB2 := hB1.below hE2
  have k0 := hB2.2.1 0
  have k1 := hB2.2.1 1
  have dC := hCp w2 hW2
  clear dG hB1 hGr hCp
  go_upto_region 7 with (go_at_call 16; (with_reducible refine Calls.mono dC ?_); rintro e w3 ⟨⟨ua, uc0, va, vc0, rfl, hcp⟩, hE3⟩)
  have hW3 := hW2.trans (hE3.mono hW2.size)
  obtain ⟨g1, cap1, eug, hcap1, hg1a, hg1b⟩ := own_block hcp.g (by omega)
  injection eug with eu1 eu2 eu3
  subst eu1 eu3
  have hb4 : Below w3.heap.size w3 (w3.alloc (.cells #[.slice (some ⟨g1, 0, none⟩) G.length uc0, .slice va C.length vc0] 25)) := (Below.refl _ _).alloc (Nat.le_refl _) _
  have B12 : Has (w3.alloc (.cells #[.slice (some ⟨g1, 0, none⟩) G.length uc0, .slice va C.length vc0] 25)) w3.heap.size #[.slice (some ⟨g1, 0, none⟩) G.length uc0, .slice va C.length vc0] := Has.new _ _ _ rfl
  have B5 := (hB2.below hE3).below hb4
  have own4 := (own_only hcp.g (Only.of_below (S := fun _ => False) hb4) (fun _ _ h => h))
  have hW4 := hW3.trans (hb4.mono hW3.size)
  have hs12 := hW1.size
  have hs13 := hW2.size
  have hs14 := hW3.size
  have hs15 := hE3.size
  have hs16 := hb4.size
  have hs17 : w.heap.size < w2.heap.size := hB2.1
  clear hcp hB2 hb4 dC
  generalize w3.alloc (.cells #[.slice (some ⟨g1, 0, none⟩) G.length uc0, .slice va C.length vc0] 25) = W4 at *
  have hne3 : w3.heap.size ≠ g1 := by omega
  have hnew : w.heap.size ≠ g1 := by omega
  have hne0 : g0 ≠ g1 := by omega
  have hi0 : (0 : Int) ≤ (i : Int) := by omega
  have hj0 : (0 : Int) ≤ (j : Int) := by omega
  have c0 := B5.2.1 0
  have y0 := B12.2.1 0
  have p0 : W4.cell? ⟨g0, o0 + j * 5, none⟩ = some (.string G[j].name) := (hW4.cell (p := ⟨g0, _, none⟩) hg0).trans (hgx j hj 0 _ rfl)
  have p1 : W4.cell? ⟨g0, o0 + j * 5 + 1, none⟩ = some (.int .i64 G[j].sort) := (hW4.cell (p := ⟨g0, _, none⟩) hg0).trans (hgx j hj 1 _ rfl)
  have p2 : W4.cell? ⟨g0, o0 + j * 5 + 2, none⟩ = some (.int .i64 G[j].min) := (hW4.cell (p := ⟨g0, _, none⟩) hg0).trans (hgx j hj 2 _ rfl)
  have p3 : W4.cell? ⟨g0, o0 + j * 5 + 3, none⟩ = some (.int .i64 G[j].amber) := (hW4.cell (p := ⟨g0, _, none⟩) hg0).trans (hgx j hj 3 _ rfl)
  have p4 : W4.cell? ⟨g0, o0 + j * 5 + 4, none⟩ = some (.int .i64 G[j].lead) := (hW4.cell (p := ⟨g0, _, none⟩) hg0).trans (hgx j hj 4 _ rfl)
  obtain ⟨u0, d0⟩ : ∃ u, W4.cell? ⟨g1, i * 5, none⟩ = some u := ⟨_, own_reads own4 rfl _ _ (List.getElem?_eq_getElem (by rw [cellsF_len gp_len]; have := hi; simp; omega))⟩
  obtain ⟨u1, d1⟩ : ∃ u, W4.cell? ⟨g1, i * 5 + 1, none⟩ = some u := ⟨_, own_reads own4 rfl _ _ (List.getElem?_eq_getElem (by rw [cellsF_len gp_len]; have := hi; simp; omega))⟩
  obtain ⟨u2, d2⟩ : ∃ u, W4.cell? ⟨g1, i * 5 + 2, none⟩ = some u := ⟨_, own_reads own4 rfl _ _ (List.getElem?_eq_getElem (by rw [cellsF_len gp_len]; have := hi; simp; omega))⟩
  obtain ⟨u3, d3⟩ : ∃ u, W4.cell? ⟨g1, i * 5 + 3, none⟩ = some u := ⟨_, own_reads own4 rfl _ _ (List.getElem?_eq_getElem (by rw [cellsF_len gp_len]; have := hi; simp; omega))⟩
  obtain ⟨u4, d4⟩ : ∃ u, W4.cell? ⟨g1, i * 5 + 4, none⟩ = some u := ⟨_, own_reads own4 rfl _ _ (List.getElem?_eq_getElem (by rw [cellsF_len gp_len]; have := hi; simp; omega))⟩
  have z0 := own4.frozenAt (i * 5)
  have z1 := own4.frozenAt (i * 5 + 1)
  have z2 := own4.frozenAt (i * 5 + 2)
  have z3 := own4.frozenAt (i * 5 + 3)
  have z4 := own4.frozenAt (i * 5 + 4)
  clear hE1 hE2 hE3
  refine wp_region_noPanic ?_
  refine wp_region_held_drew (S := fun w' => w'.cell? ⟨w3.heap.size, 0, none⟩ = some (.slice (some ⟨g1, 0, none⟩) G.length uc0) ∧ w'.cell? ⟨w.heap.size, 0, none⟩ = some (.slice (some ⟨g0, o0, none⟩) G.length gc) ∧ w'.cell? ⟨g0, o0 + j * 5, none⟩ = some (.string G[j].name) ∧ w'.cell? ⟨g0, o0 + j * 5 + 1, none⟩ = some (.int .i64 G[j].sort) ∧ w'.cell? ⟨g0, o0 + j * 5 + 2, none⟩ = some (.int .i64 G[j].min) ∧ w'.cell? ⟨g0, o0 + j * 5 + 3, none⟩ = some (.int .i64 G[j].amber) ∧ w'.cell? ⟨g0, o0 + j * 5 + 4, none⟩ = some (.int .i64 G[j].lead)) (by kernel_rfl) ?_ (fun hHeld => ?_)
  · (try dsimp only)
    exact ⟨y0, c0, p0, p1, p2, p3, p4⟩
  refine wpAnyH_take (i := 0) (oi := { dst := some 61, op := Op.fieldAddr 25 (Operand.tmp 12) 0, type := 0, pos := "outright.go:55", after := #[], guard := none }) (v := ?_) rfl (by kernel_rfl) (by kernel_rfl) (by kernel_rfl) (fun _ _ _ h => h) (Or.inl ⟨by rfl, ?_⟩) (by assumption) ?_
  rotate_left
  · intro wz hSz; (try dsimp only at hSz); go_simp; all_goals (with_reducible rfl)
  (try simp only [Act.put, List.setIfInBounds_toArray, List.set_cons_zero, List.set_cons_succ])
  refine wpAnyH_take (i := 1) (oi := { dst := some 62, op := Op.load 22 (Operand.tmp 61), type := 22, pos := "outright.go:55", after := #[{ on := 0, ground := Ground.data }], guard := none }) (v := ?_) rfl (by kernel_rfl) (by kernel_rfl) (by kernel_rfl) (fun _ _ _ h => h) (Or.inl ⟨by rfl, ?_⟩) (by assumption) ?_
  rotate_left
  · intro wz hSz; (try dsimp only at hSz); go_simp; all_goals (with_reducible rfl)
  (try simp only [Act.put, List.setIfInBounds_toArray, List.set_cons_zero, List.set_cons_succ])
  refine wpAnyH_take (i := 2) (oi := { dst := some 63, op := Op.move (Operand.tmp 1), type := 3, pos := "outright.go:55", after := #[], guard := none }) (v := ?_) rfl (by kernel_rfl) (by kernel_rfl) (by kernel_rfl) (fun _ _ _ h => h) (Or.inl ⟨by rfl, ?_⟩) (by assumption) ?_
  rotate_left
  · intro wz hSz; (try dsimp only at hSz); go_simp; all_goals (with_reducible rfl)
  (try simp only [Act.put, List.setIfInBounds_toArray, List.set_cons_zero, List.set_cons_succ])
  refine wpAnyH_take (i := 3) (oi := { dst := some 64, op := Op.fieldAddr 25 (Operand.tmp 5) 0, type := 0, pos := "outright.go:55", after := #[], guard := none }) (v := ?_) rfl (by kernel_rfl) (by kernel_rfl) (by kernel_rfl) (fun _ _ _ h => h) (Or.inl ⟨by rfl, ?_⟩) (by assumption) ?_
  rotate_left
  · intro wz hSz; (try dsimp only at hSz); go_simp; all_goals (with_reducible rfl)
  (try simp only [Act.put, List.setIfInBounds_toArray, List.set_cons_zero, List.set_cons_succ])
  refine wpAnyH_take (i := 4) (oi := { dst := some 65, op := Op.load 22 (Operand.tmp 64), type := 22, pos := "outright.go:55", after := #[{ on := 3, ground := Ground.data }], guard := none }) (v := ?_) rfl (by kernel_rfl) (by kernel_rfl) (by kernel_rfl) (fun _ _ _ h => h) (Or.inl ⟨by rfl, ?_⟩) (by assumption) ?_
  rotate_left
  · intro wz hSz; (try dsimp only at hSz); go_simp; all_goals (with_reducible rfl)
  (try simp only [Act.put, List.setIfInBounds_toArray, List.set_cons_zero, List.set_cons_succ])
  refine wpAnyH_take (i := 5) (oi := { dst := some 66, op := Op.move (Operand.tmp 2), type := 3, pos := "outright.go:55", after := #[], guard := none }) (v := ?_) rfl (by kernel_rfl) (by kernel_rfl) (by kernel_rfl) (fun _ _ _ h => h) (Or.inl ⟨by rfl, ?_⟩) (by assumption) ?_
  rotate_left
  · intro wz hSz; (try dsimp only at hSz); go_simp; all_goals (with_reducible rfl)
  (try simp only [Act.put, List.setIfInBounds_toArray, List.set_cons_zero, List.set_cons_succ])
  refine wpAnyH_take (i := 6) (oi := { dst := some 67, op := Op.indexAddr 22 (Operand.tmp 65) (Operand.tmp 66), type := 0, pos := "outright.go:55", after := #[{ on := 4, ground := Ground.data }, { on := 5, ground := Ground.data }], guard := none }) (v := ?_) rfl (by kernel_rfl) (by kernel_rfl) (by kernel_rfl) (fun _ _ _ h => h) (Or.inl ⟨by rfl, ?_⟩) (by assumption) ?_
  rotate_left
  · intro wz hSz; (try dsimp only at hSz); go_simp; all_goals (with_reducible rfl)
  (try simp only [Act.put, List.setIfInBounds_toArray, List.set_cons_zero, List.set_cons_succ])
  refine wpAnyH_take (i := 7) (oi := { dst := some 68, op := Op.load 44 (Operand.tmp 67), type := 44, pos := "outright.go:55", after := #[{ on := 6, ground := Ground.data }], guard := none }) (v := ?_) rfl (by kernel_rfl) (by kernel_rfl) (by kernel_rfl) (fun _ _ _ h => h) (Or.inl ⟨by rfl, ?_⟩) (by assumption) ?_
  rotate_left
  · intro wz hSz; (try dsimp only at hSz); go_simp; all_goals (with_reducible rfl)
  (try simp only [Act.put, List.setIfInBounds_toArray, List.set_cons_zero, List.set_cons_succ])
  refine wpAnyH_take (i := 8) (oi := { dst := some 69, op := Op.indexAddr 22 (Operand.tmp 62) (Operand.tmp 63), type := 0, pos := "outright.go:55", after := #[{ on := 1, ground := Ground.data }, { on := 2, ground := Ground.data }, { on := 0, ground := Ground.phase }, { on := 1, ground := Ground.phase }, { on := 2, ground := Ground.phase }, { on := 3, ground := Ground.phase }, { on := 4, ground := Ground.phase }, { on := 5, ground := Ground.phase }, { on := 6, ground := Ground.phase }, { on := 7, ground := Ground.phase }], guard := none }) (v := ?_) rfl (by kernel_rfl) (by kernel_rfl) (by kernel_rfl) (fun _ _ _ h => h) (Or.inl ⟨by rfl, ?_⟩) (by assumption) ?_
  rotate_left
  · intro wz hSz; (try dsimp only at hSz); go_simp; all_goals (with_reducible rfl)
  (try simp only [Act.put, List.setIfInBounds_toArray, List.set_cons_zero, List.set_cons_succ])
  refine wpAnyH_ready (rs := [9]) (by kernel_rfl) (by simp) ?_
  refine AllReadyH.cons (o := { dst := none, op := Op.store 44 (Operand.tmp 69) (Operand.tmp 68), type := 0, pos := "outright.go:55", after := #[{ on := 8, ground := Ground.data }, { on := 7, ground := Ground.data }, { on := 0, ground := Ground.phase }, { on := 1, ground := Ground.phase }, { on := 2, ground := Ground.phase }, { on := 3, ground := Ground.phase }, { on := 4, ground := Ground.phase }, { on := 5, ground := Ground.phase }, { on := 6, ground := Ground.phase }, { on := 7, ground := Ground.phase }], guard := none }) rfl (fun K hK => ?_) AllReadyH.nil
  go_simp
  refine hK.out _ _ ?_ (fun hHeld => ?_)
  · (try dsimp only)
    exact ⟨(far5 _ _ _ hne3 _ _ _ _ _ _ _ _ _ _ _).trans hHeld.1, (far5 _ _ _ hnew _ _ _ _ _ _ _ _ _ _ _).trans hHeld.2.1, (far5 _ _ _ hne0 _ _ _ _ _ _ _ _ _ _ _).trans hHeld.2.2.1, (far5 _ _ _ hne0 _ _ _ _ _ _ _ _ _ _ _).trans hHeld.2.2.2.1, (far5 _ _ _ hne0 _ _ _ _ _ _ _ _ _ _ _).trans hHeld.2.2.2.2.1, (far5 _ _ _ hne0 _ _ _ _ _ _ _ _ _ _ _).trans hHeld.2.2.2.2.2.1, (far5 _ _ _ hne0 _ _ _ _ _ _ _ _ _ _ _).trans hHeld.2.2.2.2.2.2⟩
  clear hK K
  (try simp only [Act.put, List.setIfInBounds_toArray, List.set_cons_zero, List.set_cons_succ])
  refine wpAnyH_done (by kernel_rfl) ?_ _
  refine NoPanic.normal ?_
  clear p0 p1 p2 p3 p4 d0 d1 d2 d3 d4 z0 z1 z2 z3 z4 c0 y0 hHeld
  have own5 : (setCells W4 g1 (i * 5) G[j].cs).ownsRow w2.heap.size 44 5 (.slice (some ⟨g1, 0, none⟩) G.length uc0) G.length (cellsF Gp.cs (G.set i G[j])) := by
    rw [← cells_set G i G[j] hi]; exact own_stored _ _ _ _ own4
  have hb5 : Below w.heap.size w (setCells W4 g1 (i * 5) G[j].cs) := below_cells (by omega) _ _ _ hW4
  have hO5 : Only (fun q => q = g1) W4 (setCells W4 g1 (i * 5) G[j].cs) := only_cells g1 _ _ _
  have e5 : (((((W4.setCell ⟨g1, i * 5, none⟩ (.string G[j].name)).setCell ⟨g1, i * 5 + 1, none⟩ (.int .i64 G[j].sort)).setCell ⟨g1, i * 5 + 2, none⟩ (.int .i64 G[j].min)).setCell ⟨g1, i * 5 + 3, none⟩ (.int .i64 G[j].amber)).setCell ⟨g1, i * 5 + 4, none⟩ (.int .i64 G[j].lead)) = setCells W4 g1 (i * 5) G[j].cs := rfl
  rw [e5]
  have B12' := B12.only hO5 hne3
  have B5' := B5.only hO5 hnew
  clear e5 hO5 own4 hW4 B12 B5
  generalize setCells W4 g1 (i * 5) G[j].cs = W5 at *
  have B12e := B12'.drew
  have B5e := B5'.drew
  have own5e : W5.drew.ownsRow w2.heap.size 44 5 (.slice (some ⟨g1, 0, none⟩) G.length uc0) G.length (cellsF Gp.cs (G.set i G[j])) := own5
  have hb5e := hb5.drew
  have hs18 : w3.heap.size < W5.drew.heap.size := B12e.1
  clear B12' B5' own5 hb5
  generalize W5.drew = V5 at *
  clear W5
  go_upto_region 8 with fail
  have c0 := B5e.2.1 0
  have y0 := B12e.2.1 0
  have p0 : V5.cell? ⟨g0, o0 + i * 5, none⟩ = some (.string G[i].name) := (hb5e.cell (p := ⟨g0, _, none⟩) hg0).trans (hgx i hi 0 _ rfl)
  have p1 : V5.cell? ⟨g0, o0 + i * 5 + 1, none⟩ = some (.int .i64 G[i].sort) := (hb5e.cell (p := ⟨g0, _, none⟩) hg0).trans (hgx i hi 1 _ rfl)
  have p2 : V5.cell? ⟨g0, o0 + i * 5 + 2, none⟩ = some (.int .i64 G[i].min) := (hb5e.cell (p := ⟨g0, _, none⟩) hg0).trans (hgx i hi 2 _ rfl)
  have p3 : V5.cell? ⟨g0, o0 + i * 5 + 3, none⟩ = some (.int .i64 G[i].amber) := (hb5e.cell (p := ⟨g0, _, none⟩) hg0).trans (hgx i hi 3 _ rfl)
  have p4 : V5.cell? ⟨g0, o0 + i * 5 + 4, none⟩ = some (.int .i64 G[i].lead) := (hb5e.cell (p := ⟨g0, _, none⟩) hg0).trans (hgx i hi 4 _ rfl)
  obtain ⟨u0, d0⟩ : ∃ u, V5.cell? ⟨g1, j * 5, none⟩ = some u := ⟨_, own_reads own5e rfl _ _ (List.getElem?_eq_getElem (by rw [cellsF_len gp_len]; have := hj; simp; omega))⟩
  obtain ⟨u1, d1⟩ : ∃ u, V5.cell? ⟨g1, j * 5 + 1, none⟩ = some u := ⟨_, own_reads own5e rfl _ _ (List.getElem?_eq_getElem (by rw [cellsF_len gp_len]; have := hj; simp; omega))⟩
  obtain ⟨u2, d2⟩ : ∃ u, V5.cell? ⟨g1, j * 5 + 2, none⟩ = some u := ⟨_, own_reads own5e rfl _ _ (List.getElem?_eq_getElem (by rw [cellsF_len gp_len]; have := hj; simp; omega))⟩
  obtain ⟨u3, d3⟩ : ∃ u, V5.cell? ⟨g1, j * 5 + 3, none⟩ = some u := ⟨_, own_reads own5e rfl _ _ (List.getElem?_eq_getElem (by rw [cellsF_len gp_len]; have := hj; simp; omega))⟩
  obtain ⟨u4, d4⟩ : ∃ u, V5.cell? ⟨g1, j * 5 + 4, none⟩ = some u := ⟨_, own_reads own5e rfl _ _ (List.getElem?_eq_getElem (by rw [cellsF_len gp_len]; have := hj; simp; omega))⟩
  have z0 := own5e.frozenAt (j * 5)
  have z1 := own5e.frozenAt (j * 5 + 1)
  have z2 := own5e.frozenAt (j * 5 + 2)
  have z3 := own5e.frozenAt (j * 5 + 3)
  have z4 := own5e.frozenAt (j * 5 + 4)
  refine wp_region_noPanic ?_
  refine wp_region_held_drew (S := fun w' => w'.cell? ⟨w3.heap.size, 0, none⟩ = some (.slice (some ⟨g1, 0, none⟩) G.length uc0) ∧ w'.cell? ⟨w.heap.size, 0, none⟩ = some (.slice (some ⟨g0, o0, none⟩) G.length gc) ∧ w'.cell? ⟨g0, o0 + i * 5, none⟩ = some (.string G[i].name) ∧ w'.cell? ⟨g0, o0 + i * 5 + 1, none⟩ = some (.int .i64 G[i].sort) ∧ w'.cell? ⟨g0, o0 + i * 5 + 2, none⟩ = some (.int .i64 G[i].min) ∧ w'.cell? ⟨g0, o0 + i * 5 + 3, none⟩ = some (.int .i64 G[i].amber) ∧ w'.cell? ⟨g0, o0 + i * 5 + 4, none⟩ = some (.int .i64 G[i].lead)) (by kernel_rfl) ?_ (fun hHeld => ?_)
  · (try dsimp only)
    exact ⟨y0, c0, p0, p1, p2, p3, p4⟩
  refine wpAnyH_take (i := 0) (oi := { dst := some 70, op := Op.fieldAddr 25 (Operand.tmp 12) 0, type := 0, pos := "outright.go:56", after := #[], guard := none }) (v := ?_) rfl (by kernel_rfl) (by kernel_rfl) (by kernel_rfl) (fun _ _ _ h => h) (Or.inl ⟨by rfl, ?_⟩) (by assumption) ?_
  rotate_left
  · intro wz hSz; (try dsimp only at hSz); go_simp; all_goals (with_reducible rfl)
  (try simp only [Act.put, List.setIfInBounds_toArray, List.set_cons_zero, List.set_cons_succ])
  refine wpAnyH_take (i := 1) (oi := { dst := some 71, op := Op.load 22 (Operand.tmp 70), type := 22, pos := "outright.go:56", after := #[{ on := 0, ground := Ground.data }], guard := none }) (v := ?_) rfl (by kernel_rfl) (by kernel_rfl) (by kernel_rfl) (fun _ _ _ h => h) (Or.inl ⟨by rfl, ?_⟩) (by assumption) ?_
  rotate_left
  · intro wz hSz; (try dsimp only at hSz); go_simp; all_goals (with_reducible rfl)
  (try simp only [Act.put, List.setIfInBounds_toArray, List.set_cons_zero, List.set_cons_succ])
  refine wpAnyH_take (i := 2) (oi := { dst := some 72, op := Op.move (Operand.tmp 2), type := 3, pos := "outright.go:56", after := #[], guard := none }) (v := ?_) rfl (by kernel_rfl) (by kernel_rfl) (by kernel_rfl) (fun _ _ _ h => h) (Or.inl ⟨by rfl, ?_⟩) (by assumption) ?_
  rotate_left
  · intro wz hSz; (try dsimp only at hSz); go_simp; all_goals (with_reducible rfl)
  (try simp only [Act.put, List.setIfInBounds_toArray, List.set_cons_zero, List.set_cons_succ])
  refine wpAnyH_take (i := 3) (oi := { dst := some 73, op := Op.fieldAddr 25 (Operand.tmp 5) 0, type := 0, pos := "outright.go:56", after := #[], guard := none }) (v := ?_) rfl (by kernel_rfl) (by kernel_rfl) (by kernel_rfl) (fun _ _ _ h => h) (Or.inl ⟨by rfl, ?_⟩) (by assumption) ?_
  rotate_left
  · intro wz hSz; (try dsimp only at hSz); go_simp; all_goals (with_reducible rfl)
  (try simp only [Act.put, List.setIfInBounds_toArray, List.set_cons_zero, List.set_cons_succ])
  refine wpAnyH_take (i := 4) (oi := { dst := some 74, op := Op.load 22 (Operand.tmp 73), type := 22, pos := "outright.go:56", after := #[{ on := 3, ground := Ground.data }], guard := none }) (v := ?_) rfl (by kernel_rfl) (by kernel_rfl) (by kernel_rfl) (fun _ _ _ h => h) (Or.inl ⟨by rfl, ?_⟩) (by assumption) ?_
  rotate_left
  · intro wz hSz; (try dsimp only at hSz); go_simp; all_goals (with_reducible rfl)
  (try simp only [Act.put, List.setIfInBounds_toArray, List.set_cons_zero, List.set_cons_succ])
  refine wpAnyH_take (i := 5) (oi := { dst := some 75, op := Op.move (Operand.tmp 1), type := 3, pos := "outright.go:56", after := #[], guard := none }) (v := ?_) rfl (by kernel_rfl) (by kernel_rfl) (by kernel_rfl) (fun _ _ _ h => h) (Or.inl ⟨by rfl, ?_⟩) (by assumption) ?_
  rotate_left
  · intro wz hSz; (try dsimp only at hSz); go_simp; all_goals (with_reducible rfl)
  (try simp only [Act.put, List.setIfInBounds_toArray, List.set_cons_zero, List.set_cons_succ])
  refine wpAnyH_take (i := 6) (oi := { dst := some 76, op := Op.indexAddr 22 (Operand.tmp 74) (Operand.tmp 75), type := 0, pos := "outright.go:56", after := #[{ on := 4, ground := Ground.data }, { on := 5, ground := Ground.data }], guard := none }) (v := ?_) rfl (by kernel_rfl) (by kernel_rfl) (by kernel_rfl) (fun _ _ _ h => h) (Or.inl ⟨by rfl, ?_⟩) (by assumption) ?_
  rotate_left
  · intro wz hSz; (try dsimp only at hSz); go_simp; all_goals (with_reducible rfl)
  (try simp only [Act.put, List.setIfInBounds_toArray, List.set_cons_zero, List.set_cons_succ])
  refine wpAnyH_take (i := 7) (oi := { dst := some 77, op := Op.load 44 (Operand.tmp 76), type := 44, pos := "outright.go:56", after := #[{ on := 6, ground := Ground.data }], guard := none }) (v := ?_) rfl (by kernel_rfl) (by kernel_rfl) (by kernel_rfl) (fun _ _ _ h => h) (Or.inl ⟨by rfl, ?_⟩) (by assumption) ?_
  rotate_left
  · intro wz hSz; (try dsimp only at hSz); go_simp; all_goals (with_reducible rfl)
  (try simp only [Act.put, List.setIfInBounds_toArray, List.set_cons_zero, List.set_cons_succ])
  refine wpAnyH_take (i := 8) (oi := { dst := some 78, op := Op.indexAddr 22 (Operand.tmp 71) (Operand.tmp 72), type := 0, pos := "outright.go:56", after := #[{ on := 1, ground := Ground.data }, { on := 2, ground := Ground.data }, { on := 0, ground := Ground.phase }, { on := 1, ground := Ground.phase }, { on := 2, ground := Ground.phase }, { on := 3, ground := Ground.phase }, { on := 4, ground := Ground.phase }, { on := 5, ground := Ground.phase }, { on := 6, ground := Ground.phase }, { on := 7, ground := Ground.phase }], guard := none }) (v := ?_) rfl (by kernel_rfl) (by kernel_rfl) (by kernel_rfl) (fun _ _ _ h => h) (Or.inl ⟨by rfl, ?_⟩) (by assumption) ?_
  rotate_left
  · intro wz hSz; (try dsimp only at hSz); go_simp; all_goals (with_reducible rfl)
  (try simp only [Act.put, List.setIfInBounds_toArray, List.set_cons_zero, List.set_cons_succ])
  refine wpAnyH_ready (rs := [9]) (by kernel_rfl) (by simp) ?_
  refine AllReadyH.cons (o := { dst := none, op := Op.store 44 (Operand.tmp 78) (Operand.tmp 77), type := 0, pos := "outright.go:56", after := #[{ on := 8, ground := Ground.data }, { on := 7, ground := Ground.data }, { on := 0, ground := Ground.phase }, { on := 1, ground := Ground.phase }, { on := 2, ground := Ground.phase }, { on := 3, ground := Ground.phase }, { on := 4, ground := Ground.phase }, { on := 5, ground := Ground.phase }, { on := 6, ground := Ground.phase }, { on := 7, ground := Ground.phase }], guard := none }) rfl (fun K hK => ?_) AllReadyH.nil
  go_simp
  refine hK.out _ _ ?_ (fun hHeld => ?_)
  · (try dsimp only)
    exact ⟨(far5 _ _ _ hne3 _ _ _ _ _ _ _ _ _ _ _).trans hHeld.1, (far5 _ _ _ hnew _ _ _ _ _ _ _ _ _ _ _).trans hHeld.2.1, (far5 _ _ _ hne0 _ _ _ _ _ _ _ _ _ _ _).trans hHeld.2.2.1, (far5 _ _ _ hne0 _ _ _ _ _ _ _ _ _ _ _).trans hHeld.2.2.2.1, (far5 _ _ _ hne0 _ _ _ _ _ _ _ _ _ _ _).trans hHeld.2.2.2.2.1, (far5 _ _ _ hne0 _ _ _ _ _ _ _ _ _ _ _).trans hHeld.2.2.2.2.2.1, (far5 _ _ _ hne0 _ _ _ _ _ _ _ _ _ _ _).trans hHeld.2.2.2.2.2.2⟩
  clear hK K
  (try simp only [Act.put, List.setIfInBounds_toArray, List.set_cons_zero, List.set_cons_succ])
  refine wpAnyH_done (by kernel_rfl) ?_ _
  refine NoPanic.normal ?_
  clear p0 p1 p2 p3 p4 d0 d1 d2 d3 d4 z0 z1 z2 z3 z4 c0 y0 hHeld
  have own6 : (setCells V5 g1 (j * 5) G[i].cs).ownsRow w2.heap.size 44 5 (.slice (some ⟨g1, 0, none⟩) G.length uc0) G.length (cellsF Gp.cs (turnG G i j hi hj)) := by
    show (setCells V5 g1 (j * 5) G[i].cs).ownsRow w2.heap.size 44 5 (.slice (some ⟨g1, 0, none⟩) G.length uc0) G.length (cellsF Gp.cs ((G.set i G[j]).set j G[i]))
    rw [← cells_set (G.set i G[j]) j G[i] (by simpa using hj)]; exact own_stored _ _ _ _ own5e
  have hb6 : Below w.heap.size w (setCells V5 g1 (j * 5) G[i].cs) := below_cells (by omega) _ _ _ hb5e
  have hO6 : Only (fun q => q = g1) V5 (setCells V5 g1 (j * 5) G[i].cs) := only_cells g1 _ _ _
  have e6 : (((((V5.setCell ⟨g1, j * 5, none⟩ (.string G[i].name)).setCell ⟨g1, j * 5 + 1, none⟩ (.int .i64 G[i].sort)).setCell ⟨g1, j * 5 + 2, none⟩ (.int .i64 G[i].min)).setCell ⟨g1, j * 5 + 3, none⟩ (.int .i64 G[i].amber)).setCell ⟨g1, j * 5 + 4, none⟩ (.int .i64 G[i].lead)) = setCells V5 g1 (j * 5) G[i].cs := rfl
  rw [e6]
  have B12f := (B12e.only hO6 hne3).drew
  have B5f := (B5e.only hO6 hnew).drew
  have hs19 := hO6.size
  have own6e : (setCells V5 g1 (j * 5) G[i].cs).drew.ownsRow w2.heap.size 44 5 (.slice (some ⟨g1, 0, none⟩) G.length uc0) G.length (cellsF Gp.cs (turnG G i j hi hj)) := own6
  have hb6e := hb6.drew
  clear e6 hO6 own5e hb5e B12e B5e own6 hb6
  generalize (setCells V5 g1 (j * 5) G[i].cs).drew = V6 at *
  have y1 := B12f.2.1 1
  have n1 := B12f.2.2 1
  go_upto_region 10 with fail
  have B12g := B12f.set 1 (by simp) (.slice none 0 0)
  have hO7 : Only (fun q => q = w3.heap.size) V6 (V6.setCell ⟨w3.heap.size, 1, none⟩ (.slice none 0 0)) := (Only.refl (fun q => q = w3.heap.size) V6).set (b := w3.heap.size) (i := 1) rfl _
  have B5g := B5f.only hO7 (by omega)
  have own7 := own_only2 own6e hO7 (fun q hq e => by have e2 : g1 = q := Option.some.inj hq; omega)
  have hb7 := hb6e.setCell (p := ⟨w3.heap.size, 1, none⟩) (by show w.heap.size ≤ w3.heap.size; omega) (.slice none 0 0)
  clear B12f B5f own6e hb6e hO7 y1 n1
  generalize V6.setCell ⟨w3.heap.size, 1, none⟩ (.slice none 0 0) = V7 at *
  have hT0 : Tn w w3.heap.size (.slice (some ⟨g0, o0, none⟩) G.length gc) (.slice ca C.length cc) (.slice (some ⟨g1, 0, none⟩) G.length uc0) G.length (turnG G i j hi hj) w2.heap.size [] (.slice none 0 0) V7 := ⟨B5g, B12g, own7, World.ownsRow_nil _ _ _ _, hb7⟩
  have hIn : Hid (∀ (V : World), Below w.heap.size w V → ∀ a b : Int, Calls Try.prog 8 #[.agg #[(.slice (some ⟨g0, o0, none⟩) G.length gc), (.slice ca C.length cc)], .int .i64 a, .int .i64 b] V fun e w' => e = .returned (.tuple #[.int .i64 (interF C a b).1, .bool (interF C a b).2]) ∧ Below V.heap.size V w') := fun V hV a b => inter_any C _ _ a b V (hF2.out.below hV) lC
  have hg12 : g1 < w3.heap.size ∧ w.heap.size < g1 := ⟨by omega, by omega⟩
  obtain ⟨i47, hk, hk0, hk1, hk2⟩ := info_parts info47
  clear B5g B12g own7 hb7 hs12 hs13 hs14 hs15 hs16 hs17 hs18 hs19 hcap1 hg1a hg1b hne3 hnew hne0 hgx
  go_wp2
  go_loopg [13] G.length (fun gk av wr => ∃ (k : Nat) (uc : Value), k + gk = G.length ∧ av = .int .i64 (k : Int) ∧ Hid (Tn w w3.heap.size (.slice (some ⟨g0, o0, none⟩) G.length gc) (.slice ca C.length cc) (.slice (some ⟨g1, 0, none⟩) G.length uc0) G.length (turnG G i j hi hj) w2.heap.size (outT C i j G.length k) uc wr))
  case atStart => exact ⟨0, _, by omega, rfl, hT0⟩
  case round =>
    clear hT0
    obtain ⟨k, uc, hk9, rfl, hTn⟩ := hrel
    by_cases hlt : k < G.length
    · have t1 : (k : Int) < (G.length : Int) := by omega
      have hTi : Hid (Tn w w3.heap.size (.slice (some ⟨g0, o0, none⟩) G.length gc) (.slice ca C.length cc) (.slice (some ⟨g1, 0, none⟩) G.length uc0) G.length (turnG G i j hi hj) w2.heap.size (outT C i j G.length k ++ innT C i j k (k + 1)) uc wr) := by rw [inn_nil C i j k (k + 1) (Nat.le_refl _), List.append_nil]; exact hTn
      have hol := outl C i j G.length k
      have hol2 : G.length * k ≤ 64 * 64 := Nat.mul_le_mul hn64 (by omega)
      clear hTn
      go_wp2
      go_loopg [14] (G.length - (k + 1)) (fun gk bv wr => ∃ (m : Nat) (uc : Value), m + gk = G.length ∧ k + 1 ≤ m ∧ bv = .int .i64 (m : Int) ∧ Hid (Tn w w3.heap.size (.slice (some ⟨g0, o0, none⟩) G.length gc) (.slice ca C.length cc) (.slice (some ⟨g1, 0, none⟩) G.length uc0) G.length (turnG G i j hi hj) w2.heap.size (outT C i j G.length k ++ innT C i j k m) uc wr))
      case atStart => exact ⟨k + 1, uc, by omega, by omega, by go_num, hTi⟩
      case round =>
        clear hTi
        obtain ⟨m, uc, hm9, hkm, rfl, hTn⟩ := hrel
        by_cases hlm : m < G.length
        · have t2 : (m : Int) < (G.length : Int) := by omega
          have hTn' := hTn.out
          have K0 := hTn'.b5
          have hbd := hTn'.bel.drew
          have hIe := fun (V : World) (hV : Below w.heap.size w V) => hIn.out V hV ((tau i j k : Nat) : Int) ((tau i j m : Nat) : Int)
          have hIf := fun (V : World) (hV : Below w.heap.size w V) => hIn.out V hV ((tau i j m : Nat) : Int) ((tau i j k : Nat) : Int)
          have htk := turned_any i j k
          have htm := turned_any i j m
          have hil := inn_len C i j k m
          have hnx : Hid (outT C i j G.length k ++ innT C i j k (m + 1) = outT C i j G.length k ++ innT C i j k m ++ rowT C i j k m) := by
            show _ = _
            rw [show innT C i j k (m + 1) = innT C i j k m ++ rowT C i j k m from by conv => lhs; unfold innT; rw [if_pos (show k < m by omega)], List.append_assoc]
          unfold rowT at hnx
          generalize interF C ((tau i j k : Nat) : Int) ((tau i j m : Nat) : Int) = A at *
          generalize interF C ((tau i j m : Nat) : Int) ((tau i j k : Nat) : Int) = A' at *
          generalize etk0 : tau i j k = tk at *
          generalize etm0 : tau i j m = tm at *
          have etk : Hid (tau i j k = tk) := etk0
          have etm : Hid (tau i j m = tm) := etm0
          clear etk0 etm0
          have hLl : (outT C i j G.length k ++ innT C i j k m).length ≤ 4096 + 64 := by rw [List.length_append]; omega
          generalize outT C i j G.length k ++ innT C i j k m = LL at *
          go_upto_region 16 with fail
          go_region_held3 (fun w' => w'.cell? ⟨w.heap.size, 0, none⟩ = some (.slice (some ⟨g0, o0, none⟩) G.length gc) ∧ w'.cell? ⟨w.heap.size, 1, none⟩ = some (.slice ca C.length cc)) (first | with_reducible exact has2b K0.drew | with_reducible exact has2b K1 | with_reducible exact has2b K0) (first
            | (go_at_call 17; (with_reducible refine Calls.mono (htk _) ?_); rintro e w1 ⟨rfl, rfl⟩)
            | (go_at_call 17; (with_reducible refine Calls.mono (htm _) ?_); rintro e w1 ⟨rfl, rfl⟩)
            | (go_at_call 8; (with_reducible refine Calls.mono (hIe _ hbd) ?_); rintro e wa ⟨rfl, hba⟩; have K1 := K0.drew.below hba))
          all_goals
            have hTa := (hTn'.below (Below.refl _ _).drew).below hba
            clear K0 K1 hbd hba hTn' hIe htk htm
            have K2 := hTa.b5
            have hbe := hTa.bel.drew
            have htk2 := turned_any i j k
            have htm2 := turned_any i j m
            rw [etk.out] at htk2
            rw [etm.out] at htm2
            go_upto_region 17 with fail
            go_region_held3 (fun w' => w'.cell? ⟨w.heap.size, 0, none⟩ = some (.slice (some ⟨g0, o0, none⟩) G.length gc) ∧ w'.cell? ⟨w.heap.size, 1, none⟩ = some (.slice ca C.length cc)) (first | with_reducible exact has2b K2.drew | with_reducible exact has2b K3 | with_reducible exact has2b K2) (first
              | (go_at_call 17; (with_reducible refine Calls.mono (htk2 _) ?_); rintro e w1 ⟨rfl, rfl⟩)
              | (go_at_call 17; (with_reducible refine Calls.mono (htm2 _) ?_); rintro e w1 ⟨rfl, rfl⟩)
              | (go_at_call 8; (with_reducible refine Calls.mono (hIf _ hbe) ?_); rintro e wb ⟨rfl, hbb⟩; have K3 := K2.drew.below hbb))
          all_goals
            have hTb := (hTa.below (Below.refl _ _).drew).below hbb
            clear K2 K3 hbe hbb hTa hIf htk2 htm2
            obtain ⟨A1, A2⟩ := A
            cases A2 with
            | false =>
              have e9 : Hid (outT C i j G.length k ++ innT C i j k (m + 1) = LL) := by show _ = _; rw [hnx.out, if_neg (by simp), List.append_nil]
              go_wp2
              go_roundg (G.length - (m + 1))
              case measure => go_light; omega
              case rel => exact ⟨m + 1, uc, by omega, by omega, by go_num, by rw [e9.out]; exact hTb⟩
            | true =>
              have e9 : Hid (outT C i j G.length k ++ innT C i j k (m + 1) = LL ++ [⟨k, m, A1, A'.1⟩]) := by show _ = _; rw [hnx.out, if_pos rfl]
              have q1 : Hid (LL.length + 1 ≤ maxLen) := by show _ ≤ _; unfold maxLen; omega
              have q2 : Hid ((LL.length + 1) * 32 ≤ 140737488355328) := by show _ ≤ _; omega
              have hcv := hTb.c
              obtain ⟨ua2, uc2, rfl⟩ := own_slc hcv
              have y1 := hTb.b12.2.1 1
              have hb12 := hTb.b12.1
              generalize A'.1 = A1' at *
              go_wp2_with ((at_builtin; refine wpList_append_lies _ rfl _ _ 23 rfl (w3.heap.size + 1) 47 i47 _ 4 32 Try.underlying23 hk hk0 hk1 hk2 rfl (by decide) (.slice ua2 LL.length uc2) LL.length (cellsF Cf.cs LL) rfl (hcv.alloc _) ⟨wb.heap.size, 0, none⟩ 1 1 (Cf.cs ⟨k, m, A1, A1'⟩) rfl rfl (fun q u hq => by rw [Go.WideShapes.add_plain, Nat.zero_add, (Has.new wb #[.int .i64 (k : Int), .int .i64 (m : Int), .int .i64 A1, .int .i64 A1'] 47 rfl).2.1 q]; simpa [Cf.cs] using hq) (cf_one _) (by decide) q1.out q2.out (by simp; omega) (wb.heap.size + 1) (by simp) ?_; intro g8 k8 w8 own8 hg8 hat8 hlt8); have hB8 : Has w8 w3.heap.size #[(.slice (some ⟨g1, 0, none⟩) G.length uc0), .slice ua2 LL.length uc2] := (hTb.b12.alloc _).blk hg8.size (hg8.block w3.heap.size (by simp; omega) (fun e => by have := (own_lt hcv w3.heap.size e.symm).1; omega)); have y8 := hB8.2.1 1; have n8 := hB8.2.2 1)
              have hq8 : w3.heap.size + 1 ≤ g8 := (own_lt own8 g8 rfl).1
              have hO8 : Only (fun q => q = w3.heap.size) w8 (w8.setCell ⟨w3.heap.size, 1, none⟩ (.slice (some ⟨g8, 0, none⟩) (LL.length + 1) k8)) := (Only.refl (fun q => q = w3.heap.size) w8).set (b := w3.heap.size) (i := 1) rfl _
              have hB9 : Has (w8.setCell ⟨w3.heap.size, 1, none⟩ (.slice (some ⟨g8, 0, none⟩) (LL.length + 1) k8)) w3.heap.size #[(.slice (some ⟨g1, 0, none⟩) G.length uc0), .slice (some ⟨g8, 0, none⟩) (LL.length + 1) k8] := hB8.set 1 (by simp) _
              have hF9 : Has (w8.setCell ⟨w3.heap.size, 1, none⟩ (.slice (some ⟨g8, 0, none⟩) (LL.length + 1) k8)) w.heap.size #[(.slice (some ⟨g0, o0, none⟩) G.length gc), (.slice ca C.length cc)] := ((hTb.b5.alloc _).blk hg8.size (hg8.block w.heap.size (by have := hTb.b5.1; simp; omega) (fun e => by have := (own_lt hcv w.heap.size e.symm).1; omega))).only hO8 (by omega)
              have hG9 := own_only2 ((hTb.g.alloc (.cells #[.int .i64 (k : Int), .int .i64 (m : Int), .int .i64 A1, .int .i64 A1'] 47)).kept hg8 (.inr (fun e => by have := (own_lt hcv g1 e.symm).1; omega))) hO8 (fun q hq e => by have e2 : g1 = q := Option.some.inj hq; omega)
              have hC9 : (w8.setCell ⟨w3.heap.size, 1, none⟩ (.slice (some ⟨g8, 0, none⟩) (LL.length + 1) k8)).ownsRow (w3.heap.size + 1) 47 4 (.slice (some ⟨g8, 0, none⟩) (LL.length + 1) k8) (LL ++ [(⟨k, m, A1, A1'⟩ : Cf)]).length (cellsF Cf.cs (LL ++ [⟨k, m, A1, A1'⟩])) := by
                rw [cells_app, List.length_append]
                exact own_only2 own8 hO8 (fun q hq e => by have e2 : g8 = q := Option.some.inj hq; omega)
              have hD9 : Below w.heap.size w (w8.setCell ⟨w3.heap.size, 1, none⟩ (.slice (some ⟨g8, 0, none⟩) (LL.length + 1) k8)) := ((hTb.bel.alloc hTb.bel.size (.cells #[.int .i64 (k : Int), .int .i64 (m : Int), .int .i64 A1, .int .i64 A1'] 47)).grown hg8 (by have := hTb.bel.size; simp; omega) (fun q hq => by have := (own_lt hcv q hq).1; omega)).setCell (p := ⟨w3.heap.size, 1, none⟩) (by show w.heap.size ≤ w3.heap.size; omega) _
              go_roundg (G.length - (m + 1))
              case measure => go_light; omega
              case rel => exact ⟨m + 1, _, by omega, by omega, by go_num, by rw [e9.out]; exact ⟨hF9, hB9, hG9, hC9, hD9⟩⟩
        · obtain rfl : m = G.length := by omega
          have t2 : ¬ (G.length : Int) < (G.length : Int) := by omega
          have hTo : Hid (Tn w w3.heap.size (.slice (some ⟨g0, o0, none⟩) G.length gc) (.slice ca C.length cc) (.slice (some ⟨g1, 0, none⟩) G.length uc0) G.length (turnG G i j hi hj) w2.heap.size (outT C i j G.length (k + 1)) uc wr) := hTn
          clear hTn
          go_wp2
          go_roundg (G.length - (k + 1))
          case measure => go_light; omega
          case rel => exact ⟨k + 1, uc, by omega, by go_num, hTo⟩
    · obtain rfl : k = G.length := by omega
      have t1 : ¬ (G.length : Int) < (G.length : Int) := by omega
      have hTT := hTn.out
      obtain ⟨hq64, hqg, hsrt⟩ := grid_parts gr
      have hlen := out_len hsrt hi hj
      have ok' := srt_ok (out_srt hsrt i j) hq64
      have hb1 : ∀ k, k < G.length → hasN (turnN F i j) (k : Int) = hasN F (tau i j k : Nat) := fun k hk => turnN_has F i j k (by omega) (by omega) (by omega)
      have hb2 : ∀ k, k < G.length → hasN (turnN T i j) (k : Int) = hasN T (tau i j k : Nat) := fun k hk => turnN_has T i j k (by omega) (by omega) (by omega)
      have eS := span_turn gr false hi hj hb1 hb2
      have eL := span_turn gr true hi hj hb1 hb2
      have eH := hold_turn gr hi hj hb1 hb2
      have lt1 := turnN_lt F i j hF (by omega) (by omega)
      have lt2 := turnN_lt T i j hT (by omega) (by omega)
      have dm1 := fun V => turnedMask_any F i j V hF (by omega) (by omega)
      have dm2 := fun V => turnedMask_any T i j V hT (by omega) (by omega)
      generalize outT C i j G.length G.length = C' at *
      have lenX := turnG_len G i j hi hj
      generalize turnG G i j hi hj = X at *
      generalize turnN F i j = F' at *
      generalize turnN T i j = T' at *
      have sU := fun (V : World) (hV : Tn w w3.heap.size (.slice (some ⟨g0, o0, none⟩) G.length gc) (.slice ca C.length cc) (.slice (some ⟨g1, 0, none⟩) G.length uc0) G.length X w2.heap.size C' uc V) => span_any X C' (.slice (some ⟨g1, 0, none⟩) G.length uc0) uc F' T' V lt1 lt2 (fl_own gp_len hV.g lenX.symm) (fl_own cf_len hV.c rfl) (by rw [lenX]; exact lG) (by rw [hlen]; exact lC) ok'
      have lU := fun (V : World) (hV : Tn w w3.heap.size (.slice (some ⟨g0, o0, none⟩) G.length gc) (.slice ca C.length cc) (.slice (some ⟨g1, 0, none⟩) G.length uc0) G.length X w2.heap.size C' uc V) => longest_any X C' (.slice (some ⟨g1, 0, none⟩) G.length uc0) uc F' T' V lt1 lt2 (fl_own gp_len hV.g lenX.symm) (fl_own cf_len hV.c rfl) (by rw [lenX]; exact lG) (by rw [hlen]; exact lC) ok'
      have hU := fun (V : World) (hV : Tn w w3.heap.size (.slice (some ⟨g0, o0, none⟩) G.length gc) (.slice ca C.length cc) (.slice (some ⟨g1, 0, none⟩) G.length uc0) G.length X w2.heap.size C' uc V) => hold_any X C' (.slice (some ⟨g1, 0, none⟩) G.length uc0) uc F' T' V lt1 lt2 (fl_own gp_len hV.g lenX.symm) (fl_own cf_len hV.c rfl) (by rw [lenX]; exact lG) (by rw [hlen]; exact lC)
      rw [eS] at sU
      rw [eL] at lU
      rw [eH] at hU
      have sT := fun (V : World) (hV : Below w.heap.size w V) => span_any G C (.slice (some ⟨g0, o0, none⟩) G.length gc) (.slice ca C.length cc) F T V hF hT (hF1.out.below hV) (hF2.out.below hV) lG lC ok
      have lT := fun (V : World) (hV : Below w.heap.size w V) => longest_any G C (.slice (some ⟨g0, o0, none⟩) G.length gc) (.slice ca C.length cc) F T V hF hT (hF1.out.below hV) (hF2.out.below hV) lG lC ok
      have hTh := fun (V : World) (hV : Below w.heap.size w V) => hold_any G C (.slice (some ⟨g0, o0, none⟩) G.length gc) (.slice ca C.length cc) F T V hF hT (hF1.out.below hV) (hF2.out.below hV) lG lC
      generalize spanV G C F T false = S1 at *
      generalize spanV G C F T true = S2 at *
      generalize holdV G C F T = S3 at *
      clear eS eL eH hb1 hb2 ok' ok hqg hsrt gr hIn hTn lt1 lt2
      obtain ⟨ua2, uc2, rfl⟩ := own_slc hTT.c
      have x1 := hTT.b5.2.1 1
      have y1 := hTT.b12.2.1 1
      have fl : ((C'.length : Int) != (C.length : Int)) = false := by rw [hlen]; simp
      have dm1' := dm1 wr
      clear dm1
      go_upto_region 23 with (go_at_call 18; (with_reducible refine Calls.mono dm1' ?_); rintro e wc ⟨rfl, hEc⟩)
      have hTc := hTT.below hEc
      have dm2' := dm2 wc
      clear dm2 dm1' hTT hEc x1 y1 fl hlen
      go_upto_region 24 with (go_at_call 18; (with_reducible refine Calls.mono dm2' ?_); rintro e wd ⟨rfl, hEd⟩)
      have hTd := hTc.below hEd
      clear dm2' hTc hEd
      have x0 := hTd.b5.2.1 0
      have x1 := hTd.b5.2.1 1
      have q1 := sT wd hTd.bel
      clear sT
      go_upto_region 25 with (go_at_call 19; (with_reducible refine Calls.mono q1 ?_); rintro e we ⟨rfl, hEe⟩)
      have hTe := hTd.below hEe
      clear q1 hTd hEe x0 x1
      have y0 := hTe.b12.2.1 0
      have y1 := hTe.b12.2.1 1
      have q2 := sU we hTe
      clear sU
      go_upto_region 26 with (go_at_call 19; (with_reducible refine Calls.mono q2 ?_); rintro e wf ⟨rfl, hEf⟩)
      have hTf := hTe.below hEf
      clear q2 hTe hEf y0 y1
      have x0 := hTf.b5.2.1 0
      have x1 := hTf.b5.2.1 1
      have q3 := lT wf hTf.bel
      clear lT
      go_upto_region 27 with (go_at_call 20; (with_reducible refine Calls.mono q3 ?_); rintro e wg ⟨rfl, hEg⟩)
      have hTg := hTf.below hEg
      clear q3 hTf hEg x0 x1
      have y0 := hTg.b12.2.1 0
      have y1 := hTg.b12.2.1 1
      have q4 := lU wg hTg
      clear lU
      go_upto_region 28 with (go_at_call 20; (with_reducible refine Calls.mono q4 ?_); rintro e wh ⟨rfl, hEh⟩)
      have hTi := hTg.below hEh
      clear q4 hTg hEh y0 y1
      have x0 := hTi.b5.2.1 0
      have x1 := hTi.b5.2.1 1
      have q5 := hTh wh hTi.bel
      clear hTh
      go_upto_region 29 with (go_at_call 21; (with_reducible refine Calls.mono q5 ?_); rintro e wi ⟨rfl, hEi⟩)
      have hTj := hTi.below hEi
      clear q5 hTi hEi x0 x1
      have y0 := hTj.b12.2.1 0
      have y1 := hTj.b12.2.1 1
      have q6 := hU wi hTj
      clear hU
      go_wp2_with (go_at_call 21; (with_reducible refine Calls.mono q6 ?_); rintro e wj ⟨rfl, hEj⟩)
      have hTk := hTj.below hEj
      go_ret
      exact ⟨rfl, hTk.bel⟩
end Go.Proofs.Ytiaklfjpmmifjaa
