import Derived.Test.YtnicolaphmffkaaGreatDoorMaA
import Derived.Deep.RegionLaw
import Derived.Deep.AppendLies
namespace Go.Proofs.YtnicolaphmffkaaGreatDoor
open Go.RowKit
set_option linter.unusedVariables false
set_option linter.unusedSimpArgs false

theorem ownsRow_cut {w : World} {base : Nat} {e : TypeId} {size g cap n m : Nat} {xs : List Value} (hm : m ≤ n)
    (h : w.ownsRow base e size (.slice (some ⟨g, 0, none⟩) n cap) n xs) : w.ownsRow base e size (.slice (some ⟨g, 0, none⟩) m cap) m (xs.take (m * size)) := by
  obtain ⟨h1, h2⟩ := h
  have hmn : m * size ≤ n * size := Nat.mul_le_mul_right _ hm
  refine ⟨by rw [List.length_take, h1]; omega, ?_⟩
  rcases h2 with ⟨h0, _⟩ | ⟨g', cap', cur, hv, hg, hh, hn, hcap, hsz, htake⟩
  · cases h0
  · cases hv
    refine .inr ⟨g, cap, cur, rfl, hg, hh, by omega, hcap, hsz, ?_⟩
    rw [← htake, List.take_take, Nat.min_eq_left hmn]

/-- The cells of what waits. -/
def Mcs (x : Int × Int) : List Value := [.int .i64 (lvF x.1), .int .i64 x.2]
def cellsM (S : List (Int × Int)) : List Value := S.flatMap Mcs
theorem cellsM_len (S : List (Int × Int)) : (cellsM S).length = S.length * 2 := by
  induction S with
  | nil => rfl
  | cons x S ih => unfold cellsM at *; rw [List.flatMap_cons, List.length_append, ih]; simp [Mcs]; omega
theorem cellsM_append (S T : List (Int × Int)) : cellsM (S ++ T) = cellsM S ++ cellsM T := by unfold cellsM; simp
theorem cellsM_take (S : List (Int × Int)) (k : Nat) (hk : k ≤ S.length) : (cellsM S).take (k * 2) = cellsM (S.take k) := by
  have h := cellsM_append (S.take k) (S.drop k)
  rw [List.take_append_drop] at h
  rw [h, List.take_append_of_le_length (by rw [cellsM_len, List.length_take]; omega)]
  rw [List.take_of_length_le (by rw [cellsM_len, List.length_take]; omega)]
theorem cellsM_get : ∀ (S : List (Int × Int)) (i j : Nat) (h : i < S.length), j < 2 → (cellsM S)[i * 2 + j]? = (Mcs S[i])[j]? := by
  intro S
  induction S with
  | nil => intro i j h; simp at h
  | cons x S ih =>
    intro i j h hj
    have e : cellsM (x :: S) = Mcs x ++ cellsM S := by unfold cellsM; rw [List.flatMap_cons]
    have hl : (Mcs x).length = 2 := rfl
    rw [e]
    cases i with
    | zero => rw [List.getElem?_append_left (by rw [hl]; omega)]; simp
    | succ i =>
      rw [List.getElem?_append_right (by rw [hl]; omega), hl, show (i + 1) * 2 + j - 2 = i * 2 + j by omega, ih i j (by simpa using h) hj]
      simp
theorem ms_of {w : World} {base g cap r c' : Nat} {S : List (Int × Int)} (h : w.ownsRow base 204 2 (.slice (some ⟨g, 0, none⟩) S.length cap) S.length (cellsM S)) (hr : r ≤ S.length) :
    Ms w (.slice (some ⟨g, r * 2, none⟩) (S.length - r) c') (S.drop r) := by
  refine ⟨_, c', by rw [List.length_drop], .inr ⟨g, r * 2, rfl, (own_lt h g rfl).2, fun i hi => ?_⟩⟩
  have hi' : r + i < S.length := by simp at hi; omega
  have key : ∀ j u, j < 2 → (Mcs S[r + i])[j]? = some u → w.cell? ⟨g, (r + i) * 2 + j, none⟩ = some u := by
    intro j u hj hu
    rw [h.cellAt _ (by omega), cellsM_get S (r + i) j hi' hj]; exact hu
  have e0 := key 0 _ (by omega) rfl
  have e1 := key 1 _ (by omega) rfl
  rw [show (r + i) * 2 + 0 = r * 2 + i * 2 by omega] at e0
  rw [show (r + i) * 2 + 1 = r * 2 + i * 2 + 1 by omega] at e1
  rw [List.getElem_drop]
  exact ⟨e0, e1⟩

theorem over_any (op y0 y1 : Int) (xs : List (Int × Int)) (v : Value) (w : World) (hM : Ms w v xs) (hl : (xs.length : Int) = arF op) (h0 : 1 ≤ arF op → y0 = akF op) (h1 : 2 ≤ arF op → y1 = akS op) (hb : ∀ x ∈ xs, 0 ≤ x.2 ∧ x.2 ≤ 4611686018427387904) :
    Calls Tryz.prog 103 #[.agg #[.int .i64 (arF op), .int .i64 (lvF op), .bool (opF op), .int .i64 y0, .int .i64 y1], v] w fun e w' => e = .returned (.int .i64 (nodeNest op xs)) ∧ Below w.heap.size w w' := by
  have hbd := arF_bd op
  match xs, hM, hl, hb with
  | [], hM, hl, hb => exact over_nil op _ y0 y1 v w hM
  | [x], hM, hl, hb =>
    rw [h0 (by simp at hl; omega)]
    exact over_one op _ y1 x v w hM (hb x (by simp))
  | [x, y], hM, hl, hb =>
    rw [h0 (by simp at hl; omega), h1 (by simp at hl; omega)]
    exact over_two op _ x y v w hM (hb x (by simp)) (hb y (by simp))
  | x :: y :: z :: r, hM, hl, hb => simp at hl; omega

theorem runSt_len (L : List Nd) : ∀ k, k ≤ L.length → (runSt L k).length ≤ k
  | 0, _ => by rw [runSt_zero]; simp
  | k + 1, hk => by
    have ih := runSt_len L k (by omega)
    rw [runSt_succ L k (by omega), stepSt_len]; omega

theorem cells_two {W : World} (x0 x1 : Value) (t : TypeId) : ∀ j u, [x0, x1][j]? = some u → (W.alloc (.cells #[x0, x1] t)).cell? ((⟨W.heap.size, 0, none⟩ : Addr).add j) = some u := by
  intro j u h
  have := (Has.new W #[x0, x1] t rfl).2.1 j
  have e : ((⟨W.heap.size, 0, none⟩ : Addr).add j) = ⟨W.heap.size, j, none⟩ := by
    rw [Go.WideShapes.add_plain, Nat.zero_add]
  rw [e, this]
  simpa using h
theorem own_keep {S : Nat → Prop} {w w' : World} {base e size n : Nat} {v : Value} {xs : List Value} (h : w.ownsRow base e size v n xs) (ho : Only S w w') (hb : ∀ g, v.ownBlock = some g → ¬ S g) : w'.ownsRow base e size v n xs := by
  refine ⟨h.1, ?_⟩
  rcases h.2 with h0 | ⟨g, cap, cur, h1, h2, h3, h4⟩
  · exact .inl h0
  · exact .inr ⟨g, cap, cur, h1, h2, (ho.block g (Array.getElem?_eq_some_iff.1 h3).1 (hb g (by rw [h1]; rfl))).trans h3, h4⟩
theorem grown_below {B : Nat} {w A C : World} {row : Option Nat} (h : Below B w A) (hg : A.grownBy C row) (hs : B ≤ w.heap.size) (hr : ∀ k, row = some k → B ≤ k) : Below B w C :=
  h.trans ⟨hg.os, hg.tape, hg.output, hg.size, fun k hk => hg.block k (by have := h.size; omega) (by intro e; have := hr k e.symm; omega)⟩

theorem info50 : (Tryz.prog.info? 204).map (fun i => (i.zero, i.size, i.bytes)) = some (some (.agg #[.int .i64 0, .int .i64 0]), 2, 16) := by kernel_rfl

set_option maxRecDepth 100000 in
set_option maxHeartbeats 8000000 in
theorem nest_any (L : List Nd) (v : Value) (w : World) (hN : Nds w v L) (hlen : L.length ≤ 2932031007317) :
    Calls Tryz.prog 73 #[v] w fun e w' => e = .returned (.int .i64 (nestF L)) ∧ Below w.heap.size w w' := by
  have hSp : ∀ W, Below w.heap.size w W → Calls Tryz.prog 101 #[v, .int .i64 ((L.length : Int) - 1)] W fun e w' => e = .returned (.int .i64 (spanF L ((L.length : Int) - 1))) ∧ Below W.heap.size W w' := fun W hb =>
    span_any L v _ W (hN.below hb) (by omega) (by omega) (by omega)
  obtain ⟨a, cap, rfl, hc⟩ := hN
  by_cases hz : spanF L ((L.length : Int) - 1) = 0
  · have hF : nestF L = ((runSt L L.length).headD (0, 0)).2 := by unfold nestF; rw [if_pos hz]
    rw [hz] at hSp
    have hpos : 0 < L.length := by
      by_cases h : 0 < L.length
      · exact h
      · unfold spanF at hz; rw [if_neg (by omega)] at hz; simp at hz
    have hhi := span_high L L.length 1 (Nat.le_refl _) (by omega) (by unfold spanF at hz; rw [if_pos (by omega)] at hz; rw [show ((L.length : Int) - 1).toNat + 1 = L.length by omega] at hz; exact hz)
    obtain ⟨g, o, rfl, hg, hC⟩ := hc.resolve_left (by intro h; rw [h] at hpos; simp at hpos)
    have hS0 := hSp w (Below.refl _ _)
    clear hc hSp hz
    go_enter Tryz.func73, Tryz.ntmps73
    go_wp2_with (go_at_call 101; (with_reducible refine hS0.mono ?_); rintro e w1 ⟨rfl, hb1⟩)
    go_loopw [3, 18] (fun t3 t18 wr => ∃ k : Nat, k ≤ L.length ∧ t18 = .int .i64 (k : Int) ∧ Below w.heap.size w wr ∧ ((k = 0 ∧ t3 = .slice none 0 0) ∨ (0 < k ∧ ∃ gw cw, t3 = .slice (some ⟨gw, 0, none⟩) (runSt L k).length cw ∧ wr.ownsRow w.heap.size 204 2 (.slice (some ⟨gw, 0, none⟩) (runSt L k).length cw) (runSt L k).length (cellsM (runSt L k))))) (fun _ t _ => L.length - (intOf t).toNat)
    case atStart => exact ⟨0, by omega, rfl, hb1, .inl ⟨rfl, rfl⟩⟩
    case round =>
      obtain ⟨k, hk, rfl, hb, hst⟩ := hrel
      by_cases hlt : k < L.length
      · have hj := hhi.2 k hlt hlt
        have hbd := arF_bd L[k].op
        obtain ⟨p0, p1, p2, p3, p4⟩ := hC k hlt
        have q0 := (hb.cell (p := ⟨g, _, none⟩) hg).trans p0
        have q1 := (hb.cell (p := ⟨g, _, none⟩) hg).trans p1
        have q2 := (hb.cell (p := ⟨g, _, none⟩) hg).trans p2
        have q3 := (hb.cell (p := ⟨g, _, none⟩) hg).trans p3
        have q4 := (hb.cell (p := ⟨g, _, none⟩) hg).trans p4
        have hSt := runSt_succ L k hlt
        have hRb := runSt_bd L k (by omega)
        have hbz := hb.size
        have hkL : (k : Int) < (L.length : Int) := by omega
        have hk0 : (0 : Int) ≤ (k : Int) := by omega
        have hShp : ∀ W : World, Calls Tryz.prog 102 #[.int .i64 L[k].op] W fun e w' => (∃ y0 y1, e = .returned (.tuple #[.agg #[.int .i64 (arF L[k].op), .int .i64 (lvF L[k].op), .bool (opF L[k].op), .int .i64 y0, .int .i64 y1], .bool true]) ∧ (1 ≤ arF L[k].op → y0 = akF L[k].op) ∧ (2 ≤ arF L[k].op → y1 = akS L[k].op)) ∧ Below W.heap.size W w' := fun W => shape_any L[k].op W hj.1
        rcases hst with ⟨rfl, rfl⟩ | ⟨hk1, gw, cw, rfl, hrow⟩
        · rw [runSt_zero] at hj hSt
          have ha0 : arF L[0].op = 0 := by simp at hj; omega
          have hNx : Hid (runSt L 1 = [(L[0].op, nodeNest L[0].op [])]) := by show runSt L 1 = _; rw [hSt]; unfold stepSt; simp
          have hNb := nodeNest_bd L[0].op [] 0 (by omega) (by simp)
          have hOv : ∀ (W : World) (y0 y1 : Int), Calls Tryz.prog 103 #[.agg #[.int .i64 0, .int .i64 (lvF L[0].op), .bool (opF L[0].op), .int .i64 y0, .int .i64 y1], .slice none 0 0] W fun e w' => e = .returned (.int .i64 (nodeNest L[0].op [])) ∧ Below W.heap.size W w' := fun W y0 y1 => over_nil L[0].op 0 y0 y1 _ W ⟨none, 0, rfl, .inl rfl⟩
          rw [ha0] at hShp
          have hnext : Hid (∀ (v' : Value) (A : World), A.ownsRow w.heap.size 204 2 v' (0 + 1) ([] ++ [.int .i64 (lvF L[0].op), .int .i64 (nodeNest L[0].op [])]) → Below w.heap.size w A → ∃ k' : Nat, k' ≤ L.length ∧ (.int .i64 1 : Value) = .int .i64 (k' : Int) ∧ Below w.heap.size w A ∧ ((k' = 0 ∧ v' = .slice none 0 0) ∨ (0 < k' ∧ ∃ gw cw, v' = .slice (some ⟨gw, 0, none⟩) (runSt L k').length cw ∧ A.ownsRow w.heap.size 204 2 (.slice (some ⟨gw, 0, none⟩) (runSt L k').length cw) (runSt L k').length (cellsM (runSt L k'))))) := by
            intro v' A hv hA
            obtain ⟨g', cap', rfl⟩ := ownsRow_succ hv
            refine ⟨1, by omega, rfl, hA, .inr ⟨by omega, g', cap', ?_, ?_⟩⟩
            · rw [hNx.out]; rfl
            · rw [hNx.out]; exact hv
          generalize nodeNest L[0].op [] = NN at *
          generalize lvF L[0].op = lv at *
          generalize opF L[0].op = pn at *
          generalize L[0].op = op at *
          generalize L[0].val = val at *
          generalize L[0].name = nam at *
          generalize L[0].line = lin at *
          generalize L[0].col = col at *
          obtain ⟨i0, hi, hi0, hi1, hi2⟩ := info_parts info50
          clear hC hF p0 p1 p2 p3 p4 hSt hhi hRb hb1 hS0 hj hNx
          simp only [Nat.zero_mul, Nat.add_zero] at q0 q1 q2 q3 q4
          go_wp2_with (go_at_call 102; (with_reducible refine (hShp _).mono ?_); rintro e w2 ⟨⟨y0, y1, rfl, hy0, hy1⟩, hb2⟩; have hb2z := hb2.size)
          rename_i K hKK
          have tail : ∀ (X : World) (b : Nat) (v5 v6 v7 v19 v20 v21 v22 v23 v24 v25 v26 v27 v28 v29 v30 v31 v32 v33 v34 v35 v36 v37 v38 v39 v40 v41 v42 v43 v44 v45 v46 v47 : Value), Has X b #[.int .i64 lv, .int .i64 NN] → Below w.heap.size w X → K { tmps := #[.slice (some ⟨g, o, none⟩) L.length cap, undef, .int .i64 0, .slice none 0 0, undef, v5, v6, v7, .int .i64 0, .pointer (some ⟨b, 0, none⟩), .slice (some ⟨g, o, none⟩) L.length cap, .slice (some ⟨g, o, none⟩) L.length cap, .int .i64 (L.length : Int), .int .i64 ((L.length : Int) - 1), .int .i64 0, .bool false, .slice (some ⟨g, o, none⟩) L.length cap, .int .i64 (L.length : Int), .int .i64 0, v19, v20, v21, v22, v23, v24, v25, v26, v27, v28, v29, v30, v31, v32, v33, v34, v35, v36, v37, v38, v39, v40, v41, v42, v43, v44, v45, v46, v47, undef, undef, undef, undef], defers := [] } X := by
            intro X b v5 v6 v7 v19 v20 v21 v22 v23 v24 v25 v26 v27 v28 v29 v30 v31 v32 v33 v34 v35 v36 v37 v38 v39 v40 v41 v42 v43 v44 v45 v46 v47 hX hXB
            obtain ⟨x0, X1, x2⟩ := id hX
            have hXz := hXB.size
            refine hKK _ _ ?_
            clear hKK hOv hShp hb2 hb q0 q1 q2 q3 q4
            go_region_law (refine step_append_lies _ rfl _ _ 196 rfl w.heap.size 204 i0 _ 2 16 Tryz.underlying196 hi hi0 hi1 hi2 rfl (by decide) _ _ _ rfl (World.ownsRow_nil _ _ _ _) ⟨X.heap.size, 0, none⟩ 1 1 [.int .i64 lv, .int .i64 NN] rfl rfl (by first | exact cells_two _ _ _ | exact cells_two (W := X.drew) _ _ _) (fun u hu => by simp at hu; rcases hu with rfl | rfl <;> rfl) (by decide) (by unfold maxLen; omega) (by omega) (by first | (simp; omega) | (show w.heap.size ≤ (X.drew.alloc _).heap.size; simp; exact hXz)) _ rfl ?_; intro g' cap' w4 hown' hgrow hlies hlt4; have hB4 : Below w.heap.size w w4 := by first | exact grown_below (hXB.alloc hXz _) hgrow (Nat.le_refl _) (fun k hk => by cases hk) | exact grown_below (hXB.drew.alloc hXz _) hgrow (Nat.le_refl _) (fun k hk => by cases hk))
            all_goals
              go_wp2
              go_roundw
              case rel => exact hnext.out _ _ hown' hB4
              case measure => simp [intOf]; omega
          clear hKK
          go_region_with (go_at_call 103; (with_reducible refine (hOv _ y0 y1).mono ?_); rintro e w3 ⟨rfl, hb3⟩; first | (have hX3 := ((Has.new (w2.alloc (.cells #[.int .i64 0, .int .i64 lv, .bool pn, .int .i64 y0, .int .i64 y1] 199)) #[.int .i64 0, .int .i64 0] 204 (b := w2.heap.size + 1) (by simp)).drew).below hb3; have hS3 := (((Has.new w2 #[.int .i64 0, .int .i64 lv, .bool pn, .int .i64 y0, .int .i64 y1] 199 rfl).alloc (.cells #[.int .i64 0, .int .i64 0] 204)).drew).below hb3; obtain ⟨z0, Z1, z2⟩ := id hX3; obtain ⟨s0, S1, s2⟩ := id hS3) | (have hS3 := ((Has.new w2 #[.int .i64 0, .int .i64 lv, .bool pn, .int .i64 y0, .int .i64 y1] 199 rfl).drew).below hb3; obtain ⟨s0, S1, s2⟩ := id hS3))
          all_goals
            have hb3z := hb3.size
            have hB3 : Below w.heap.size w w3 := by
              have h2 : Below w.heap.size w w2 := (hb.alloc (by omega) _).trans (hb2.mono (by simp; omega))
              have h2z := h2.size
              first
                | exact ((h2.alloc (by omega) _).drew).trans (hb3.mono (by simp; omega))
                | exact (((h2.alloc (by omega) _).alloc (by simp; omega) _).drew).trans (hb3.mono (by simp; omega))
            have hww := hB3.size
            first
              | exact tail _ _ _ _ _ _ _ _ _ _ _ _ _ _ _ _ _ _ _ _ _ _ _ _ _ _ _ _ _ _ _ _ _ _ ((hX3.set 0 (by simp) (.int .i64 lv)).set 1 (by simp) (.int .i64 NN)) ((hB3.setCell (p := ⟨w2.heap.size + 1, 0, none⟩) (by show w.heap.size ≤ w2.heap.size + 1; simp at hb2z; omega) (.int .i64 lv)).setCell (p := ⟨w2.heap.size + 1, 1, none⟩) (by show w.heap.size ≤ w2.heap.size + 1; simp at hb2z; omega) (.int .i64 NN))
              | exact tail _ _ _ _ _ _ _ _ _ _ _ _ _ _ _ _ _ _ _ _ _ _ _ _ _ _ _ _ _ _ _ _ _ _ (Has.new w3 #[.int .i64 lv, .int .i64 NN] 204 rfl) (hB3.alloc hB3.size _)
        · generalize L[k].op = op at *
          generalize L[k].val = val at *
          generalize L[k].name = nam at *
          generalize L[k].line = lin at *
          generalize L[k].col = col at *
          generalize hR : runSt L k = R at *
          clear hC hF p0 p1 p2 p3 p4
          obtain ⟨ar, har⟩ : ∃ ar : Nat, arF op = ar := ⟨(arF op).toNat, by omega⟩
          rw [har] at hj hShp
          have hRl : R.length ≤ 2932031007317 := by rw [← hR]; have := runSt_len L k (by omega); omega
          obtain ⟨r, hr⟩ : ∃ r, r = R.length - ar := ⟨_, rfl⟩
          have hsub : (R.length : Int) - (ar : Int) = (r : Int) := by omega
          have hr0 : (0 : Int) ≤ (r : Int) := by omega
          have hr1 : (r : Int) ≤ (R.length : Int) := by omega
          have hr2 : (r : Int) ≤ 2932031007317 := by omega
          have hrc : R.length ≤ cw := by
            rcases hrow.2 with ⟨h0, _⟩ | ⟨g', cap', cur, hv, _, _, hn, _⟩
            · cases h0
            · cases hv; exact hn
          have hrc' : (R.length : Int) ≤ (cw : Int) := by omega
          have hr3 : r ≤ cw := by omega
          have hr4 : Hid (r = R.length - ar) := hr
          clear hr
          have hOv : ∀ (W : World) (y0 y1 : Int) (a' : Option Addr) (c' : Nat), (1 ≤ (ar : Int) → y0 = akF op) → (2 ≤ (ar : Int) → y1 = akS op) → Ms W (.slice a' (R.length - r) c') (R.drop r) → Calls Tryz.prog 103 #[.agg #[.int .i64 (ar : Int), .int .i64 (lvF op), .bool (opF op), .int .i64 y0, .int .i64 y1], .slice a' (R.length - r) c'] W fun e w' => e = .returned (.int .i64 (nodeNest op (R.drop r))) ∧ Below W.heap.size W w' := by
            intro W y0 y1 a' c' h0 h1 hW
            have := over_any op y0 y1 (R.drop r) _ W hW (by rw [List.length_drop, har]; have := hr4.out; omega) (by rw [har]; exact h0) (by rw [har]; exact h1) (fun x hx => by have := hRb x (List.mem_of_mem_drop hx); omega)
            rw [har] at this
            exact this
          have hrz := (own_lt hrow gw rfl)
          have hNb : 0 ≤ nodeNest op (R.drop r) ∧ nodeNest op (R.drop r) ≤ 2 * (k : Int) + 2 := nodeNest_bd op (R.drop r) (2 * k) (by omega) (fun x hx => hRb x (List.mem_of_mem_drop hx))
          have hSt2 : Hid (runSt L (k + 1) = R.take r ++ [(op, nodeNest op (R.drop r))]) := by
            show runSt L (k + 1) = _
            rw [hSt]; unfold stepSt; rw [har, ← show r = R.length - ((ar : Int)).toNat by have := hr4.out; omega]
          have hcut : Hid (∀ W : World, W.ownsRow w.heap.size 204 2 (.slice (some ⟨gw, 0, none⟩) R.length cw) R.length (cellsM R) → W.ownsRow w.heap.size 204 2 (.slice (some ⟨gw, 0, none⟩) r cw) r (cellsM (R.take r))) := by
            intro W hW
            have := ownsRow_cut (m := r) (by have := hr4.out; omega) hW
            rwa [cellsM_take R r (by have := hr4.out; omega)] at this
          have hnext : Hid (∀ (v' : Value) (A : World), A.ownsRow w.heap.size 204 2 v' (r + 1) (cellsM (R.take r) ++ [.int .i64 (lvF op), .int .i64 (nodeNest op (R.drop r))]) → Below w.heap.size w A → ∃ k' : Nat, k' ≤ L.length ∧ (.int .i64 ((k : Int) + 1) : Value) = .int .i64 (k' : Int) ∧ Below w.heap.size w A ∧ ((k' = 0 ∧ v' = .slice none 0 0) ∨ (0 < k' ∧ ∃ gw cw, v' = .slice (some ⟨gw, 0, none⟩) (runSt L k').length cw ∧ A.ownsRow w.heap.size 204 2 (.slice (some ⟨gw, 0, none⟩) (runSt L k').length cw) (runSt L k').length (cellsM (runSt L k'))))) := by
            intro v' A hv hA
            obtain ⟨g', cap', rfl⟩ := ownsRow_succ hv
            refine ⟨k + 1, by omega, by simp, hA, .inr ⟨by omega, g', cap', ?_, ?_⟩⟩
            · rw [hSt2.out]; simp; have := hr4.out; omega
            · have hl : (runSt L (k + 1)).length = r + 1 := by rw [hSt2.out]; simp; have := hr4.out; omega
              rw [hl, hSt2.out, cellsM_append]
              exact hv
          have hrl : Hid (r ≤ R.length) := by have := hr4.out; show r ≤ R.length; omega
          generalize nodeNest op (R.drop r) = NN at *
          generalize lvF op = lv at *
          generalize opF op = pn at *
          obtain ⟨i0, hi, hi0, hi1, hi2⟩ := info_parts info50
          clear hSt hhi hRb hb1 hS0 hR
          go_wp2_with (go_at_call 102; (with_reducible refine (hShp _).mono ?_); rintro e w2 ⟨⟨y0, y1, rfl, hy0, hy1⟩, hb2⟩; have hb2z := hb2.size; have hrow2 := own_only ((hrow.alloc (.cells #[.int .i64 op, .int .i32 val, .string nam, .int .i64 lin, .int .i64 col] 88))) (Only.of_below (S := fun _ => False) hb2) (fun _ _ h => h))
          rename_i K hKK
          have tail : ∀ (X : World) (b : Nat) (v5 v6 v7 v19 v20 v21 v22 v23 v24 v25 v26 v27 v28 v29 v30 v31 v32 v33 v34 v35 v36 v37 v38 v39 v40 v41 v42 v43 v44 v45 v46 v47 : Value), Has X b #[.int .i64 lv, .int .i64 NN] → X.ownsRow w.heap.size 204 2 (.slice (some ⟨gw, 0, none⟩) R.length cw) R.length (cellsM R) → Below w.heap.size w X → K { tmps := #[.slice (some ⟨g, o, none⟩) L.length cap, undef, .int .i64 0, .slice (some ⟨gw, 0, none⟩) R.length cw, undef, v5, v6, v7, .int .i64 (r : Int), .pointer (some ⟨b, 0, none⟩), .slice (some ⟨g, o, none⟩) L.length cap, .slice (some ⟨g, o, none⟩) L.length cap, .int .i64 (L.length : Int), .int .i64 ((L.length : Int) - 1), .int .i64 0, .bool false, .slice (some ⟨g, o, none⟩) L.length cap, .int .i64 (L.length : Int), .int .i64 (k : Int), v19, v20, v21, v22, v23, v24, v25, v26, v27, v28, v29, v30, v31, v32, v33, v34, v35, v36, v37, v38, v39, v40, v41, v42, v43, v44, v45, v46, v47, undef, undef, undef, undef], defers := [] } X := by
            intro X b v5 v6 v7 v19 v20 v21 v22 v23 v24 v25 v26 v27 v28 v29 v30 v31 v32 v33 v34 v35 v36 v37 v38 v39 v40 v41 v42 v43 v44 v45 v46 v47 hX hXr hXB
            obtain ⟨x0, X1, x2⟩ := id hX
            have hXz := hXB.size
            have hgg := (own_lt hXr gw rfl)
            refine hKK _ _ ?_
            clear hKK hOv hShp hrow hrow2 hb2 hb q0 q1 q2 q3 q4
            go_region_law (refine step_append_lies _ rfl _ _ 196 rfl w.heap.size 204 i0 _ 2 16 Tryz.underlying196 hi hi0 hi1 hi2 rfl (by decide) _ _ _ rfl (by first | exact ((hcut.out _ hXr).alloc _) | exact (((hcut.out _ hXr).drew).alloc _)) ⟨X.heap.size, 0, none⟩ 1 1 [.int .i64 lv, .int .i64 NN] rfl rfl (by first | exact cells_two _ _ _ | exact cells_two (W := X.drew) _ _ _) (fun u hu => by simp at hu; rcases hu with rfl | rfl <;> rfl) (by decide) (by unfold maxLen; omega) (by omega) (by first | (simp; omega) | (show w.heap.size ≤ (X.drew.alloc _).heap.size; simp; exact hXz)) _ rfl ?_; intro g' cap' w4 hown' hgrow hlies hlt4; have hB4 : Below w.heap.size w w4 := by first | exact grown_below (hXB.alloc hXz _) hgrow (Nat.le_refl _) (fun k hk => by cases hk; show w.heap.size ≤ gw; omega) | exact grown_below (hXB.drew.alloc hXz _) hgrow (Nat.le_refl _) (fun k hk => by cases hk; show w.heap.size ≤ gw; omega))
            all_goals
              go_wp2
              go_roundw
              case rel => exact hnext.out _ _ hown' hB4
              case measure => simp [intOf]; omega
          by_cases hcr : cw = r
          · have hrR : r = R.length := by have := hrl.out; omega
            have hMs : ∀ W : World, Ms W (.slice (some ⟨gw, 0, none⟩) (R.length - r) (cw - r)) (R.drop r) := fun W => by
              have : R.drop r = [] := by rw [List.drop_eq_nil_iff]; omega
              rw [this]
              exact ⟨_, _, by rw [show R.length - r = 0 by omega]; rfl, .inl rfl⟩
            have hif : (if cw = r then (some ⟨gw, 0, none⟩ : Option Addr) else some ⟨gw, r * 2, none⟩) = some ⟨gw, 0, none⟩ := if_pos hcr
            have hrR' : Hid (r = R.length) := hrR
            have hcr' : Hid (cw = r) := hcr
            have hdec : decide (cw = r) = true := by simp [hcr]
            clear hrR hcr
            clear hKK
            go_region_with (go_at_call 103; (with_reducible refine (hOv _ y0 y1 _ _ hy0 hy1 (hMs _)).mono ?_); rintro e w3 ⟨rfl, hb3⟩; first | (have hX3 := ((Has.new (w2.alloc (.cells #[.int .i64 (ar : Int), .int .i64 lv, .bool pn, .int .i64 y0, .int .i64 y1] 199)) #[.int .i64 0, .int .i64 0] 204 (b := w2.heap.size + 1) (by simp)).drew).below hb3; have hS3 := (((Has.new w2 #[.int .i64 (ar : Int), .int .i64 lv, .bool pn, .int .i64 y0, .int .i64 y1] 199 rfl).alloc (.cells #[.int .i64 0, .int .i64 0] 204)).drew).below hb3; obtain ⟨z0, Z1, z2⟩ := id hX3; obtain ⟨s0, S1, s2⟩ := id hS3) | (have hS3 := ((Has.new w2 #[.int .i64 (ar : Int), .int .i64 lv, .bool pn, .int .i64 y0, .int .i64 y1] 199 rfl).drew).below hb3; obtain ⟨s0, S1, s2⟩ := id hS3))
            all_goals
              have hb3z := hb3.size
              have hW3 : w3.ownsRow w.heap.size 204 2 (.slice (some ⟨gw, 0, none⟩) R.length cw) R.length (cellsM R) := by
                first
                  | exact own_only ((hrow2.alloc _).drew) (Only.of_below (S := fun _ => False) hb3) (fun _ _ h => h)
                  | exact own_only (((hrow2.alloc _).alloc _).drew) (Only.of_below (S := fun _ => False) hb3) (fun _ _ h => h)
              have hB3 : Below w.heap.size w w3 := by
                have h2 : Below w.heap.size w w2 := (hb.alloc (by omega) _).trans (hb2.mono (by simp; omega))
                have h2z := h2.size
                first
                  | exact ((h2.alloc (by omega) _).drew).trans (hb3.mono (by simp; omega))
                  | exact (((h2.alloc (by omega) _).alloc (by simp; omega) _).drew).trans (hb3.mono (by simp; omega))
              have hww := hB3.size
              first
                | exact tail _ _ _ _ _ _ _ _ _ _ _ _ _ _ _ _ _ _ _ _ _ _ _ _ _ _ _ _ _ _ _ _ _ _ ((hX3.set 0 (by simp) (.int .i64 lv)).set 1 (by simp) (.int .i64 NN)) (own_keep hW3 (((Only.refl (fun k => k = w2.heap.size + 1) w3).set (b := w2.heap.size + 1) (i := 0) rfl (.int .i64 lv)).set (b := w2.heap.size + 1) (i := 1) rfl (.int .i64 NN)) (fun k hk => by cases hk; show ¬ gw = w2.heap.size + 1; simp at hb2z; omega)) ((hB3.setCell (p := ⟨w2.heap.size + 1, 0, none⟩) (by show w.heap.size ≤ w2.heap.size + 1; simp at hb2z; omega) (.int .i64 lv)).setCell (p := ⟨w2.heap.size + 1, 1, none⟩) (by show w.heap.size ≤ w2.heap.size + 1; simp at hb2z; omega) (.int .i64 NN))
                | exact tail _ _ _ _ _ _ _ _ _ _ _ _ _ _ _ _ _ _ _ _ _ _ _ _ _ _ _ _ _ _ _ _ _ _ (Has.new w3 #[.int .i64 lv, .int .i64 NN] 204 rfl) (hW3.alloc _) (hB3.alloc hB3.size _)
          · have hMs : ∀ W : World, W.ownsRow w.heap.size 204 2 (.slice (some ⟨gw, 0, none⟩) R.length cw) R.length (cellsM R) → Ms W (.slice (some ⟨gw, r * 2, none⟩) (R.length - r) (cw - r)) (R.drop r) := fun W hW => ms_of hW hrl.out
            clear hKK
            go_region_with (go_at_call 103; (with_reducible refine (hOv _ y0 y1 _ _ hy0 hy1 (hMs _ (by first | exact (hrow2.alloc _).drew | exact ((hrow2.alloc _).alloc _).drew))).mono ?_); rintro e w3 ⟨rfl, hb3⟩; first | (have hX3 := ((Has.new (w2.alloc (.cells #[.int .i64 (ar : Int), .int .i64 lv, .bool pn, .int .i64 y0, .int .i64 y1] 199)) #[.int .i64 0, .int .i64 0] 204 (b := w2.heap.size + 1) (by simp)).drew).below hb3; have hS3 := (((Has.new w2 #[.int .i64 (ar : Int), .int .i64 lv, .bool pn, .int .i64 y0, .int .i64 y1] 199 rfl).alloc (.cells #[.int .i64 0, .int .i64 0] 204)).drew).below hb3; obtain ⟨z0, Z1, z2⟩ := id hX3; obtain ⟨s0, S1, s2⟩ := id hS3) | (have hS3 := ((Has.new w2 #[.int .i64 (ar : Int), .int .i64 lv, .bool pn, .int .i64 y0, .int .i64 y1] 199 rfl).drew).below hb3; obtain ⟨s0, S1, s2⟩ := id hS3))
            all_goals
              have hb3z := hb3.size
              have hW3 : w3.ownsRow w.heap.size 204 2 (.slice (some ⟨gw, 0, none⟩) R.length cw) R.length (cellsM R) := by
                first
                  | exact own_only ((hrow2.alloc _).drew) (Only.of_below (S := fun _ => False) hb3) (fun _ _ h => h)
                  | exact own_only (((hrow2.alloc _).alloc _).drew) (Only.of_below (S := fun _ => False) hb3) (fun _ _ h => h)
              have hB3 : Below w.heap.size w w3 := by
                have h2 : Below w.heap.size w w2 := (hb.alloc (by omega) _).trans (hb2.mono (by simp; omega))
                have h2z := h2.size
                first
                  | exact ((h2.alloc (by omega) _).drew).trans (hb3.mono (by simp; omega))
                  | exact (((h2.alloc (by omega) _).alloc (by simp; omega) _).drew).trans (hb3.mono (by simp; omega))
              have hww := hB3.size
              first
                | exact tail _ _ _ _ _ _ _ _ _ _ _ _ _ _ _ _ _ _ _ _ _ _ _ _ _ _ _ _ _ _ _ _ _ _ ((hX3.set 0 (by simp) (.int .i64 lv)).set 1 (by simp) (.int .i64 NN)) (own_keep hW3 (((Only.refl (fun k => k = w2.heap.size + 1) w3).set (b := w2.heap.size + 1) (i := 0) rfl (.int .i64 lv)).set (b := w2.heap.size + 1) (i := 1) rfl (.int .i64 NN)) (fun k hk => by cases hk; show ¬ gw = w2.heap.size + 1; simp at hb2z; omega)) ((hB3.setCell (p := ⟨w2.heap.size + 1, 0, none⟩) (by show w.heap.size ≤ w2.heap.size + 1; simp at hb2z; omega) (.int .i64 lv)).setCell (p := ⟨w2.heap.size + 1, 1, none⟩) (by show w.heap.size ≤ w2.heap.size + 1; simp at hb2z; omega) (.int .i64 NN))
                | exact tail _ _ _ _ _ _ _ _ _ _ _ _ _ _ _ _ _ _ _ _ _ _ _ _ _ _ _ _ _ _ _ _ _ _ (Has.new w3 #[.int .i64 lv, .int .i64 NN] 204 rfl) (hW3.alloc _) (hB3.alloc hB3.size _)
      · obtain rfl : k = L.length := by omega
        obtain ⟨hk1, gw, cw, rfl, hrow⟩ := hst.resolve_left (by omega)
        obtain ⟨x, hx⟩ : ∃ x, runSt L L.length = [x] := List.length_eq_one_iff.1 (by have := hhi.1; omega)
        have hval : Hid (nestF L = x.2) := by show nestF L = x.2; rw [hF, hx]; rfl
        rw [hx] at hrow ⊢
        have c1 : wr.cell? ⟨gw, 1, none⟩ = some (.int .i64 x.2) := by rw [hrow.cellAt 1 (by simp)]; rfl
        have hlt' : ¬ (L.length : Int) < (L.length : Int) := by omega
        clear hC hF hhi hS0 hrow hst
        simp only [List.length_singleton]
        go_wp2
        go_ret
        exact ⟨ret_int hval.out.symm, hb⟩
  · have hF : nestF L = -1 := by unfold nestF; rw [if_neg hz]
    have hS0 := hSp w (Below.refl _ _)
    have hz' : (spanF L ((L.length : Int) - 1) != 0) = true := by simpa using hz
    rw [hF]
    generalize spanF L ((L.length : Int) - 1) = sp at *
    clear hc hSp hF
    go_enter Tryz.func73, Tryz.ntmps73
    go_wp2_with (go_at_call 101; (with_reducible refine hS0.mono ?_); rintro e w1 ⟨rfl, hb1⟩)
    go_ret
    exact ⟨rfl, hb1⟩
end Go.Proofs.YtnicolaphmffkaaGreatDoor
