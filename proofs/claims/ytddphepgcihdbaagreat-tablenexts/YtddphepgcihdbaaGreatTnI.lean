import Derived.Test.YtddphepgcihdbaaGreatTnH
import Derived.Test.YtddphepgcihdbaaGreatTeA
namespace Go.Proofs.YtddphepgcihdbaaGreat
open Go.RowKit Go.Shelf
set_option linter.unusedVariables false
set_option linter.unusedSimpArgs false

/-- A minute and the slot that comes into force, as cells. -/
def prC (x : Int × Int) : List Value := [.int .i64 x.1, .int .i64 x.2]
theorem pr_len (x : Int × Int) : (prC x).length = 2 := rfl
theorem pr_one (x : Int × Int) : ∀ u ∈ prC x, u.oneCell' = true := all_one rfl
/-- Does Switches give anything? -/
def spB (b a : Int) : Bool := decide (0 ≤ b) && (decide (a ≤ 210379679) && (decide (b < a) && decide (a - b ≤ 44640)))
/-- All that Switches gives. -/
def prL (t : Tt) (b a : Int) : List (Int × Int) := if t.err = 0 ∧ spB b a = true then (b, slF t b) :: wlk (slF t) (slF t b) (up (b + 1) (a - b - 1).toNat) else []
theorem info45 : (Tryz.prog.info? 45).map (fun i => (i.zero, i.size, i.bytes)) = some (some (.agg #[.int .i64 0, .int .i64 0]), 2, 16) := by kernel_rfl
/-- What Pairs answers. -/
def PrP (t : Tt) (b a : Int) (w : World) (e : Ending) (w' : World) : Prop := (∃ v, e = .returned v ∧ Fl 2 prC w' v (prL t b a) ∧ ∀ g, v.ownBlock = some g → w.heap.size ≤ g) ∧ Below w.heap.size w w'
theorem prL_no {t : Tt} {b a : Int} (h : ¬ (t.err = 0 ∧ 0 ≤ b ∧ a ≤ 210379679 ∧ b < a ∧ a - b ≤ 44640)) : prL t b a = [] := by
  unfold prL
  rw [if_neg]
  rintro ⟨h1, h2⟩
  simp only [spB, Bool.and_eq_true, decide_eq_true_eq] at h2
  exact h ⟨h1, h2⟩
theorem prL_yes {t : Tt} {b a : Int} (h1 : t.err = 0) (h2 : 0 ≤ b) (h3 : a ≤ 210379679) (h4 : b < a) (h5 : a - b ≤ 44640) : prL t b a = (b, slF t b) :: wlk (slF t) (slF t b) (up (b + 1) (a - b - 1).toNat) := by
  unfold prL
  rw [if_pos ⟨h1, by simp [spB, h2, h3, h4, h5]⟩]
theorem wlk_len (f : Int → Int) : ∀ (L : List Int) (now : Int), (wlk f now L).length ≤ L.length
  | [], _ => Nat.le_refl _
  | x :: L, now => by
    rw [wlk]
    split
    · have := wlk_len f L now; simp; omega
    · have := wlk_len f L (f x); simp; omega
theorem prL_len (t : Tt) (b a : Int) : (prL t b a).length ≤ 44640 := by
  unfold prL
  split
  · rename_i h
    have h2 := h.2
    simp only [spB, Bool.and_eq_true, decide_eq_true_eq] at h2
    have := wlk_len (slF t) (up (b + 1) (a - b - 1).toNat) (slF t b)
    rw [up_len] at this
    rw [List.length_cons]; omega
  · simp

set_option maxRecDepth 100000 in
set_option maxHeartbeats 8000000 in
theorem pairs_bad (b a : Int) (t : Tt) (aD aS aX aH : Option Addr) (cD cS cX cH : Nat) (w : World) (hR : TR w t (.slice aD t.D.length cD) (.slice aS t.S.length cS) (.slice aX t.X.length cX) (.slice aH t.H.length cH)) (h : ¬ (t.err = 0 ∧ 0 ≤ b ∧ a ≤ 210379679 ∧ b < a ∧ a - b ≤ 44640)) : Calls Tryz.prog 7 #[.agg #[.string t.nm, .slice aD t.D.length cD, .int .i64 t.w0, .int .i64 t.w1, .int .i64 t.w2, .int .i64 t.w3, .int .i64 t.w4, .int .i64 t.w5, .int .i64 t.w6, .slice aS t.S.length cS, .slice aX t.X.length cX, .slice aH t.H.length cH], .int .i64 b, .int .i64 a] w fun e w' => PrP t b a w e w' := by
  have c16 := refSound_any t aD aS aX aH cD cS cX cH _ (hR.below (bel1 (o := .cells #[.string t.nm, .slice aD t.D.length cD, .int .i64 t.w0, .int .i64 t.w1, .int .i64 t.w2, .int .i64 t.w3, .int .i64 t.w4, .int .i64 t.w5, .int .i64 t.w6, .slice aS t.S.length cS, .slice aX t.X.length cX, .slice aH t.H.length cH] 28)))
  have hP : Hid (∀ w', Below w.heap.size w w' → PrP t b a w (.returned (.slice none 0 0)) w') := fun w' hb => ⟨⟨_, rfl, .inl ⟨rfl, prL_no h⟩, fun g h => by cases h⟩, hb⟩
  clear hR
  by_cases he : t.err = 0
  · rw [he] at c16
    have hz : ((0 : Int) == 0) = true := rfl
    by_cases h1 : b < 0
    · clear h
      go_enter Tryz.func7, Tryz.ntmps7
      go_wp2_with (go_at_call 16; (with_reducible refine c16.mono ?_); rintro e w1 ⟨rfl, hb1⟩)
      go_ret
      exact hP.out _ (belT bel1 hb1)
    · by_cases h2 : 210379679 < b
      · clear h
        go_enter Tryz.func7, Tryz.ntmps7
        go_wp2_with (go_at_call 16; (with_reducible refine c16.mono ?_); rintro e w1 ⟨rfl, hb1⟩)
        go_ret
        exact hP.out _ (belT bel1 hb1)
      · by_cases h3 : a < 0
        · clear h
          go_enter Tryz.func7, Tryz.ntmps7
          go_wp2_with (go_at_call 16; (with_reducible refine c16.mono ?_); rintro e w1 ⟨rfl, hb1⟩)
          go_ret
          exact hP.out _ (belT bel1 hb1)
        · by_cases h4 : 210379679 < a
          · clear h
            go_enter Tryz.func7, Tryz.ntmps7
            go_wp2_with (go_at_call 16; (with_reducible refine c16.mono ?_); rintro e w1 ⟨rfl, hb1⟩)
            go_ret
            exact hP.out _ (belT bel1 hb1)
          · by_cases h5 : a ≤ b
            · clear h
              go_enter Tryz.func7, Tryz.ntmps7
              go_wp2_with (go_at_call 16; (with_reducible refine c16.mono ?_); rintro e w1 ⟨rfl, hb1⟩)
              go_ret
              exact hP.out _ (belT bel1 hb1)
            · have h6 : 44640 < a - b := by omega
              clear h
              go_enter Tryz.func7, Tryz.ntmps7
              go_wp2_with (go_at_call 16; (with_reducible refine c16.mono ?_); rintro e w1 ⟨rfl, hb1⟩)
              go_ret
              exact hP.out _ (belT bel1 hb1)
  · clear h
    generalize t.err = er at *
    have hz : (er == 0) = false := beq_eq_false_iff_ne.2 he
    go_enter Tryz.func7, Tryz.ntmps7
    go_wp2_with (go_at_call 16; (with_reducible refine c16.mono ?_); rintro e w1 ⟨rfl, hb1⟩)
    go_ret
    exact hP.out _ (belT bel1 hb1)
set_option maxRecDepth 100000 in
set_option maxHeartbeats 8000000 in
theorem pairs_good (b a : Int) (t : Tt) (aD aS aX aH : Option Addr) (cD cS cX cH : Nat) (w : World) (hR : TR w t (.slice aD t.D.length cD) (.slice aS t.S.length cS) (.slice aX t.X.length cX) (.slice aH t.H.length cH)) (he : t.err = 0) (h1 : 0 ≤ b) (h2 : a ≤ 210379679) (h3 : b < a) (h4 : a - b ≤ 44640) : Calls Tryz.prog 7 #[.agg #[.string t.nm, .slice aD t.D.length cD, .int .i64 t.w0, .int .i64 t.w1, .int .i64 t.w2, .int .i64 t.w3, .int .i64 t.w4, .int .i64 t.w5, .int .i64 t.w6, .slice aS t.S.length cS, .slice aX t.X.length cX, .slice aH t.H.length cH], .int .i64 b, .int .i64 a] w fun e w' => PrP t b a w e w' := by
  obtain ⟨ti, hti, hti0, hti1, hti2⟩ := info_parts info45
  have c16 := refSound_any t aD aS aX aH cD cS cX cH _ (hR.below (bel1 (o := .cells #[.string t.nm, .slice aD t.D.length cD, .int .i64 t.w0, .int .i64 t.w1, .int .i64 t.w2, .int .i64 t.w3, .int .i64 t.w4, .int .i64 t.w5, .int .i64 t.w6, .slice aS t.S.length cS, .slice aX t.X.length cX, .slice aH t.H.length cH] 28)))
  rw [he] at c16
  have hz : ((0 : Int) == 0) = true := rfl
  have c15 := fun (x : Int) (x0 : 0 ≤ x) (x1 : x ≤ 210379679) W (hb : Below w.heap.size w W) => force_any x x0 x1 t aD aS aX aH cD cS cX cH W (hR.below hb) he
  have c15b := fun W hb => c15 b h1 (by omega) W hb
  have c15' : Hid _ := c15
  have hpr := prL_yes he h1 h2 h3 h4
  obtain ⟨n, hn⟩ : ∃ n : Nat, (a - b - 1).toNat = n ∧ a = b + 1 + (n : Int) := ⟨(a - b - 1).toNat, rfl, by omega⟩
  rw [hn.1] at hpr
  have hP : Hid (∀ v w', Below w.heap.size w w' → Fl 2 prC w' v (prL t b a) → (∀ g, v.ownBlock = some g → w.heap.size ≤ g) → PrP t b a w (.returned v) w') := fun v w' hb hf hg => ⟨⟨_, rfl, hf, hg⟩, hb⟩
  clear hR c15
  generalize prL t b a = L at *
  generalize PrP t b a = PP at *
  obtain rfl : a = b + 1 + (n : Int) := hn.2
  clear hn
  have hn1 : (n : Int) ≤ 44639 := by omega
  have u1 : ¬ b < 0 := by omega
  have u2 : ¬ 210379679 < b := by omega
  have u3 : ¬ b + 1 + (n : Int) < 0 := by omega
  have u4 : ¬ 210379679 < b + 1 + (n : Int) := by omega
  have u5 : ¬ b + 1 + (n : Int) ≤ b := by omega
  have u6 : ¬ 44640 < b + 1 + (n : Int) - b := by omega
  have B0 := Has.new w #[.string t.nm, .slice aD t.D.length cD, .int .i64 t.w0, .int .i64 t.w1, .int .i64 t.w2, .int .i64 t.w3, .int .i64 t.w4, .int .i64 t.w5, .int .i64 t.w6, .slice aS t.S.length cS, .slice aX t.X.length cX, .slice aH t.H.length cH] 28 rfl
  have hpr' : Hid (L = [(b, slF t b)] ++ wlk (slF t) (slF t b) (up (b + 1 + ((0 : Nat) : Int)) (n - 0))) := by show _ = _; rw [hpr]; simp
  clear hpr
  generalize hsb : slF t b = sb at *
  go_enter Tryz.func7, Tryz.ntmps7
  go_wp2_with (first | (go_at_call 16; (with_reducible refine c16.mono ?_); rintro e w1 ⟨rfl, hb1⟩; have B1 := B0.below hb1; obtain ⟨_, q1, _⟩ := id B1) | (go_at_call 15; (with_reducible refine (c15b _ (belT bel1 hb1)).mono ?_); rintro e w2 ⟨rfl, hb2⟩; have B2 := B1.below hb2))
  have hZ : Hid (w.heap.size + 1 ≤ w2.heap.size) := by have h1 := hb1.size; have h2 := hb2.size; simp at h1; show _ ≤ _; omega
  have B3 : Hid _ := B2.alloc (.cells #[.int .i64 b, .int .i64 sb] 45)
  have hb3 : Hid (Below w.heap.size w (w2.alloc (.cells #[.int .i64 b, .int .i64 sb] 45))) := belT (belT (belT bel1 hb1) hb2) bel1
  have hO3 : Hid ((w2.alloc (.cells #[.int .i64 b, .int .i64 sb] 45)).ownsRow (w.heap.size + 1) 45 2 (.slice (some ⟨w2.heap.size, 0, none⟩) 1 1) 1 (cellsF prC [(b, sb)])) :=
    ⟨rfl, .inr ⟨w2.heap.size, 1, #[.int .i64 b, .int .i64 sb], rfl, hZ.out, World.alloc_heap_new _ _, Nat.le_refl _, by unfold maxLen; omega, rfl, rfl⟩⟩
  clear B0 B1 B2 q1 c16 c15b hb1 hb2
  go_loopg [7, 8, 9] n (fun gk s7 s8 s9 wr => ∃ (j : Nat) (was : Int) (S : List (Int × Int)) (g cap : Nat), s7 = .int .i64 was ∧ s8 = .slice (some ⟨g, 0, none⟩) S.length cap ∧ s9 = .int .i64 (b + 1 + j) ∧ gk = n - j ∧ j ≤ n ∧ S.length ≤ j + 1 ∧ Hid (L = S ++ wlk (slF t) was (up (b + 1 + (j : Int)) (n - j))) ∧ Hid (wr.ownsRow (w.heap.size + 1) 45 2 (.slice (some ⟨g, 0, none⟩) S.length cap) S.length (cellsF prC S)) ∧ Hid (Has wr w.heap.size #[.string t.nm, .slice aD t.D.length cD, .int .i64 t.w0, .int .i64 t.w1, .int .i64 t.w2, .int .i64 t.w3, .int .i64 t.w4, .int .i64 t.w5, .int .i64 t.w6, .slice aS t.S.length cS, .slice aX t.X.length cX, .slice aH t.H.length cH]) ∧ Hid (Below w.heap.size w wr))
  case atStart => exact ⟨0, sb, [(b, sb)], _, 1, rfl, rfl, by simp, rfl, Nat.zero_le _, Nat.le_refl _, hpr', hO3, B3, hb3⟩
  case round =>
    obtain ⟨j, was, S, g, cap, rfl, rfl, rfl, hgk, hj, hSl, hcut, hO, hB, hbel⟩ := hrel
    clear hO3 B3 hb3 hZ hpr'
    obtain ⟨_, q2, _⟩ := (show Has wr w.heap.size #[.string t.nm, .slice aD t.D.length cD, .int .i64 t.w0, .int .i64 t.w1, .int .i64 t.w2, .int .i64 t.w3, .int .i64 t.w4, .int .i64 t.w5, .int .i64 t.w6, .slice aS t.S.length cS, .slice aX t.X.length cX, .slice aH t.H.length cH] from hB.out)
    have hwz : w.heap.size < wr.heap.size := hB.out.1
    by_cases hlt : j < n
    · have t1 : b + 1 + (j : Int) < b + 1 + (n : Int) := by omega
      have k15 := c15'.out (b + 1 + j) (by omega) (by omega) wr hbel.out
      have hup : up (b + 1 + (j : Int)) (n - j) = (b + 1 + (j : Int)) :: up (b + 1 + ((j + 1 : Nat) : Int)) (n - (j + 1)) := by
        rw [show n - j = (n - (j + 1)) + 1 from by omega, up]
        congr 2
        push_cast; omega
      have hc2 := hcut.out
      rw [hup, wlk] at hc2
      by_cases hne : slF t (b + 1 + j) = was
      · rw [if_pos hne] at hc2
        have hc3 : Hid _ := hc2
        rw [hne] at k15
        clear hc2 hup
        have hq : (was == was) = true := by simp
        go_wp2_with (go_at_call 15; (with_reducible refine k15.mono ?_); rintro e w3 ⟨rfl, hb3⟩; have B3 := Has.below hB.out hb3)
        go_roundg (n - (j + 1))
        case measure => go_light; omega
        case rel => exact ⟨j + 1, was, S, g, cap, rfl, rfl, by go_num, rfl, by omega, by omega, hc3, own_bel hO.out hb3, B3, belT hbel.out hb3⟩
      · rw [if_neg hne] at hc2
        have hq : (slF t (b + 1 + j) == was) = false := beq_eq_false_iff_ne.2 hne
        have hc3 : Hid _ := hc2
        clear hc2 hup
        generalize hsx : slF t (b + 1 + j) = sx at *
        go_wp2_with (first
          | (go_at_call 15; (with_reducible refine k15.mono ?_); rintro e w3 ⟨rfl, hb3⟩; have B3 := Has.below hB.out hb3; have O3 := own_bel hO.out hb3)
          | (at_builtin; refine wpList_append_mine _ rfl _ _ 37 rfl (w.heap.size + 1) 45 ti _ 2 16 Tryz.underlying37 hti hti0 hti1 hti2 rfl (by decide) (.slice (some ⟨g, 0, none⟩) S.length cap) S.length (cellsF prC S) rfl (own_bel O3 bel1) ⟨w3.heap.size, 0, none⟩ 1 1 (prC (b + 1 + (j : Int), sx)) rfl rfl (cells_at (W := w3) rfl _ _) (all_one rfl) (by decide) (by unfold maxLen; omega) (by omega) (by have := hb3.size; simp; omega) ?_; intro g1 cap1 w4 o4 hg4 hat4 hkp4 hcap4))
        have hrow : ∀ k, (Value.slice (some ⟨g, 0, none⟩) S.length cap).ownBlock = some k → w.heap.size + 1 ≤ k := fun k hk => (own_lt hO.out k hk).1
        have hB4 : Below w.heap.size w w4 := grown_bel (belT (belT hbel.out hb3) bel1) hg4 (Nat.le_refl _) (fun k hk => by have := hrow k hk; omega)
        have hz3 := hb3.size
        have hH4 : Has w4 w.heap.size #[.string t.nm, .slice aD t.D.length cD, .int .i64 t.w0, .int .i64 t.w1, .int .i64 t.w2, .int .i64 t.w3, .int .i64 t.w4, .int .i64 t.w5, .int .i64 t.w6, .slice aS t.S.length cS, .slice aX t.X.length cX, .slice aH t.H.length cH] := (B3.alloc (.cells #[.int .i64 (b + 1 + (j : Int)), .int .i64 sx] 45)).blk hg4.size (hg4.block _ (by simp; omega) (fun e => by have := hrow _ e.symm; omega))
        have hlen : (S ++ [(b + 1 + (j : Int), sx)]).length = S.length + 1 := by simp
        go_roundg (n - (j + 1))
        case measure => go_light; omega
        case rel =>
          refine ⟨j + 1, sx, S ++ [(b + 1 + (j : Int), sx)], g1, cap1, rfl, by rw [hlen], by go_num, rfl, by omega, by rw [hlen]; omega, ?_, ?_, hH4, hB4⟩
          · show _ = _
            rw [hc3.out]; simp
          · show World.ownsRow _ _ _ _ _ _ _
            rw [hlen, cellsF_append]
            simpa [cellsF] using o4
    · obtain rfl : j = n := by omega
      have t1 : ¬ b + 1 + (j : Int) < b + 1 + (j : Int) := by omega
      have hL : L = S := by rw [hcut.out, Nat.sub_self]; simp [up, wlk]
      have hcap : S.length ≤ cap := by
        rcases hO.out.2 with ⟨h, _⟩ | ⟨_, _, _, h, _, _, h2, _⟩
        · cases h
        · cases h; exact h2
      have hF : Fl 2 prC wr (.slice (some ⟨g, 0, none⟩) S.length cap) L := by
        have := Fl.own pr_len hO.out (own_lt hO.out g rfl).2 (Nat.le_refl _) hcap
        rw [List.take_length] at this
        rw [hL]; exact this
      have hF' : Hid _ := hF
      have hOb : Hid (∀ q, (Value.slice (some ⟨g, 0, none⟩) S.length cap).ownBlock = some q → w.heap.size ≤ q) := fun q hq => by have := (own_lt hO.out q hq).1; omega
      clear hL hF
      go_wp2
      exact hP.out _ _ hbel.out hF'.out hOb.out
theorem pairs_any (b a : Int) (t : Tt) (aD aS aX aH : Option Addr) (cD cS cX cH : Nat) (w : World) (hR : TR w t (.slice aD t.D.length cD) (.slice aS t.S.length cS) (.slice aX t.X.length cX) (.slice aH t.H.length cH)) : Calls Tryz.prog 7 #[.agg #[.string t.nm, .slice aD t.D.length cD, .int .i64 t.w0, .int .i64 t.w1, .int .i64 t.w2, .int .i64 t.w3, .int .i64 t.w4, .int .i64 t.w5, .int .i64 t.w6, .slice aS t.S.length cS, .slice aX t.X.length cX, .slice aH t.H.length cH], .int .i64 b, .int .i64 a] w fun e w' => PrP t b a w e w' := by
  by_cases h : t.err = 0 ∧ 0 ≤ b ∧ a ≤ 210379679 ∧ b < a ∧ a - b ≤ 44640
  · exact pairs_good b a t aD aS aX aH cD cS cX cH w hR h.1 h.2.1 h.2.2.1 h.2.2.2.1 h.2.2.2.2
  · exact pairs_bad b a t aD aS aX aH cD cS cX cH w hR h
end Go.Proofs.YtddphepgcihdbaaGreat
