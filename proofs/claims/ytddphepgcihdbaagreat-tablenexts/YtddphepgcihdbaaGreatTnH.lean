import Derived.Test.YtddphepgcihdbaaGreatTnF
import Derived.Test.YtddphepgcihdbaaGreatTdB
namespace Go.Proofs.YtddphepgcihdbaaGreat
open Go.RowKit Go.Shelf
set_option linter.unusedVariables false
set_option linter.unusedSimpArgs false

theorem up_add (m : Int) (a b : Nat) : up m (a + b) = up m a ++ up (m + a) b := by
  induction a generalizing m with
  | zero => simp [up]
  | succ a ih =>
    rw [show a + 1 + b = (a + b) + 1 from by omega, up, up, ih, List.cons_append]
    congr 3
    push_cast; omega
theorem up_at (m : Int) (n j : Nat) (h : j < n) : up m n = up m j ++ (m + j) :: up (m + j + 1) (n - j - 1) := by
  have : n = j + ((n - j - 1) + 1) := by omega
  rw [this, up_add, up]
  congr 4
  omega
theorem rx_some {t : Tt} {m : Int} {j : Nat} (hj : j < ahN m) (h1 : ∀ z ∈ up (m + 1) j, slF t z = slF t m) (h2 : slF t (m + 1 + j) ≠ slF t m) : nxP t m = (m + 1 + j, slF t (m + 1 + j)) := by
  unfold nxP
  rw [up_at _ _ j hj, wlk_first _ _ _ _ _ h1 h2]
theorem rx_none {t : Tt} {m : Int} (h1 : ∀ z ∈ up (m + 1) (ahN m), slF t z = slF t m) : nxP t m = (-1, slF t m) := by
  unfold nxP
  rw [wlk_none _ _ _ h1]; rfl
set_option maxRecDepth 100000 in
set_option maxHeartbeats 8000000 in
theorem refNext_bad (m : Int) (t : Tt) (aD aS aX aH : Option Addr) (cD cS cX cH : Nat) (w : World) (hR : TR w t (.slice aD t.D.length cD) (.slice aS t.S.length cS) (.slice aX t.X.length cX) (.slice aH t.H.length cH)) (he : ¬ erF t m 210379679 = 0) : Calls Tryz.prog 6 #[.agg #[.string t.nm, .slice aD t.D.length cD, .int .i64 t.w0, .int .i64 t.w1, .int .i64 t.w2, .int .i64 t.w3, .int .i64 t.w4, .int .i64 t.w5, .int .i64 t.w6, .slice aS t.S.length cS, .slice aX t.X.length cX, .slice aH t.H.length cH], .int .i64 m] w fun e w' => e = .returned (.tuple #[.int .i64 0, .int .i64 0, .int .i64 (erF t m 210379679)]) ∧ Below w.heap.size w w' := by
  have c14 := fun W (hb : Below w.heap.size w W) => asked_any m 210379679 t aD aS aX aH cD cS cX cH W (hR.below hb)
  clear hR
  generalize erF t m 210379679 = er at *
  have hz : (er == 0) = false := beq_eq_false_iff_ne.2 he
  go_enter Tryz.func6, Tryz.ntmps6
  go_wp2_with (go_at_call 14; (with_reducible refine (c14 _ bel1).mono ?_); rintro e w1 ⟨rfl, hb1⟩)
  go_ret3
  exact ⟨rfl, belT bel1 hb1⟩
set_option maxRecDepth 100000 in
set_option maxHeartbeats 8000000 in
theorem refNext_good (m : Int) (t : Tt) (aD aS aX aH : Option Addr) (cD cS cX cH : Nat) (w : World) (hR : TR w t (.slice aD t.D.length cD) (.slice aS t.S.length cS) (.slice aX t.X.length cX) (.slice aH t.H.length cH)) (he : erF t m 210379679 = 0) : Calls Tryz.prog 6 #[.agg #[.string t.nm, .slice aD t.D.length cD, .int .i64 t.w0, .int .i64 t.w1, .int .i64 t.w2, .int .i64 t.w3, .int .i64 t.w4, .int .i64 t.w5, .int .i64 t.w6, .slice aS t.S.length cS, .slice aX t.X.length cX, .slice aH t.H.length cH], .int .i64 m] w fun e w' => e = .returned (.tuple #[.int .i64 (nxP t m).1, .int .i64 (nxP t m).2, .int .i64 0]) ∧ Below w.heap.size w w' := by
  obtain ⟨he0, m0, m1⟩ := er_zero he
  have c14 := fun W (hb : Below w.heap.size w W) => asked_any m 210379679 t aD aS aX aH cD cS cX cH W (hR.below hb)
  rw [he] at c14
  have c15 := fun (x : Int) (x0 : 0 ≤ x) (x1 : x ≤ 210379679) W (hb : Below w.heap.size w W) => force_any x x0 x1 t aD aS aX aH cD cS cX cH W (hR.below hb) he0
  have c15m := fun W hb => c15 m m0 m1 W hb
  have c15' : Hid _ := c15
  have hah : Hid ((ahN m : Int) = min (m + 20160) 210379679 - m) := by show _ = _; unfold ahN; omega
  have hrs : Hid _ := @rx_some t m
  have hrn : Hid _ := @rx_none t m
  clear hR c15
  generalize hsm : slF t m = sm at *
  generalize hah2 : ahN m = ah at *
  clear hah2
  generalize hpp : nxP t m = pp at *
  go_enter Tryz.func6, Tryz.ntmps6
  have B0 := Has.new w #[.string t.nm, .slice aD t.D.length cD, .int .i64 t.w0, .int .i64 t.w1, .int .i64 t.w2, .int .i64 t.w3, .int .i64 t.w4, .int .i64 t.w5, .int .i64 t.w6, .slice aS t.S.length cS, .slice aX t.X.length cX, .slice aH t.H.length cH] 28 rfl
  have hz0 : ((0 : Int) == 0) = true := rfl
  go_wp2_with (first | (go_at_call 14; (with_reducible refine (c14 _ bel1).mono ?_); rintro e w1 ⟨rfl, hb1⟩; have B1 := B0.below hb1; obtain ⟨_, q1, _⟩ := id B1) | (go_at_call 15; (with_reducible refine (c15m _ (belT bel1 hb1)).mono ?_); rintro e w2 ⟨rfl, hb2⟩; have B2 := B1.below hb2))
  have B2' : Hid _ := B2
  have hb02 : Hid _ := belT (belT bel1 hb1) hb2
  clear q1 B0 B1 B2 c14 c15m
  go_loopg [9] ah (fun gk s9 wr => ∃ (j : Nat), s9 = .int .i64 (m + 1 + j) ∧ gk = ah - j ∧ j ≤ ah ∧ Hid (∀ z ∈ up (m + 1) j, slF t z = sm) ∧ Hid (Has wr w.heap.size #[.string t.nm, .slice aD t.D.length cD, .int .i64 t.w0, .int .i64 t.w1, .int .i64 t.w2, .int .i64 t.w3, .int .i64 t.w4, .int .i64 t.w5, .int .i64 t.w6, .slice aS t.S.length cS, .slice aX t.X.length cX, .slice aH t.H.length cH]) ∧ Hid (Below w.heap.size w wr))
  case atStart => exact ⟨0, by simp, rfl, Nat.zero_le _, (show ∀ z ∈ up (m + 1) 0, slF t z = sm from fun z hz => by cases hz), B2', hb02⟩
  case round =>
    obtain ⟨j, rfl, hgk, hj, hall, hB, hbel⟩ := hrel
    clear B2' hb02
    obtain ⟨_, q2, _⟩ := (show Has wr w.heap.size #[.string t.nm, .slice aD t.D.length cD, .int .i64 t.w0, .int .i64 t.w1, .int .i64 t.w2, .int .i64 t.w3, .int .i64 t.w4, .int .i64 t.w5, .int .i64 t.w6, .slice aS t.S.length cS, .slice aX t.X.length cX, .slice aH t.H.length cH] from hB.out)
    have hah' := hah.out
    by_cases hlt : j < ah
    · have t1 : m + 1 + (j : Int) ≤ m + 20160 := by omega
      have t2 : m + 1 + (j : Int) ≤ 210379679 := by omega
      have k15 := c15'.out (m + 1 + j) (by omega) t2 wr hbel.out
      by_cases hne : slF t (m + 1 + j) = sm
      · have hal2 : Hid (∀ z ∈ up (m + 1) (j + 1), slF t z = sm) := by
          intro z hz
          rw [up_add] at hz
          rcases List.mem_append.1 hz with h | h
          · exact hall.out z h
          · simp [up] at h; rw [h]; exact hne
        rw [hne] at k15
        have hq : (sm == sm) = true := by simp
        go_wp2_with (go_at_call 15; (with_reducible refine k15.mono ?_); rintro e w3 ⟨rfl, hb3⟩; have B3 := Has.below hB.out hb3)
        go_roundg (ah - (j + 1))
        case measure => go_light; omega
        case rel => exact ⟨j + 1, by go_num, rfl, by omega, hal2, B3, belT hbel.out hb3⟩
      · have hres : Hid _ := hrs.out hlt hall.out hne
        have hq : (slF t (m + 1 + j) == sm) = false := beq_eq_false_iff_ne.2 hne
        generalize slF t (m + 1 + j) = sx at *
        go_wp2_with (go_at_call 15; (with_reducible refine k15.mono ?_); rintro e w3 ⟨rfl, hb3⟩)
        go_ret3
        exact ⟨by first | rfl | (rw [hres.out]; rfl) | (rw [hres.out]), belT hbel.out hb3⟩
    · obtain rfl : j = ah := by omega
      have hres : Hid _ := hrn.out hall.out
      by_cases t1 : m + 1 + (j : Int) ≤ m + 20160
      · have t2 : ¬ m + 1 + (j : Int) ≤ 210379679 := by omega
        go_wp2
        go_ret3
        exact ⟨by first | rfl | (rw [hres.out]; rfl) | (rw [hres.out]), hbel.out⟩
      · go_wp2
        go_ret3
        exact ⟨by first | rfl | (rw [hres.out]; rfl) | (rw [hres.out]), hbel.out⟩
theorem refNext_any (m : Int) (t : Tt) (aD aS aX aH : Option Addr) (cD cS cX cH : Nat) (w : World) (hR : TR w t (.slice aD t.D.length cD) (.slice aS t.S.length cS) (.slice aX t.X.length cX) (.slice aH t.H.length cH)) : Calls Tryz.prog 6 #[.agg #[.string t.nm, .slice aD t.D.length cD, .int .i64 t.w0, .int .i64 t.w1, .int .i64 t.w2, .int .i64 t.w3, .int .i64 t.w4, .int .i64 t.w5, .int .i64 t.w6, .slice aS t.S.length cS, .slice aX t.X.length cX, .slice aH t.H.length cH], .int .i64 m] w fun e w' => e = .returned (.tuple #[.int .i64 (nxM t m), .int .i64 (nxS t m), .int .i64 (erF t m 210379679)]) ∧ Below w.heap.size w w' := by
  unfold nxM nxS
  by_cases he : erF t m 210379679 = 0
  · rw [if_pos he, if_pos he, he]
    exact refNext_good m t aD aS aX aH cD cS cX cH w hR he
  · rw [if_neg he, if_neg he]
    exact refNext_bad m t aD aS aX aH cD cS cX cH w hR he
end Go.Proofs.YtddphepgcihdbaaGreat
