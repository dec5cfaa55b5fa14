import Derived.Test.YtoaokpmnjppfcaaWaQ
import Derived.Test.YtoaokpmnjppfcaaWaR
namespace Go.Proofs.Ytoaokpmnjppfcaa
open Go.RowKit
set_option linter.unusedVariables false
set_option linter.unusedSimpArgs false

/-- Does an alarm stand ahead of another one of its tick? -/
def ahB (x y : Al) : Bool := if x.k = y.k then decide (x.a < y.a) || (decide (x.a = y.a) && decide (x.b < y.b)) else decide (x.k < y.k)
def leF (x y : Al) : Al := if x.k = 0 ∨ (y.k ≠ 0 ∧ ahB y x = true) then y else x
def flB (g : Gp) (p c : Int) : Bool :=
  if p = 114 then decide (c = 108) && decide (0 < g.lead) || decide (c = 103) && decide (g.lead = 0)
  else if p = 108 then decide (c = 103)
  else if p = 103 then decide (c = 97) && decide (0 < g.amber) || decide (c = 114) && decide (g.amber = 0)
  else decide (c = 114)
def wrL (s : ByteArray) : Nat → Nat → Int
  | _, 0 => -2
  | k, n + 1 => if letB (ltr s k) then wrL s (k + 1) n else k
def wrF (n : Nat) (s : ByteArray) : Int := if s.size = n then wrL s 0 n else -1
theorem wr_ms (t : Int) (s : ByteArray) : ∀ n k, msL t s k n = if wrL s k n = -2 then al0 else ⟨1, t, wrL s k n, -1⟩
  | 0, k => by simp [msL, wrL]
  | n + 1, k => by
    unfold msL wrL
    by_cases h : letB (ltr s k) = true
    · rw [if_pos h, if_pos h]; exact wr_ms t s n (k + 1)
    · rw [if_neg h, if_neg h, if_neg (by omega)]
theorem ms_wr (n : Nat) (t : Int) (s : ByteArray) : msF n t s = if wrF n s = -2 then al0 else ⟨1, t, wrF n s, -1⟩ := by
  unfold msF wrF
  by_cases h : s.size = n
  · rw [if_pos h, if_pos h]; exact wr_ms t s n 0
  · rw [if_neg h, if_neg h, if_neg (by decide)]

set_option maxRecDepth 100000 in
set_option maxHeartbeats 1000000 in
theorem follows_any (nm : ByteArray) (so mi am le p c : Int) (w : World) : Calls Try.prog 58 #[.agg #[.string nm, .int .i64 so, .int .i64 mi, .int .i64 am, .int .i64 le], .int .u8 p, .int .u8 c] w fun e w' => e = .returned (.bool (flB ⟨nm, so, mi, am, le⟩ p c)) ∧ Below w.heap.size w w' := by
  by_cases hp114 : p = 114
  · subst hp114
    by_cases hc108 : c = 108
    · subst hc108
      by_cases hl : 0 < le
      · skip
        go_enter Try.func58, Try.ntmps58
        go_wp2
        go_ret
        exact ⟨by first | rfl | (refine ret_bool ?_; simp [flB, *]; done) | (refine ret_bool ?_; simp_all [flB]; done) | (refine ret_bool ?_; rw [Bool.eq_iff_iff]; simp [flB, hp114, hp108, hp103]; done), belN1⟩
      · skip
        go_enter Try.func58, Try.ntmps58
        go_wp2
        go_ret
        exact ⟨by first | rfl | (refine ret_bool ?_; simp [flB, *]; done) | (refine ret_bool ?_; simp_all [flB]; done) | (refine ret_bool ?_; rw [Bool.eq_iff_iff]; simp [flB, hp114, hp108, hp103]; done), belN1⟩
    · have gc108 : (c == 108) = false := beq_eq_false_iff_ne.2 hc108
      have nc108 : (c != 108) = true := by simpa using hc108
      by_cases hc103 : c = 103
      · subst hc103
        go_enter Try.func58, Try.ntmps58
        go_wp2
        go_ret
        exact ⟨by first | rfl | (refine ret_bool ?_; simp [flB, *]; done) | (refine ret_bool ?_; simp_all [flB]; done) | (refine ret_bool ?_; rw [Bool.eq_iff_iff]; simp [flB, hp114, hp108, hp103]; done), belN1⟩
      · have gc103 : (c == 103) = false := beq_eq_false_iff_ne.2 hc103
        have nc103 : (c != 103) = true := by simpa using hc103
        go_enter Try.func58, Try.ntmps58
        go_wp2
        go_ret
        exact ⟨by first | rfl | (refine ret_bool ?_; simp [flB, *]; done) | (refine ret_bool ?_; simp_all [flB]; done) | (refine ret_bool ?_; rw [Bool.eq_iff_iff]; simp [flB, hp114, hp108, hp103]; done), belN1⟩
  · have gp114 : (p == 114) = false := beq_eq_false_iff_ne.2 hp114
    have np114 : (p != 114) = true := by simpa using hp114
    by_cases hp108 : p = 108
    · subst hp108
      go_enter Try.func58, Try.ntmps58
      go_wp2
      go_ret
      exact ⟨by first | rfl | (refine ret_bool ?_; simp [flB, *]; done) | (refine ret_bool ?_; simp_all [flB]; done) | (refine ret_bool ?_; rw [Bool.eq_iff_iff]; simp [flB, hp114, hp108, hp103]; done), belN1⟩
    · have gp108 : (p == 108) = false := beq_eq_false_iff_ne.2 hp108
      have np108 : (p != 108) = true := by simpa using hp108
      by_cases hp103 : p = 103
      · subst hp103
        by_cases hc97 : c = 97
        · subst hc97
          by_cases ha : 0 < am
          · skip
            go_enter Try.func58, Try.ntmps58
            go_wp2
            go_ret
            exact ⟨by first | rfl | (refine ret_bool ?_; simp [flB, *]; done) | (refine ret_bool ?_; simp_all [flB]; done) | (refine ret_bool ?_; rw [Bool.eq_iff_iff]; simp [flB, hp114, hp108, hp103]; done), belN1⟩
          · skip
            go_enter Try.func58, Try.ntmps58
            go_wp2
            go_ret
            exact ⟨by first | rfl | (refine ret_bool ?_; simp [flB, *]; done) | (refine ret_bool ?_; simp_all [flB]; done) | (refine ret_bool ?_; rw [Bool.eq_iff_iff]; simp [flB, hp114, hp108, hp103]; done), belN1⟩
        · have gc97 : (c == 97) = false := beq_eq_false_iff_ne.2 hc97
          have nc97 : (c != 97) = true := by simpa using hc97
          by_cases hc114 : c = 114
          · subst hc114
            go_enter Try.func58, Try.ntmps58
            go_wp2
            go_ret
            exact ⟨by first | rfl | (refine ret_bool ?_; simp [flB, *]; done) | (refine ret_bool ?_; simp_all [flB]; done) | (refine ret_bool ?_; rw [Bool.eq_iff_iff]; simp [flB, hp114, hp108, hp103]; done), belN1⟩
          · have gc114 : (c == 114) = false := beq_eq_false_iff_ne.2 hc114
            have nc114 : (c != 114) = true := by simpa using hc114
            go_enter Try.func58, Try.ntmps58
            go_wp2
            go_ret
            exact ⟨by first | rfl | (refine ret_bool ?_; simp [flB, *]; done) | (refine ret_bool ?_; simp_all [flB]; done) | (refine ret_bool ?_; rw [Bool.eq_iff_iff]; simp [flB, hp114, hp108, hp103]; done), belN1⟩
      · have gp103 : (p == 103) = false := beq_eq_false_iff_ne.2 hp103
        have np103 : (p != 103) = true := by simpa using hp103
        go_enter Try.func58, Try.ntmps58
        go_wp2
        go_ret
        exact ⟨by first | rfl | (refine ret_bool ?_; simp [flB, *]; done) | (refine ret_bool ?_; simp_all [flB]; done) | (refine ret_bool ?_; rw [Bool.eq_iff_iff]; simp [flB, hp114, hp108, hp103]; done), belN1⟩

set_option maxRecDepth 100000 in
set_option maxHeartbeats 1000000 in
theorem oneOf_any (t g : Int) (w : World) : Calls Try.prog 57 #[.int .i64 t, .int .i64 g] w fun e w' => e = .returned (.agg #[.int .i64 0, .int .i64 t, .int .i64 g, .int .i64 (-1)]) ∧ Below w.heap.size w w' := by
  go_enter Try.func57, Try.ntmps57
  go_wp2
  exact bodyPost_ret (v := .agg #[.int .i64 0, .int .i64 t, .int .i64 g, .int .i64 (-1)]) (by simp [results, Try.results57, go_sem]) rfl ⟨rfl, belN1⟩
set_option maxRecDepth 100000 in
set_option maxHeartbeats 2000000 in
theorem ahead_any (x y : Al) (w : World) : Calls Try.prog 56 #[.agg #[.int .i64 x.k, .int .i64 x.t, .int .i64 x.a, .int .i64 x.b], .agg #[.int .i64 y.k, .int .i64 y.t, .int .i64 y.a, .int .i64 y.b]] w fun e w' => e = .returned (.bool (ahB x y)) ∧ Below w.heap.size w w' := by
  obtain ⟨xk, xt, xa, xb⟩ := x
  obtain ⟨yk, yt, ya, yb⟩ := y
  dsimp only
  by_cases h1 : xk = yk
  · have g1 : (xk != yk) = false := by simp [h1]
    by_cases h2 : xa < ya
    · have e : ahB ⟨xk, xt, xa, xb⟩ ⟨yk, yt, ya, yb⟩ = true := by simp [ahB, h1, h2]
      rw [e]
      clear h1 e
      go_enter Try.func56, Try.ntmps56
      go_wp2
      go_ret
      exact ⟨rfl, belA⟩
    · by_cases h3 : xa = ya
      · have e : ahB ⟨xk, xt, xa, xb⟩ ⟨yk, yt, ya, yb⟩ = decide (xb < yb) := by simp [ahB, h1, h3]
        have g2 : ¬ ya < ya := by omega
        have g3 : (ya == ya) = true := by simp
        rw [e]
        clear h1 e h2
        subst h3
        go_enter Try.func56, Try.ntmps56
        go_wp2
        go_ret
        exact ⟨rfl, belA⟩
      · have g3 : (xa == ya) = false := beq_eq_false_iff_ne.2 h3
        have e : ahB ⟨xk, xt, xa, xb⟩ ⟨yk, yt, ya, yb⟩ = false := by simp [ahB, h1, h2, h3]
        have h2' : ya ≤ xa := by omega
        rw [e]
        clear h1 e h3
        go_enter Try.func56, Try.ntmps56
        go_wp2
        go_ret
        exact ⟨rfl, belA⟩
  · have g1 : (xk != yk) = true := by simpa using h1
    have e : ahB ⟨xk, xt, xa, xb⟩ ⟨yk, yt, ya, yb⟩ = decide (xk < yk) := by simp [ahB, h1]
    rw [e]
    clear h1 e
    go_enter Try.func56, Try.ntmps56
    go_wp2
    go_ret
    exact ⟨rfl, belA⟩

set_option maxRecDepth 100000 in
set_option maxHeartbeats 2000000 in
theorem least_any (x y : Al) (w : World) : Calls Try.prog 44 #[.agg #[.int .i64 x.k, .int .i64 x.t, .int .i64 x.a, .int .i64 x.b], .agg #[.int .i64 y.k, .int .i64 y.t, .int .i64 y.a, .int .i64 y.b]] w fun e w' => e = .returned (.agg #[.int .i64 (leF x y).k, .int .i64 (leF x y).t, .int .i64 (leF x y).a, .int .i64 (leF x y).b]) ∧ Below w.heap.size w w' := by
  have h56 := fun W => ahead_any y x W
  have eL : leF x y = if x.k = 0 ∨ (y.k ≠ 0 ∧ ahB y x = true) then y else x := rfl
  rw [eL]
  clear eL
  generalize ahB y x = A at *
  have H1 : Has (((w.alloc (.cells #[.int .i64 x.k, .int .i64 x.t, .int .i64 x.a, .int .i64 x.b] 43)).alloc (.cells #[.int .i64 y.k, .int .i64 y.t, .int .i64 y.a, .int .i64 y.b] 43)).alloc (.cells #[.int .i64 0, .int .i64 0, .int .i64 0, .int .i64 0] 43)) w.heap.size #[.int .i64 x.k, .int .i64 x.t, .int .i64 x.a, .int .i64 x.b] := ((Has.new _ _ _ rfl).alloc _).alloc _
  have H2 : Has (((w.alloc (.cells #[.int .i64 x.k, .int .i64 x.t, .int .i64 x.a, .int .i64 x.b] 43)).alloc (.cells #[.int .i64 y.k, .int .i64 y.t, .int .i64 y.a, .int .i64 y.b] 43)).alloc (.cells #[.int .i64 0, .int .i64 0, .int .i64 0, .int .i64 0] 43)) (w.heap.size + 1) #[.int .i64 y.k, .int .i64 y.t, .int .i64 y.a, .int .i64 y.b] := (Has.new _ _ _ (by simp)).alloc _
  have H3 : Has (((w.alloc (.cells #[.int .i64 x.k, .int .i64 x.t, .int .i64 x.a, .int .i64 x.b] 43)).alloc (.cells #[.int .i64 y.k, .int .i64 y.t, .int .i64 y.a, .int .i64 y.b] 43)).alloc (.cells #[.int .i64 0, .int .i64 0, .int .i64 0, .int .i64 0] 43)) (w.heap.size + 2) #[.int .i64 0, .int .i64 0, .int .i64 0, .int .i64 0] := Has.new _ _ _ (by simp)
  have HB : Below w.heap.size w (((w.alloc (.cells #[.int .i64 x.k, .int .i64 x.t, .int .i64 x.a, .int .i64 x.b] 43)).alloc (.cells #[.int .i64 y.k, .int .i64 y.t, .int .i64 y.a, .int .i64 y.b] 43)).alloc (.cells #[.int .i64 0, .int .i64 0, .int .i64 0, .int .i64 0] 43)) := bel3
  by_cases hx : x.k = 0
  · rw [if_pos (.inl hx)]
    have g1 : (x.k == 0) = true := by simp [hx]
    clear hx
    go_enter Try.func44, Try.ntmps44
    go_upto_region 1 with fail
    generalize (((w.alloc (.cells #[.int .i64 x.k, .int .i64 x.t, .int .i64 x.a, .int .i64 x.b] 43)).alloc (.cells #[.int .i64 y.k, .int .i64 y.t, .int .i64 y.a, .int .i64 y.b] 43)).alloc (.cells #[.int .i64 0, .int .i64 0, .int .i64 0, .int .i64 0] 43)) = V at *
    obtain ⟨_, i1, _⟩ := id H1
    obtain ⟨_, i2, _⟩ := id H2
    obtain ⟨_, i3, f3⟩ := id H3
    go_wp2_with (go_at_call 56; (with_reducible refine Calls.mono (h56 _) ?_); rintro e w1 ⟨rfl, hb⟩; replace H1 := H1.below hb; replace H2 := H2.below hb; replace H3 := H3.below hb; replace HB := HB.trans (hb.mono HB.size); clear hb i1 i2 i3 f3; obtain ⟨_, i1, _⟩ := id H1; obtain ⟨_, i2, _⟩ := id H2; obtain ⟨_, i3, f3⟩ := id H3)
    exact bodyPost_ret (v := .agg #[.int .i64 y.k, .int .i64 y.t, .int .i64 y.a, .int .i64 y.b]) (by simp [results, Try.results44, go_sem, i3]) rfl ⟨rfl, (((HB.setCell (p := ⟨w.heap.size + 2, 0, none⟩) (by show w.heap.size ≤ w.heap.size + 2; omega) _).setCell (p := ⟨w.heap.size + 2, 1, none⟩) (by show w.heap.size ≤ w.heap.size + 2; omega) _).setCell (p := ⟨w.heap.size + 2, 2, none⟩) (by show w.heap.size ≤ w.heap.size + 2; omega) _).setCell (p := ⟨w.heap.size + 2, 3, none⟩) (by show w.heap.size ≤ w.heap.size + 2; omega) _⟩
  · have g1 : (x.k == 0) = false := beq_eq_false_iff_ne.2 hx
    by_cases hy : y.k = 0
    · rw [if_neg (by simp [hx, hy])]
      have g2 : (y.k != 0) = false := by simp [hy]
      clear hx hy
      go_enter Try.func44, Try.ntmps44
      go_upto_region 1 with fail
      generalize (((w.alloc (.cells #[.int .i64 x.k, .int .i64 x.t, .int .i64 x.a, .int .i64 x.b] 43)).alloc (.cells #[.int .i64 y.k, .int .i64 y.t, .int .i64 y.a, .int .i64 y.b] 43)).alloc (.cells #[.int .i64 0, .int .i64 0, .int .i64 0, .int .i64 0] 43)) = V at *
      obtain ⟨_, i1, _⟩ := id H1
      obtain ⟨_, i2, _⟩ := id H2
      obtain ⟨_, i3, f3⟩ := id H3
      go_wp2_with (go_at_call 56; (with_reducible refine Calls.mono (h56 _) ?_); rintro e w1 ⟨rfl, hb⟩; replace H1 := H1.below hb; replace H2 := H2.below hb; replace H3 := H3.below hb; replace HB := HB.trans (hb.mono HB.size); clear hb i1 i2 i3 f3; obtain ⟨_, i1, _⟩ := id H1; obtain ⟨_, i2, _⟩ := id H2; obtain ⟨_, i3, f3⟩ := id H3)
      exact bodyPost_ret (v := .agg #[.int .i64 x.k, .int .i64 x.t, .int .i64 x.a, .int .i64 x.b]) (by simp [results, Try.results44, go_sem, i3]) rfl ⟨rfl, (((HB.setCell (p := ⟨w.heap.size + 2, 0, none⟩) (by show w.heap.size ≤ w.heap.size + 2; omega) _).setCell (p := ⟨w.heap.size + 2, 1, none⟩) (by show w.heap.size ≤ w.heap.size + 2; omega) _).setCell (p := ⟨w.heap.size + 2, 2, none⟩) (by show w.heap.size ≤ w.heap.size + 2; omega) _).setCell (p := ⟨w.heap.size + 2, 3, none⟩) (by show w.heap.size ≤ w.heap.size + 2; omega) _⟩
    · have g2 : (y.k != 0) = true := by simpa using hy
      cases A with
      | true =>
        rw [if_pos (.inr ⟨hy, rfl⟩)]
        clear hx hy
        go_enter Try.func44, Try.ntmps44
        go_upto_region 1 with fail
        generalize (((w.alloc (.cells #[.int .i64 x.k, .int .i64 x.t, .int .i64 x.a, .int .i64 x.b] 43)).alloc (.cells #[.int .i64 y.k, .int .i64 y.t, .int .i64 y.a, .int .i64 y.b] 43)).alloc (.cells #[.int .i64 0, .int .i64 0, .int .i64 0, .int .i64 0] 43)) = V at *
        obtain ⟨_, i1, _⟩ := id H1
        obtain ⟨_, i2, _⟩ := id H2
        obtain ⟨_, i3, f3⟩ := id H3
        go_wp2_with (go_at_call 56; (with_reducible refine Calls.mono (h56 _) ?_); rintro e w1 ⟨rfl, hb⟩; replace H1 := H1.below hb; replace H2 := H2.below hb; replace H3 := H3.below hb; replace HB := HB.trans (hb.mono HB.size); clear hb i1 i2 i3 f3; obtain ⟨_, i1, _⟩ := id H1; obtain ⟨_, i2, _⟩ := id H2; obtain ⟨_, i3, f3⟩ := id H3)
        exact bodyPost_ret (v := .agg #[.int .i64 y.k, .int .i64 y.t, .int .i64 y.a, .int .i64 y.b]) (by simp [results, Try.results44, go_sem, i3]) rfl ⟨rfl, (((HB.setCell (p := ⟨w.heap.size + 2, 0, none⟩) (by show w.heap.size ≤ w.heap.size + 2; omega) _).setCell (p := ⟨w.heap.size + 2, 1, none⟩) (by show w.heap.size ≤ w.heap.size + 2; omega) _).setCell (p := ⟨w.heap.size + 2, 2, none⟩) (by show w.heap.size ≤ w.heap.size + 2; omega) _).setCell (p := ⟨w.heap.size + 2, 3, none⟩) (by show w.heap.size ≤ w.heap.size + 2; omega) _⟩
      | false =>
        rw [if_neg (by simp [hx])]
        clear hx hy
        go_enter Try.func44, Try.ntmps44
        go_upto_region 1 with fail
        generalize (((w.alloc (.cells #[.int .i64 x.k, .int .i64 x.t, .int .i64 x.a, .int .i64 x.b] 43)).alloc (.cells #[.int .i64 y.k, .int .i64 y.t, .int .i64 y.a, .int .i64 y.b] 43)).alloc (.cells #[.int .i64 0, .int .i64 0, .int .i64 0, .int .i64 0] 43)) = V at *
        obtain ⟨_, i1, _⟩ := id H1
        obtain ⟨_, i2, _⟩ := id H2
        obtain ⟨_, i3, f3⟩ := id H3
        go_wp2_with (go_at_call 56; (with_reducible refine Calls.mono (h56 _) ?_); rintro e w1 ⟨rfl, hb⟩; replace H1 := H1.below hb; replace H2 := H2.below hb; replace H3 := H3.below hb; replace HB := HB.trans (hb.mono HB.size); clear hb i1 i2 i3 f3; obtain ⟨_, i1, _⟩ := id H1; obtain ⟨_, i2, _⟩ := id H2; obtain ⟨_, i3, f3⟩ := id H3)
        exact bodyPost_ret (v := .agg #[.int .i64 x.k, .int .i64 x.t, .int .i64 x.a, .int .i64 x.b]) (by simp [results, Try.results44, go_sem, i3]) rfl ⟨rfl, (((HB.setCell (p := ⟨w.heap.size + 2, 0, none⟩) (by show w.heap.size ≤ w.heap.size + 2; omega) _).setCell (p := ⟨w.heap.size + 2, 1, none⟩) (by show w.heap.size ≤ w.heap.size + 2; omega) _).setCell (p := ⟨w.heap.size + 2, 2, none⟩) (by show w.heap.size ≤ w.heap.size + 2; omega) _).setCell (p := ⟨w.heap.size + 2, 3, none⟩) (by show w.heap.size ≤ w.heap.size + 2; omega) _⟩

set_option maxRecDepth 100000 in
set_option maxHeartbeats 2000000 in
theorem wrong_any (n : Nat) (s : ByteArray) (w : World) (hn : n ≤ 64) : Calls Try.prog 43 #[.string s, .int .i64 (n : Int)] w fun e w' => e = .returned (.int .i64 (wrF n s)) ∧ w' = w := by
  by_cases hs : s.size = n
  · have e : wrF n s = wrL s 0 n := by unfold wrF; rw [if_pos hs]
    rw [e]
    clear e
    generalize hZ : wrL s 0 n = Z
    have hZ' : Hid (wrL s 0 n = Z) := hZ
    clear hZ
    have hs2 : ((s.size : Int) != (n : Int)) = false := by simp [hs]
    have hs' : Hid (s.size = n) := hs
    clear hs
    go_enter Try.func43, Try.ntmps43
    go_wp2
    go_loopg [5] n (fun gk v wr => ∃ k : Nat, k + gk = n ∧ v = .int .i64 (k : Int) ∧ wr = w ∧ Hid (wrL s k gk = Z))
    case atStart => exact ⟨0, by omega, rfl, rfl, hZ'⟩
    case round =>
      obtain ⟨k, hk, rfl, rfl, hx⟩ := hrel
      cases gk with
      | zero =>
        have eZ : -2 = Z := hx.out
        obtain rfl : k = n := by omega
        subst eZ
        clear hZ' hx
        go_wp2
        go_ret
        exact ⟨rfl, rfl⟩
      | succ g =>
        have hkn : k < n := by omega
        have hks : k < s.size := by have := hs'.out; omega
        have hksi : (k : Int) < s.size := by omega
        have hl := ltr_get s k hks
        have hx' : Hid ((if letB ((s[k]'hks).toNat : Int) then wrL s (k + 1) g else (k : Int)) = Z) := by rw [hl]; exact hx.out
        have rd : ∀ c : Int, c = ((s[k]'hks).toNat : Int) → True := fun _ _ => trivial
        generalize hc : ((s[k]'hks).toNat : Int) = c at *
        by_cases h1 : c = 114 ∨ c = 108 ∨ c = 103 ∨ c = 97
        · have eL : letB c = true := by unfold letB; simp; omega
          have hx2 : Hid (wrL s (k + 1) g = Z) := by have := hx'.out; rwa [if_pos eL] at this
          clear hx' hx eL rd hl
          rcases h1 with rfl | rfl | rfl | rfl
          all_goals
            go_wp2
            go_roundg g
            case measure => omega
            case rel => exact ⟨k + 1, by omega, by push_cast; rfl, rfl, hx2⟩
        · have eL : ¬ letB c = true := by unfold letB; simp; omega
          have hx2 : (k : Int) = Z := by have := hx'.out; rwa [if_neg eL] at this
          have n1 : (c != 114) = true := by simp; omega
          have n2 : (c != 108) = true := by simp; omega
          have n3 : (c != 103) = true := by simp; omega
          have n4 : (c != 97) = true := by simp; omega
          subst hx2
          clear hx' hx eL rd hl hZ' h1
          go_wp2
          go_ret
          exact ⟨rfl, rfl⟩
  · have e : wrF n s = -1 := by unfold wrF; rw [if_neg hs]
    rw [e]
    have hs2 : ((s.size : Int) != (n : Int)) = true := by simpa using (fun h : (s.size : Int) = (n : Int) => hs (by omega))
    go_enter Try.func43, Try.ntmps43
    go_wp2
    go_ret
    exact ⟨rfl, rfl⟩
end Go.Proofs.Ytoaokpmnjppfcaa
namespace Go.Proofs.Ytoaokpmnjppfcaa
open Go.RowKit
set_option linter.unusedVariables false
set_option linter.unusedSimpArgs false

/-- How the reference's state goes with the lamps. -/
structure Rel (n : Nat) (f : Nat → Lm) (tk : Int) (la : ByteArray) (ru gn : Nat → Int) : Prop where
  t0 : 0 ≤ tk
  ru : ∀ k, k < n → ru k = (f k).lo
  gn : ∀ k, k < n → gn k = (f k).fr - 1
  fr : ∀ k, k < n → 0 ≤ (f k).fr
  z : tk = 0 → ∀ k, k < n → (f k).ch = 0
  p : 0 < tk → la.size = n ∧ ∀ k, k < n → ltr la k = (f k).ch ∧ letB (f k).ch = true
/-- The first alarm of a group by itself, as the reference tells it. -/
def gaF (g : Gp) (k : Nat) (tk : Int) (l : Lm) (c : Int) : Al :=
  if tk = 0 then (if c = 114 then al0 else ⟨2, tk, k, -1⟩)
  else if (!decide (l.ch = c) && !flB g l.ch c) = true then ⟨3, tk, k, -1⟩
  else if (decide (l.ch = 97) && (!decide (c = 97) && decide ((if l.ch = c then l.lo + 1 else l.lo) < g.amber)) || decide (c = 97) && (decide (l.ch = 97) && decide ((if l.ch = c then l.lo + 1 else l.lo) = g.amber + 1))) = true then ⟨4, tk, k, -1⟩
  else if (decide (l.ch = 108) && (!decide (c = 108) && decide ((if l.ch = c then l.lo + 1 else l.lo) < g.lead)) || decide (c = 108) && (decide (l.ch = 108) && decide ((if l.ch = c then l.lo + 1 else l.lo) = g.lead + 1))) = true then ⟨5, tk, k, -1⟩
  else if (decide (l.ch = 103) && (!decide (c = 103) && decide ((if l.ch = c then l.lo + 1 else l.lo) < g.min))) = true then ⟨6, tk, k, -1⟩
  else al0
theorem cmp_eq (a : Int) : cmpI a a = 0 := by unfold cmpI; simp
theorem ino_ah {a x : Al} (h : a.t = x.t) : (inoF a x < 0) ↔ ahB a x = true := by
  unfold inoF ahB
  rw [h, cmp_eq]
  simp only [orL, if_true]
  unfold cmpI
  by_cases h1 : a.k < x.k
  · have : ¬ a.k = x.k := by omega
    simp [h1, this]
  · by_cases h2 : x.k < a.k
    · have : ¬ a.k = x.k := by omega
      simp [h1, h2, this]
    · have e : a.k = x.k := by omega
      simp only [e, Int.lt_irrefl, if_false, if_true]
      by_cases h3 : a.a < x.a
      · simp [h3]
      · by_cases h4 : x.a < a.a
        · have : ¬ a.a = x.a := by omega
          simp [h3, h4, this]
        · have e2 : a.a = x.a := by omega
          simp only [e2, Int.lt_irrefl, if_false, if_true]
          by_cases h5 : a.b < x.b
          · simp [h5]
          · by_cases h6 : x.b < a.b
            · simp [h5, h6]
            · simp [h5, h6]
theorem rs_le {t : Int} {x a : Al} (h : Pz t x) (ht : a.t = t) (ha : a.k ≠ 0) : rsF x a = leF x a := by
  unfold rsF leF
  by_cases hx : x.k = 0
  · rw [if_pos (.inl hx), if_pos (.inl hx)]
  · have e : a.t = x.t := by rw [ht, h.2 hx]
    by_cases hi : inoF a x < 0
    · rw [if_pos (.inr hi), if_pos (.inr ⟨ha, (ino_ah e).1 hi⟩)]
    · rw [if_neg (by simp [hx, hi]), if_neg (by rintro (c | ⟨_, c⟩); exact hx c; exact hi ((ino_ah e).2 c))]
theorem pz_le {t : Int} {x a : Al} (h : Pz t x) (ha : Pz t a) : Pz t (leF x a) := by
  unfold leF
  split
  · exact ha
  · exact h
/-- Behind an alarm of a lesser kind of the same group another one changes nothing. -/
theorem le_le {x : Al} {i j t g b : Int} (hi : 0 < i) (hij : i < j) : leF (leF x ⟨i, t, g, b⟩) ⟨j, t, g, b⟩ = leF x ⟨i, t, g, b⟩ := by
  have hi0 : ¬ i = 0 := by omega
  have hj0 : ¬ j = 0 := by omega
  have hne : ¬ j = i := by omega
  have hlt : ¬ j < i := by omega
  by_cases c : x.k = 0 ∨ ((⟨i, t, g, b⟩ : Al).k ≠ 0 ∧ ahB ⟨i, t, g, b⟩ x = true)
  · have e : leF x ⟨i, t, g, b⟩ = ⟨i, t, g, b⟩ := by unfold leF; rw [if_pos c]
    rw [e]
    unfold leF ahB
    rw [if_neg (by simp [hi0, hne, hlt])]
  · have e : leF x ⟨i, t, g, b⟩ = x := by unfold leF; rw [if_neg c]
    rw [e]
    have hx : ¬ x.k = 0 := fun h => c (.inl h)
    have hn : ¬ ahB ⟨i, t, g, b⟩ x = true := fun h => c (.inr ⟨hi0, h⟩)
    unfold leF
    rw [if_neg ?_]
    rintro (h | ⟨_, h⟩)
    · exact hx h
    · unfold ahB at h hn
      dsimp only at h hn
      by_cases e1 : j = x.k
      · have : ¬ i = x.k := by omega
        rw [if_neg this] at hn
        exact hn (by simp; omega)
      · rw [if_neg e1] at h
        have hjx : j < x.k := by simpa using h
        have : ¬ i = x.k := by omega
        rw [if_neg this] at hn
        exact hn (by simp; omega)
theorem put_le {t : Int} {x a : Al} {b : Bool} (h : Pz t x) (ht : a.t = t) (ha : a.k ≠ 0) : put x b a = if b = true then leF x a else x := by
  cases b with
  | false => rfl
  | true => exact rs_le h ht ha
theorem le_none {t : Int} {x : Al} (h : Pz t x) : leF x al0 = x := by
  unfold leF
  by_cases hx : x.k = 0
  · rw [if_pos (.inl hx)]; exact (h.1 hx).symm
  · rw [if_neg]
    rintro (c | ⟨c, _⟩)
    · exact hx c
    · exact c rfl
/-- Puts in rising order: the first that is wanted. -/
theorem puts {t g : Int} {x : Al} {b2 b3 b4 b5 b6 : Bool} (h : Pz t x) : put (put (put (put (put x b2 ⟨2, t, g, -1⟩) b3 ⟨3, t, g, -1⟩) b4 ⟨4, t, g, -1⟩) b5 ⟨5, t, g, -1⟩) b6 ⟨6, t, g, -1⟩ =
    leF x (if b2 = true then ⟨2, t, g, -1⟩ else if b3 = true then ⟨3, t, g, -1⟩ else if b4 = true then ⟨4, t, g, -1⟩ else if b5 = true then ⟨5, t, g, -1⟩ else if b6 = true then ⟨6, t, g, -1⟩ else al0) := by
  have pa : ∀ k : Int, k ≠ 0 → Pz t (⟨k, t, g, -1⟩ : Al) := fun k hk => ⟨fun e => absurd e hk, fun _ => rfl⟩
  have st : ∀ (y : Al) (b : Bool) (k : Int), k ≠ 0 → Pz t y → put y b ⟨k, t, g, -1⟩ = if b = true then leF y ⟨k, t, g, -1⟩ else y := fun y b k hk hy => put_le hy rfl hk
  have keep : ∀ (i j : Int) (b : Bool), 0 < i → i < j → put (leF x ⟨i, t, g, -1⟩) b ⟨j, t, g, -1⟩ = leF x ⟨i, t, g, -1⟩ := fun i j b hi hij => by
    rw [st _ _ _ (by omega) (pz_le h (pa i (by omega)))]
    cases b with
    | false => rfl
    | true => exact le_le hi hij
  cases b2 with
  | true => rw [st x true 2 (by decide) h, if_pos rfl, keep 2 3 b3 (by decide) (by decide), keep 2 4 b4 (by decide) (by decide), keep 2 5 b5 (by decide) (by decide), keep 2 6 b6 (by decide) (by decide), if_pos rfl]
  | false =>
    rw [st x false 2 (by decide) h]
    simp only [Bool.false_eq_true, if_false]
    cases b3 with
    | true => rw [st x true 3 (by decide) h, if_pos rfl, keep 3 4 b4 (by decide) (by decide), keep 3 5 b5 (by decide) (by decide), keep 3 6 b6 (by decide) (by decide), if_pos rfl]
    | false =>
      rw [st x false 3 (by decide) h]
      simp only [Bool.false_eq_true, if_false]
      cases b4 with
      | true => rw [st x true 4 (by decide) h, if_pos rfl, keep 4 5 b5 (by decide) (by decide), keep 4 6 b6 (by decide) (by decide), if_pos rfl]
      | false =>
        rw [st x false 4 (by decide) h]
        simp only [Bool.false_eq_true, if_false]
        cases b5 with
        | true => rw [st x true 5 (by decide) h, if_pos rfl, keep 5 6 b6 (by decide) (by decide), if_pos rfl]
        | false =>
          rw [st x false 5 (by decide) h]
          simp only [Bool.false_eq_true, if_false]
          cases b6 with
          | true => rw [st x true 6 (by decide) h, if_pos rfl, if_pos rfl]
          | false => rw [st x false 6 (by decide) h]; simp only [Bool.false_eq_true, if_false]; exact (le_none h).symm
theorem mf_fl {g : Gp} {n p c : Int} (hp : letB p = true) : mfB ⟨n, g.min, g.amber, g.lead⟩ p c = (decide (p = c) || flB g p c) := by
  unfold mfB flB
  unfold letB at hp
  by_cases h1 : p = 114
  · subst h1; simp [eq_comm]
  · by_cases h2 : p = 108
    · subst h2; simp [eq_comm]
    · by_cases h3 : p = 103
      · subst h3; simp [eq_comm]
      · have h4 : p = 97 := by simpa [h1, h2, h3] using hp
        subst h4; simp [eq_comm]
/-- A look at a group is one alarm of the reference's. -/
theorem lk_ga {G : List Gp} {n k : Nat} {f : Nat → Lm} {tk : Int} {la s : ByteArray} {ru gn : Nat → Int} {x : Al} (hr : Rel n f tk la ru gn) (hk : k < n) (hc : letB (ltr s k) = true) (h : Pz tk x) :
    lkF x (grF G k) (tnF f tk s k) = leF x (gaF (G.getD k gp0) k tk (f k) (ltr s k)) := by
  unfold lkF
  have e : (tnF f tk s k).t = tk := rfl
  have eg : grF G k = ⟨k, (G.getD k gp0).min, (G.getD k gp0).amber, (G.getD k gp0).lead⟩ := rfl
  rw [eg, e, puts h]
  congr 1
  have hw : (tnF f tk s k).was = f k := rfl
  have hnw : (tnF f tk s k).now = shF (f k) tk (ltr s k) := rfl
  clear eg e
  generalize G.getD k gp0 = g at *
  unfold gaF
  by_cases ht : tk = 0
  · have hz := hr.z ht k hk
    rw [if_pos ht]
    by_cases c1 : ltr s k = 114
    · rw [if_pos c1]
      have b2 : ¬ (decide (tk = 0) && !decide ((tnF f tk s k).now.ch = 114)) = true := by simp [hnw, shF, c1]
      have b3 : ¬ (decide (0 < tk) && !mfB ⟨k, g.min, g.amber, g.lead⟩ (tnF f tk s k).was.ch (tnF f tk s k).now.ch) = true := by simp [ht]
      have b4 : ¬ (shB (tnF f tk s k) 97 g.amber || ovB (tnF f tk s k) 97 g.amber) = true := by simp [shB, ovB, hw, hnw, hz, shF, c1]
      have b5 : ¬ (shB (tnF f tk s k) 108 g.lead || ovB (tnF f tk s k) 108 g.lead) = true := by simp [shB, ovB, hw, hnw, hz, shF, c1]
      have b6 : ¬ (shB (tnF f tk s k) 103 g.min) = true := by simp [shB, hw, hz]
      rw [if_neg b2, if_neg b3, if_neg b4, if_neg b5, if_neg b6]
    · rw [if_neg c1]
      have hch : (tnF f tk s k).now.ch = ltr s k := rfl
      have b2 : (decide (tk = 0) && !decide ((tnF f tk s k).now.ch = 114)) = true := by rw [hch]; simp [c1, ht]
      rw [if_pos b2]
  · have hp := (hr.p (by have := hr.t0; omega)).2 k hk
    rw [if_neg ht]
    have b2 : ¬ (decide (tk = 0) && !decide ((tnF f tk s k).now.ch = 114)) = true := by simp [ht]
    have htk : 0 < tk := by have := hr.t0; omega
    rw [if_neg b2]
    have hch : (shF (f k) tk (ltr s k)).ch = ltr s k := rfl
    have hlo : (shF (f k) tk (ltr s k)).lo = if ltr s k = (f k).ch then (f k).lo + 1 else 1 := rfl
    have e3 : (decide (0 < tk) && !mfB ⟨k, g.min, g.amber, g.lead⟩ (tnF f tk s k).was.ch (tnF f tk s k).now.ch) = (!decide ((f k).ch = ltr s k) && !flB g (f k).ch (ltr s k)) := by
      rw [hw, hnw, hch, mf_fl hp.2]
      simp [htk]
    rw [e3]
    unfold shB ovB
    rw [hw, hnw, hch, hlo]
    have hl2 := hp.2
    generalize (f k).ch = p at *
    generalize (f k).lo = lo at *
    generalize ltr s k = c at *
    by_cases c3 : (!decide (p = c) && !flB g p c) = true
    · rw [if_pos c3, if_pos c3]
    · rw [if_neg c3, if_neg c3]
      have key : p ≠ c → (c = 97 → 0 < g.amber ∧ p = 103) ∧ (c = 108 → 0 < g.lead ∧ p = 114) := fun hpc => by
        have hfl : flB g p c = true := by
          cases hf : flB g p c with
          | true => rfl
          | false => exact absurd (by simp [hf, hpc]) c3
        unfold flB at hfl
        unfold letB at hl2
        by_cases h1 : p = 114
        · rw [if_pos h1] at hfl
          simp at hfl
          omega
        · rw [if_neg h1] at hfl
          by_cases h2 : p = 108
          · rw [if_pos h2] at hfl
            simp at hfl
            omega
          · rw [if_neg h2] at hfl
            by_cases h3 : p = 103
            · rw [if_pos h3] at hfl
              simp at hfl
              omega
            · rw [if_neg h3] at hfl
              simp at hfl
              omega
      have e4 : ∀ z : Int, (p ≠ c → c = z → 0 < (if z = 97 then g.amber else g.lead)) → (z = 97 ∨ z = 108) → (decide (p = z) && (!decide (c = z) && decide (lo < (if z = 97 then g.amber else g.lead))) || decide (c = z) && decide ((if c = p then lo + 1 else 1) = (if z = 97 then g.amber else g.lead) + 1)) = (decide (p = z) && (!decide (c = z) && decide ((if p = c then lo + 1 else lo) < (if z = 97 then g.amber else g.lead))) || decide (c = z) && (decide (p = z) && decide ((if p = c then lo + 1 else lo) = (if z = 97 then g.amber else g.lead) + 1))) := fun z hz _ => by
        generalize (if z = 97 then g.amber else g.lead) = m at *
        rw [Bool.eq_iff_iff]
        simp only [Bool.or_eq_true, Bool.and_eq_true, decide_eq_true_eq, Bool.not_eq_true', decide_eq_false_iff_not]
        by_cases hpc : p = c
        · rw [if_pos hpc, if_pos hpc.symm]
          omega
        · rw [if_neg hpc, if_neg (Ne.symm hpc)]
          have := hz hpc
          omega
      have f4 := e4 97 (fun a b => by rw [if_pos rfl]; exact ((key a).1 b).1) (.inl rfl)
      have f5 := e4 108 (fun a b => by rw [if_neg (by decide)]; exact ((key a).2 b).1) (.inr rfl)
      rw [if_pos rfl] at f4
      rw [if_neg (by decide)] at f5
      rw [f4, f5]
      have f6 : (decide (p = 103) && (!decide (c = 103) && decide (lo < g.min))) = (decide (p = 103) && (!decide (c = 103) && decide ((if p = c then lo + 1 else lo) < g.min))) := by
        rw [Bool.eq_iff_iff]
        simp only [Bool.and_eq_true, decide_eq_true_eq, Bool.not_eq_true', decide_eq_false_iff_not]
        by_cases hpc : p = c
        · rw [if_pos hpc]; omega
        · rw [if_neg hpc]
      rw [f6]
end Go.Proofs.Ytoaokpmnjppfcaa
namespace Go.Proofs.Ytoaokpmnjppfcaa
open Go.RowKit
set_option linter.unusedVariables false
set_option linter.unusedSimpArgs false

def erA (f : Nat → Lm) (tk : Int) (s : ByteArray) (a b : Nat) (n : Int) : Al := if erF (tnF f tk s a) (tnF f tk s b) n = 0 then al0 else ⟨erF (tnF f tk s a) (tnF f tk s b) n, tk, a, b⟩
def boB (f : Nat → Lm) (tk : Int) (s : ByteArray) (a b : Nat) : Bool := awB (tnF f tk s a).now && (awB (tnF f tk s b).now && !(awB (tnF f tk s a).was && awB (tnF f tk s b).was))
theorem put_er {t : Int} {y : Al} {e a b : Int} (h : Pz t y) : put y (!decide (e = 0)) ⟨e, t, a, b⟩ = leF y (if e = 0 then al0 else ⟨e, t, a, b⟩) := by
  by_cases he : e = 0
  · rw [if_pos he, le_none h, he]; rfl
  · rw [if_neg he, put_le h rfl he, if_pos (by simp [he])]
theorem pz_er (f : Nat → Lm) (tk : Int) (s : ByteArray) (a b : Nat) (n : Int) : Pz tk (erA f tk s a b n) := by
  unfold erA
  split
  · exact ⟨fun _ => rfl, fun e => absurd rfl e⟩
  · rename_i h; exact ⟨fun e => absurd e h, fun _ => rfl⟩
def pcF (f : Nat → Lm) (tk : Int) (s : ByteArray) (x : Al) (c : Cf) : Al :=
  leF (leF (if boB f tk s c.a.toNat c.b.toNat = true then leF x ⟨7, tk, c.a, c.b⟩ else x) (erA f tk s c.a.toNat c.b.toNat c.ab)) (erA f tk s c.b.toNat c.a.toNat c.ba)
theorem pr_pc {f : Nat → Lm} {tk : Int} {s : ByteArray} {x : Al} {c : Cf} (h : Pz tk x) (ha : 0 ≤ c.a) (hb : 0 ≤ c.b) : prF x c (tnF f tk s c.a.toNat) (tnF f tk s c.b.toNat) = pcF f tk s x c := by
  unfold prF pcF erA boB
  have e1 : ((c.a.toNat : Nat) : Int) = c.a := Int.toNat_of_nonneg ha
  have e2 : ((c.b.toNat : Nat) : Int) = c.b := Int.toNat_of_nonneg hb
  rw [e1, e2]
  have et : (tnF f tk s c.a.toNat).t = tk := rfl
  rw [et]
  have h7 : Pz tk (⟨7, tk, c.a, c.b⟩ : Al) := ⟨fun e => absurd e (by show ¬ (7 : Int) = 0; decide), fun _ => rfl⟩
  rw [put_le h rfl (by show (7 : Int) ≠ 0; decide)]
  generalize hq : (if (awB (tnF f tk s c.a.toNat).now && (awB (tnF f tk s c.b.toNat).now && !(awB (tnF f tk s c.a.toNat).was && awB (tnF f tk s c.b.toNat).was))) = true then leF x ⟨7, tk, c.a, c.b⟩ else x) = q
  have hq' : Pz tk q := by
    rw [← hq]
    split
    · exact pz_le h h7
    · exact h
  rw [put_er hq']
  have hy : ∀ (e a b : Int), Pz tk (if e = 0 then al0 else (⟨e, tk, a, b⟩ : Al)) := fun e a b => by
    split
    · exact ⟨fun _ => rfl, fun e => absurd rfl e⟩
    · rename_i h; exact ⟨fun e => absurd e h, fun _ => rfl⟩
  rw [put_er (pz_le hq' (hy _ _ _))]
def rgN (G : List Gp) (f : Nat → Lm) (tk : Int) (s : ByteArray) : Nat → Al
  | 0 => al0
  | k + 1 => leF (rgN G f tk s k) (gaF (G.getD k gp0) k tk (f k) (ltr s k))
def rcN (C : List Cf) (f : Nat → Lm) (tk : Int) (s : ByteArray) (x : Al) : Nat → Al
  | 0 => x
  | k + 1 => pcF f tk s (rcN C f tk s x k) (C.getD k cf0)
theorem pz0 (t : Int) : Pz t al0 := ⟨fun _ => rfl, fun e => absurd rfl e⟩
theorem wrL_ok (s : ByteArray) : ∀ n k, wrL s k n = -2 → ∀ j, k ≤ j → j < k + n → letB (ltr s j) = true
  | 0, k, _, j, h1, h2 => by omega
  | n + 1, k, h, j, h1, h2 => by
    unfold wrL at h
    by_cases hl : letB (ltr s k) = true
    · rw [if_pos hl] at h
      by_cases e : j = k
      · rw [e]; exact hl
      · exact wrL_ok s n (k + 1) h j (by omega) (by omega)
    · rw [if_neg hl] at h; omega
theorem wr_ok {n : Nat} {s : ByteArray} (h : wrF n s = -2) : s.size = n ∧ ∀ k, k < n → letB (ltr s k) = true := by
  unfold wrF at h
  by_cases e : s.size = n
  · rw [if_pos e] at h
    exact ⟨e, fun k hk => wrL_ok s n 0 h k (by omega) (by omega)⟩
  · rw [if_neg e] at h; cases h
theorem grL_getD (G : List Gp) (k : Nat) (hk : k < G.length) : (grL G).getD k gr0 = grF G k := by
  have h : k < (grL G).length := by rw [grL_len]; exact hk
  rw [List.getD_eq_getElem?_getD, List.getElem?_eq_getElem h, Option.getD_some, grL_get]
theorem lk_rg {G : List Gp} {f : Nat → Lm} {tk : Int} {la s : ByteArray} {ru gn : Nat → Int} (hr : Rel G.length f tk la ru gn) (hl : ∀ k, k < G.length → letB (ltr s k) = true) : ∀ k, k ≤ G.length → lkN (grL G) f tk s al0 k = rgN G f tk s k ∧ Pz tk (rgN G f tk s k)
  | 0, _ => ⟨rfl, pz0 tk⟩
  | k + 1, hk => by
    obtain ⟨h1, h2⟩ := lk_rg hr hl k (by omega)
    have e : lkN (grL G) f tk s al0 (k + 1) = lkF (lkN (grL G) f tk s al0 k) ((grL G).getD k gr0) (tnF f tk s k) := rfl
    have e2 : lkN (grL G) f tk s al0 (k + 1) = rgN G f tk s (k + 1) := by
      rw [e, h1, grL_getD G k (by omega)]
      exact lk_ga hr (by omega) (hl k (by omega)) h2
    exact ⟨e2, by rw [← e2]; exact pz_lkN (pz0 tk) _⟩
theorem pr_rc {C : List Cf} {f : Nat → Lm} {tk : Int} {s : ByteArray} {x : Al} (h : Pz tk x) (hc : ∀ (i : Nat) (hi : i < C.length), 0 ≤ C[i].a ∧ 0 ≤ C[i].b) : ∀ k, k ≤ C.length → prN C f tk s x k = rcN C f tk s x k ∧ Pz tk (rcN C f tk s x k)
  | 0, _ => ⟨rfl, h⟩
  | k + 1, hk => by
    obtain ⟨h1, h2⟩ := pr_rc h hc k (by omega)
    have hk' : k < C.length := by omega
    have eC : C.getD k cf0 = C[k] := by rw [List.getD_eq_getElem?_getD, List.getElem?_eq_getElem hk']; rfl
    have e : prN C f tk s x (k + 1) = prF (prN C f tk s x k) (C.getD k cf0) (tnF f tk s (C.getD k cf0).a.toNat) (tnF f tk s (C.getD k cf0).b.toNat) := rfl
    have e2 : prN C f tk s x (k + 1) = rcN C f tk s x (k + 1) := by
      rw [e, h1]
      exact pr_pc h2 (by rw [eC]; exact (hc k hk').1) (by rw [eC]; exact (hc k hk').2)
    exact ⟨e2, by rw [← e2]; exact pz_prN h _⟩
/-- The first alarm of a tick, as the reference finds it. -/
def ffF (G : List Gp) (C : List Cf) (f : Nat → Lm) (tk : Int) (s : ByteArray) : Al :=
  if wrF G.length s = -2 then rcN C f tk s (rgN G f tk s G.length) C.length else ⟨1, tk, wrF G.length s, -1⟩
theorem fr_ff {G : List Gp} {C : List Cf} {f : Nat → Lm} {tk : Int} {la s : ByteArray} {ru gn : Nat → Int} (hr : Rel G.length f tk la ru gn) (hc : ∀ (i : Nat) (hi : i < C.length), 0 ≤ C[i].a ∧ 0 ≤ C[i].b) : frF (grL G) C f tk s = ffF G C f tk s := by
  unfold frF ffF
  rw [grL_len, ms_wr]
  by_cases hw : wrF G.length s = -2
  · rw [if_pos hw, if_pos hw, if_pos (show al0.k = 0 from rfl)]
    obtain ⟨h1, h2⟩ := lk_rg hr (wr_ok hw).2 G.length (Nat.le_refl _)
    rw [h1]
    exact (pr_rc h2 hc C.length (Nat.le_refl _)).1
  · rw [if_neg hw, if_neg hw, if_neg (by show ¬ (1 : Int) = 0; decide)]
def runF (f : Nat → Lm) (tk : Int) (s : ByteArray) (k : Nat) : Int := (shF (f k) tk (ltr s k)).lo
def grnF (f : Nat → Lm) (tk : Int) (s : ByteArray) (k : Nat) : Int := (shF (f k) tk (ltr s k)).fr - 1
theorem rel_next {n : Nat} {f : Nat → Lm} {tk : Int} {la s : ByteArray} {ru gn : Nat → Int} (hr : Rel n f tk la ru gn) (hw : wrF n s = -2) : Rel n (lmN f tk s n) (tk + 1) s (runF f tk s) (grnF f tk s) := by
  obtain ⟨h1, h2⟩ := wr_ok hw
  have hl : ∀ k, k < n → lmN f tk s n k = shF (f k) tk (ltr s k) := fun k hk => by unfold lmN; rw [if_pos hk]
  refine ⟨by have := hr.t0; omega, fun k hk => by rw [hl k hk]; rfl, fun k hk => by rw [hl k hk]; rfl, fun k hk => ?_, fun e => by have := hr.t0; omega, fun _ => ⟨h1, fun k hk => ?_⟩⟩
  · rw [hl k hk]
    have := hr.fr k hk; have := hr.t0
    unfold shF
    dsimp only
    split <;> omega
  · rw [hl k hk]
    exact ⟨rfl, h2 k hk⟩
theorem rel0 (n : Nat) : Rel n (fun _ => lm0) 0 ⟨#[]⟩ (fun _ => 0) (fun _ => -1) := ⟨Int.le_refl _, fun _ _ => rfl, fun _ _ => rfl, fun _ _ => Int.le_refl _, fun _ _ _ => rfl, fun h => absurd h (by decide)⟩
end Go.Proofs.Ytoaokpmnjppfcaa
