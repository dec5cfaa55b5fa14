import Derived.Test.YtoaokpmnjppfcaaWaQ
namespace Go.Proofs.Ytoaokpmnjppfcaa
open Go.RowKit
set_option linter.unusedVariables false
set_option linter.unusedSimpArgs false

/-- Does an alarm stand ahead of another one of its tick? -/
def ahB (x y : Al) : Bool := if x.k = y.k then decide (x.a < y.a) || (decide (x.a = y.a) && decide (x.b < y.b)) else decide (x.k < y.k)
def leF (x y : Al) : Al := if x.k = 0 ∨ (y.k ≠ 0 ∧ ahB y x = true) then y else x
def flB (g : Gp) (p c : Int) : Bool :=
  if p = 114 then decide (c = 108) && decide (0 < g.lead) || decide (c = 103) && decide (g.lead = 0)
  else if p = 108 then decide (c = 103)
  else if p = 103 then decide (c = 97) && decide (0 < g.amber) || decide (c = 114) && decide (g.amber = 0)
  else decide (c = 114)
def wrL (s : ByteArray) : Nat → Nat → Int
  | _, 0 => -2
  | k, n + 1 => if letB (ltr s k) then wrL s (k + 1) n else k
def wrF (n : Nat) (s : ByteArray) : Int := if s.size = n then wrL s 0 n else -1
theorem wr_ms (t : Int) (s : ByteArray) : ∀ n k, msL t s k n = if wrL s k n = -2 then al0 else ⟨1, t, wrL s k n, -1⟩
  | 0, k => by simp [msL, wrL]
  | n + 1, k => by
    unfold msL wrL
    by_cases h : letB (ltr s k) = true
    · rw [if_pos h, if_pos h]; exact wr_ms t s n (k + 1)
    · rw [if_neg h, if_neg h, if_neg (by omega)]
theorem ms_wr (n : Nat) (t : Int) (s : ByteArray) : msF n t s = if wrF n s = -2 then al0 else ⟨1, t, wrF n s, -1⟩ := by
  unfold msF wrF
  by_cases h : s.size = n
  · rw [if_pos h, if_pos h]; exact wr_ms t s n 0
  · rw [if_neg h, if_neg h, if_neg (by decide)]

set_option maxRecDepth 100000 in
set_option maxHeartbeats 1000000 in
theorem follows_any (nm : ByteArray) (so mi am le p c : Int) (w : World) : Calls Try.prog 58 #[.agg #[.string nm, .int .i64 so, .int .i64 mi, .int .i64 am, .int .i64 le], .int .u8 p, .int .u8 c] w fun e w' => e = .returned (.bool (flB ⟨nm, so, mi, am, le⟩ p c)) ∧ Below w.heap.size w w' := by
  by_cases hp114 : p = 114
  · subst hp114
    by_cases hc108 : c = 108
    · subst hc108
      by_cases hl : 0 < le
      · skip
        go_enter Try.func58, Try.ntmps58
        go_wp2
        go_ret
        exact ⟨by first | rfl | (refine ret_bool ?_; simp [flB, *]; done) | (refine ret_bool ?_; simp_all [flB]; done) | (refine ret_bool ?_; rw [Bool.eq_iff_iff]; simp [flB, hp114, hp108, hp103]; done), belN1⟩
      · skip
        go_enter Try.func58, Try.ntmps58
        go_wp2
        go_ret
        exact ⟨by first | rfl | (refine ret_bool ?_; simp [flB, *]; done) | (refine ret_bool ?_; simp_all [flB]; done) | (refine ret_bool ?_; rw [Bool.eq_iff_iff]; simp [flB, hp114, hp108, hp103]; done), belN1⟩
    · have gc108 : (c == 108) = false := beq_eq_false_iff_ne.2 hc108
      have nc108 : (c != 108) = true := by simpa using hc108
      by_cases hc103 : c = 103
      · subst hc103
        go_enter Try.func58, Try.ntmps58
        go_wp2
        go_ret
        exact ⟨by first | rfl | (refine ret_bool ?_; simp [flB, *]; done) | (refine ret_bool ?_; simp_all [flB]; done) | (refine ret_bool ?_; rw [Bool.eq_iff_iff]; simp [flB, hp114, hp108, hp103]; done), belN1⟩
      · have gc103 : (c == 103) = false := beq_eq_false_iff_ne.2 hc103
        have nc103 : (c != 103) = true := by simpa using hc103
        go_enter Try.func58, Try.ntmps58
        go_wp2
        go_ret
        exact ⟨by first | rfl | (refine ret_bool ?_; simp [flB, *]; done) | (refine ret_bool ?_; simp_all [flB]; done) | (refine ret_bool ?_; rw [Bool.eq_iff_iff]; simp [flB, hp114, hp108, hp103]; done), belN1⟩
  · have gp114 : (p == 114) = false := beq_eq_false_iff_ne.2 hp114
    have np114 : (p != 114) = true := by simpa using hp114
    by_cases hp108 : p = 108
    · subst hp108
      go_enter Try.func58, Try.ntmps58
      go_wp2
      go_ret
      exact ⟨by first | rfl | (refine ret_bool ?_; simp [flB, *]; done) | (refine ret_bool ?_; simp_all [flB]; done) | (refine ret_bool ?_; rw [Bool.eq_iff_iff]; simp [flB, hp114, hp108, hp103]; done), belN1⟩
    · have gp108 : (p == 108) = false := beq_eq_false_iff_ne.2 hp108
      have np108 : (p != 108) = true := by simpa using hp108
      by_cases hp103 : p = 103
      · subst hp103
        by_cases hc97 : c = 97
        · subst hc97
          by_cases ha : 0 < am
          · skip
            go_enter Try.func58, Try.ntmps58
            go_wp2
            go_ret
            exact ⟨by first | rfl | (refine ret_bool ?_; simp [flB, *]; done) | (refine ret_bool ?_; simp_all [flB]; done) | (refine ret_bool ?_; rw [Bool.eq_iff_iff]; simp [flB, hp114, hp108, hp103]; done), belN1⟩
          · skip
            go_enter Try.func58, Try.ntmps58
            go_wp2
            go_ret
            exact ⟨by first | rfl | (refine ret_bool ?_; simp [flB, *]; done) | (refine ret_bool ?_; simp_all [flB]; done) | (refine ret_bool ?_; rw [Bool.eq_iff_iff]; simp [flB, hp114, hp108, hp103]; done), belN1⟩
        · have gc97 : (c == 97) = false := beq_eq_false_iff_ne.2 hc97
          have nc97 : (c != 97) = true := by simpa using hc97
          by_cases hc114 : c = 114
          · subst hc114
            go_enter Try.func58, Try.ntmps58
            go_wp2
            go_ret
            exact ⟨by first | rfl | (refine ret_bool ?_; simp [flB, *]; done) | (refine ret_bool ?_; simp_all [flB]; done) | (refine ret_bool ?_; rw [Bool.eq_iff_iff]; simp [flB, hp114, hp108, hp103]; done), belN1⟩
          · have gc114 : (c == 114) = false := beq_eq_false_iff_ne.2 hc114
            have nc114 : (c != 114) = true := by simpa using hc114
            go_enter Try.func58, Try.ntmps58
            go_wp2
            go_ret
            exact ⟨by first | rfl | (refine ret_bool ?_; simp [flB, *]; done) | (refine ret_bool ?_; simp_all [flB]; done) | (refine ret_bool ?_; rw [Bool.eq_iff_iff]; simp [flB, hp114, hp108, hp103]; done), belN1⟩
      · have gp103 : (p == 103) = false := beq_eq_false_iff_ne.2 hp103
        have np103 : (p != 103) = true := by simpa using hp103
        go_enter Try.func58, Try.ntmps58
        go_wp2
        go_ret
        exact ⟨by first | rfl | (refine ret_bool ?_; simp [flB, *]; done) | (refine ret_bool ?_; simp_all [flB]; done) | (refine ret_bool ?_; rw [Bool.eq_iff_iff]; simp [flB, hp114, hp108, hp103]; done), belN1⟩

set_option maxRecDepth 100000 in
set_option maxHeartbeats 1000000 in
theorem oneOf_any (t g : Int) (w : World) : Calls Try.prog 57 #[.int .i64 t, .int .i64 g] w fun e w' => e = .returned (.agg #[.int .i64 0, .int .i64 t, .int .i64 g, .int .i64 (-1)]) ∧ Below w.heap.size w w' := by
  go_enter Try.func57, Try.ntmps57
  go_wp2
  exact bodyPost_ret (v := .agg #[.int .i64 0, .int .i64 t, .int .i64 g, .int .i64 (-1)]) (by simp [results, Try.results57, go_sem]) rfl ⟨rfl, belN1⟩
set_option maxRecDepth 100000 in
set_option maxHeartbeats 2000000 in
theorem ahead_any (x y : Al) (w : World) : Calls Try.prog 56 #[.agg #[.int .i64 x.k, .int .i64 x.t, .int .i64 x.a, .int .i64 x.b], .agg #[.int .i64 y.k, .int .i64 y.t, .int .i64 y.a, .int .i64 y.b]] w fun e w' => e = .returned (.bool (ahB x y)) ∧ Below w.heap.size w w' := by
  obtain ⟨xk, xt, xa, xb⟩ := x
  obtain ⟨yk, yt, ya, yb⟩ := y
  dsimp only
  by_cases h1 : xk = yk
  · have g1 : (xk != yk) = false := by simp [h1]
    by_cases h2 : xa < ya
    · have e : ahB ⟨xk, xt, xa, xb⟩ ⟨yk, yt, ya, yb⟩ = true := by simp [ahB, h1, h2]
      rw [e]
      clear h1 e
      go_enter Try.func56, Try.ntmps56
      go_wp2
      go_ret
      exact ⟨rfl, belA⟩
    · by_cases h3 : xa = ya
      · have e : ahB ⟨xk, xt, xa, xb⟩ ⟨yk, yt, ya, yb⟩ = decide (xb < yb) := by simp [ahB, h1, h3]
        have g2 : ¬ ya < ya := by omega
        have g3 : (ya == ya) = true := by simp
        rw [e]
        clear h1 e h2
        subst h3
        go_enter Try.func56, Try.ntmps56
        go_wp2
        go_ret
        exact ⟨rfl, belA⟩
      · have g3 : (xa == ya) = false := beq_eq_false_iff_ne.2 h3
        have e : ahB ⟨xk, xt, xa, xb⟩ ⟨yk, yt, ya, yb⟩ = false := by simp [ahB, h1, h2, h3]
        have h2' : ya ≤ xa := by omega
        rw [e]
        clear h1 e h3
        go_enter Try.func56, Try.ntmps56
        go_wp2
        go_ret
        exact ⟨rfl, belA⟩
  · have g1 : (xk != yk) = true := by simpa using h1
    have e : ahB ⟨xk, xt, xa, xb⟩ ⟨yk, yt, ya, yb⟩ = decide (xk < yk) := by simp [ahB, h1]
    rw [e]
    clear h1 e
    go_enter Try.func56, Try.ntmps56
    go_wp2
    go_ret
    exact ⟨rfl, belA⟩

set_option maxRecDepth 100000 in
set_option maxHeartbeats 2000000 in
theorem least_any (x y : Al) (w : World) : Calls Try.prog 44 #[.agg #[.int .i64 x.k, .int .i64 x.t, .int .i64 x.a, .int .i64 x.b], .agg #[.int .i64 y.k, .int .i64 y.t, .int .i64 y.a, .int .i64 y.b]] w fun e w' => e = .returned (.agg #[.int .i64 (leF x y).k, .int .i64 (leF x y).t, .int .i64 (leF x y).a, .int .i64 (leF x y).b]) ∧ Below w.heap.size w w' := by
  have h56 := fun W => ahead_any y x W
  have eL : leF x y = if x.k = 0 ∨ (y.k ≠ 0 ∧ ahB y x = true) then y else x := rfl
  rw [eL]
  clear eL
  generalize ahB y x = A at *
  have H1 : Has (((w.alloc (.cells #[.int .i64 x.k, .int .i64 x.t, .int .i64 x.a, .int .i64 x.b] 43)).alloc (.cells #[.int .i64 y.k, .int .i64 y.t, .int .i64 y.a, .int .i64 y.b] 43)).alloc (.cells #[.int .i64 0, .int .i64 0, .int .i64 0, .int .i64 0] 43)) w.heap.size #[.int .i64 x.k, .int .i64 x.t, .int .i64 x.a, .int .i64 x.b] := ((Has.new _ _ _ rfl).alloc _).alloc _
  have H2 : Has (((w.alloc (.cells #[.int .i64 x.k, .int .i64 x.t, .int .i64 x.a, .int .i64 x.b] 43)).alloc (.cells #[.int .i64 y.k, .int .i64 y.t, .int .i64 y.a, .int .i64 y.b] 43)).alloc (.cells #[.int .i64 0, .int .i64 0, .int .i64 0, .int .i64 0] 43)) (w.heap.size + 1) #[.int .i64 y.k, .int .i64 y.t, .int .i64 y.a, .int .i64 y.b] := (Has.new _ _ _ (by simp)).alloc _
  have H3 : Has (((w.alloc (.cells #[.int .i64 x.k, .int .i64 x.t, .int .i64 x.a, .int .i64 x.b] 43)).alloc (.cells #[.int .i64 y.k, .int .i64 y.t, .int .i64 y.a, .int .i64 y.b] 43)).alloc (.cells #[.int .i64 0, .int .i64 0, .int .i64 0, .int .i64 0] 43)) (w.heap.size + 2) #[.int .i64 0, .int .i64 0, .int .i64 0, .int .i64 0] := Has.new _ _ _ (by simp)
  have HB : Below w.heap.size w (((w.alloc (.cells #[.int .i64 x.k, .int .i64 x.t, .int .i64 x.a, .int .i64 x.b] 43)).alloc (.cells #[.int .i64 y.k, .int .i64 y.t, .int .i64 y.a, .int .i64 y.b] 43)).alloc (.cells #[.int .i64 0, .int .i64 0, .int .i64 0, .int .i64 0] 43)) := bel3
  by_cases hx : x.k = 0
  · rw [if_pos (.inl hx)]
    have g1 : (x.k == 0) = true := by simp [hx]
    clear hx
    go_enter Try.func44, Try.ntmps44
    go_upto_region 1 with fail
    generalize (((w.alloc (.cells #[.int .i64 x.k, .int .i64 x.t, .int .i64 x.a, .int .i64 x.b] 43)).alloc (.cells #[.int .i64 y.k, .int .i64 y.t, .int .i64 y.a, .int .i64 y.b] 43)).alloc (.cells #[.int .i64 0, .int .i64 0, .int .i64 0, .int .i64 0] 43)) = V at *
    obtain ⟨_, i1, _⟩ := id H1
    obtain ⟨_, i2, _⟩ := id H2
    obtain ⟨_, i3, f3⟩ := id H3
    go_wp2_with (go_at_call 56; (with_reducible refine Calls.mono (h56 _) ?_); rintro e w1 ⟨rfl, hb⟩; replace H1 := H1.below hb; replace H2 := H2.below hb; replace H3 := H3.below hb; replace HB := HB.trans (hb.mono HB.size); clear hb i1 i2 i3 f3; obtain ⟨_, i1, _⟩ := id H1; obtain ⟨_, i2, _⟩ := id H2; obtain ⟨_, i3, f3⟩ := id H3)
    exact bodyPost_ret (v := .agg #[.int .i64 y.k, .int .i64 y.t, .int .i64 y.a, .int .i64 y.b]) (by simp [results, Try.results44, go_sem, i3]) rfl ⟨rfl, (((HB.setCell (p := ⟨w.heap.size + 2, 0, none⟩) (by show w.heap.size ≤ w.heap.size + 2; omega) _).setCell (p := ⟨w.heap.size + 2, 1, none⟩) (by show w.heap.size ≤ w.heap.size + 2; omega) _).setCell (p := ⟨w.heap.size + 2, 2, none⟩) (by show w.heap.size ≤ w.heap.size + 2; omega) _).setCell (p := ⟨w.heap.size + 2, 3, none⟩) (by show w.heap.size ≤ w.heap.size + 2; omega) _⟩
  · have g1 : (x.k == 0) = false := beq_eq_false_iff_ne.2 hx
    by_cases hy : y.k = 0
    · rw [if_neg (by simp [hx, hy])]
      have g2 : (y.k != 0) = false := by simp [hy]
      clear hx hy
      go_enter Try.func44, Try.ntmps44
      go_upto_region 1 with fail
      generalize (((w.alloc (.cells #[.int .i64 x.k, .int .i64 x.t, .int .i64 x.a, .int .i64 x.b] 43)).alloc (.cells #[.int .i64 y.k, .int .i64 y.t, .int .i64 y.a, .int .i64 y.b] 43)).alloc (.cells #[.int .i64 0, .int .i64 0, .int .i64 0, .int .i64 0] 43)) = V at *
      obtain ⟨_, i1, _⟩ := id H1
      obtain ⟨_, i2, _⟩ := id H2
      obtain ⟨_, i3, f3⟩ := id H3
      go_wp2_with (go_at_call 56; (with_reducible refine Calls.mono (h56 _) ?_); rintro e w1 ⟨rfl, hb⟩; replace H1 := H1.below hb; replace H2 := H2.below hb; replace H3 := H3.below hb; replace HB := HB.trans (hb.mono HB.size); clear hb i1 i2 i3 f3; obtain ⟨_, i1, _⟩ := id H1; obtain ⟨_, i2, _⟩ := id H2; obtain ⟨_, i3, f3⟩ := id H3)
      exact bodyPost_ret (v := .agg #[.int .i64 x.k, .int .i64 x.t, .int .i64 x.a, .int .i64 x.b]) (by simp [results, Try.results44, go_sem, i3]) rfl ⟨rfl, (((HB.setCell (p := ⟨w.heap.size + 2, 0, none⟩) (by show w.heap.size ≤ w.heap.size + 2; omega) _).setCell (p := ⟨w.heap.size + 2, 1, none⟩) (by show w.heap.size ≤ w.heap.size + 2; omega) _).setCell (p := ⟨w.heap.size + 2, 2, none⟩) (by show w.heap.size ≤ w.heap.size + 2; omega) _).setCell (p := ⟨w.heap.size + 2, 3, none⟩) (by show w.heap.size ≤ w.heap.size + 2; omega) _⟩
    · have g2 : (y.k != 0) = true := by simpa using hy
      cases A with
      | true =>
        rw [if_pos (.inr ⟨hy, rfl⟩)]
        clear hx hy
        go_enter Try.func44, Try.ntmps44
        go_upto_region 1 with fail
        generalize (((w.alloc (.cells #[.int .i64 x.k, .int .i64 x.t, .int .i64 x.a, .int .i64 x.b] 43)).alloc (.cells #[.int .i64 y.k, .int .i64 y.t, .int .i64 y.a, .int .i64 y.b] 43)).alloc (.cells #[.int .i64 0, .int .i64 0, .int .i64 0, .int .i64 0] 43)) = V at *
        obtain ⟨_, i1, _⟩ := id H1
        obtain ⟨_, i2, _⟩ := id H2
        obtain ⟨_, i3, f3⟩ := id H3
        go_wp2_with (go_at_call 56; (with_reducible refine Calls.mono (h56 _) ?_); rintro e w1 ⟨rfl, hb⟩; replace H1 := H1.below hb; replace H2 := H2.below hb; replace H3 := H3.below hb; replace HB := HB.trans (hb.mono HB.size); clear hb i1 i2 i3 f3; obtain ⟨_, i1, _⟩ := id H1; obtain ⟨_, i2, _⟩ := id H2; obtain ⟨_, i3, f3⟩ := id H3)
        exact bodyPost_ret (v := .agg #[.int .i64 y.k, .int .i64 y.t, .int .i64 y.a, .int .i64 y.b]) (by simp [results, Try.results44, go_sem, i3]) rfl ⟨rfl, (((HB.setCell (p := ⟨w.heap.size + 2, 0, none⟩) (by show w.heap.size ≤ w.heap.size + 2; omega) _).setCell (p := ⟨w.heap.size + 2, 1, none⟩) (by show w.heap.size ≤ w.heap.size + 2; omega) _).setCell (p := ⟨w.heap.size + 2, 2, none⟩) (by show w.heap.size ≤ w.heap.size + 2; omega) _).setCell (p := ⟨w.heap.size + 2, 3, none⟩) (by show w.heap.size ≤ w.heap.size + 2; omega) _⟩
      | false =>
        rw [if_neg (by simp [hx])]
        clear hx hy
        go_enter Try.func44, Try.ntmps44
        go_upto_region 1 with fail
        generalize (((w.alloc (.cells #[.int .i64 x.k, .int .i64 x.t, .int .i64 x.a, .int .i64 x.b] 43)).alloc (.cells #[.int .i64 y.k, .int .i64 y.t, .int .i64 y.a, .int .i64 y.b] 43)).alloc (.cells #[.int .i64 0, .int .i64 0, .int .i64 0, .int .i64 0] 43)) = V at *
        obtain ⟨_, i1, _⟩ := id H1
        obtain ⟨_, i2, _⟩ := id H2
        obtain ⟨_, i3, f3⟩ := id H3
        go_wp2_with (go_at_call 56; (with_reducible refine Calls.mono (h56 _) ?_); rintro e w1 ⟨rfl, hb⟩; replace H1 := H1.below hb; replace H2 := H2.below hb; replace H3 := H3.below hb; replace HB := HB.trans (hb.mono HB.size); clear hb i1 i2 i3 f3; obtain ⟨_, i1, _⟩ := id H1; obtain ⟨_, i2, _⟩ := id H2; obtain ⟨_, i3, f3⟩ := id H3)
        exact bodyPost_ret (v := .agg #[.int .i64 x.k, .int .i64 x.t, .int .i64 x.a, .int .i64 x.b]) (by simp [results, Try.results44, go_sem, i3]) rfl ⟨rfl, (((HB.setCell (p := ⟨w.heap.size + 2, 0, none⟩) (by show w.heap.size ≤ w.heap.size + 2; omega) _).setCell (p := ⟨w.heap.size + 2, 1, none⟩) (by show w.heap.size ≤ w.heap.size + 2; omega) _).setCell (p := ⟨w.heap.size + 2, 2, none⟩) (by show w.heap.size ≤ w.heap.size + 2; omega) _).setCell (p := ⟨w.heap.size + 2, 3, none⟩) (by show w.heap.size ≤ w.heap.size + 2; omega) _⟩

set_option maxRecDepth 100000 in
set_option maxHeartbeats 2000000 in
theorem wrong_any (n : Nat) (s : ByteArray) (w : World) (hn : n ≤ 64) : Calls Try.prog 43 #[.string s, .int .i64 (n : Int)] w fun e w' => e = .returned (.int .i64 (wrF n s)) ∧ w' = w := by
  by_cases hs : s.size = n
  · have e : wrF n s = wrL s 0 n := by unfold wrF; rw [if_pos hs]
    rw [e]
    clear e
    generalize hZ : wrL s 0 n = Z
    have hZ' : Hid (wrL s 0 n = Z) := hZ
    clear hZ
    have hs2 : ((s.size : Int) != (n : Int)) = false := by simp [hs]
    have hs' : Hid (s.size = n) := hs
    clear hs
    go_enter Try.func43, Try.ntmps43
    go_wp2
    go_loopg [5] n (fun gk v wr => ∃ k : Nat, k + gk = n ∧ v = .int .i64 (k : Int) ∧ wr = w ∧ Hid (wrL s k gk = Z))
    case atStart => exact ⟨0, by omega, rfl, rfl, hZ'⟩
    case round =>
      obtain ⟨k, hk, rfl, rfl, hx⟩ := hrel
      cases gk with
      | zero =>
        have eZ : -2 = Z := hx.out
        obtain rfl : k = n := by omega
        subst eZ
        clear hZ' hx
        go_wp2
        go_ret
        exact ⟨rfl, rfl⟩
      | succ g =>
        have hkn : k < n := by omega
        have hks : k < s.size := by have := hs'.out; omega
        have hksi : (k : Int) < s.size := by omega
        have hl := ltr_get s k hks
        have hx' : Hid ((if letB ((s[k]'hks).toNat : Int) then wrL s (k + 1) g else (k : Int)) = Z) := by rw [hl]; exact hx.out
        have rd : ∀ c : Int, c = ((s[k]'hks).toNat : Int) → True := fun _ _ => trivial
        generalize hc : ((s[k]'hks).toNat : Int) = c at *
        by_cases h1 : c = 114 ∨ c = 108 ∨ c = 103 ∨ c = 97
        · have eL : letB c = true := by unfold letB; simp; omega
          have hx2 : Hid (wrL s (k + 1) g = Z) := by have := hx'.out; rwa [if_pos eL] at this
          clear hx' hx eL rd hl
          rcases h1 with rfl | rfl | rfl | rfl
          all_goals
            go_wp2
            go_roundg g
            case measure => omega
            case rel => exact ⟨k + 1, by omega, by push_cast; rfl, rfl, hx2⟩
        · have eL : ¬ letB c = true := by unfold letB; simp; omega
          have hx2 : (k : Int) = Z := by have := hx'.out; rwa [if_neg eL] at this
          have n1 : (c != 114) = true := by simp; omega
          have n2 : (c != 108) = true := by simp; omega
          have n3 : (c != 103) = true := by simp; omega
          have n4 : (c != 97) = true := by simp; omega
          subst hx2
          clear hx' hx eL rd hl hZ' h1
          go_wp2
          go_ret
          exact ⟨rfl, rfl⟩
  · have e : wrF n s = -1 := by unfold wrF; rw [if_neg hs]
    rw [e]
    have hs2 : ((s.size : Int) != (n : Int)) = true := by simpa using (fun h : (s.size : Int) = (n : Int) => hs (by omega))
    go_enter Try.func43, Try.ntmps43
    go_wp2
    go_ret
    exact ⟨rfl, rfl⟩
end Go.Proofs.Ytoaokpmnjppfcaa
