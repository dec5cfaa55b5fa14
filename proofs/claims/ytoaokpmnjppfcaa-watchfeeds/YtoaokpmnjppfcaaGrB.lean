import Derived.Test.YtoaokpmnjppfcaaGrA
namespace Go.Proofs.Ytoaokpmnjppfcaa
open Go.RowKit
set_option linter.unusedVariables false


set_option maxRecDepth 100000 in
theorem soundConflict_any (n : Nat) (a b ab ba : Int) (w : World) : Calls Try.prog 29 #[.agg #[.int .i64 a, .int .i64 b, .int .i64 ab, .int .i64 ba], .int .i64 (n : Int)] w fun e w' => e = .returned (.bool (cfB n ⟨a, b, ab, ba⟩)) ∧ Below w.heap.size w w' := by
  have hT := fun (W : World) => isTime_any ab W
  have hA := fun (W : World) => isTime_any ba W
  by_cases h1 : 0 ≤ a
  · by_cases h2 : a < b
    · by_cases h3 : b < (n : Int)
      · cases h4 : timeB ab with
        | false =>
          rw [h4] at hT
          have eR : cfB n ⟨a, b, ab, ba⟩ = false := by simp [cfB, h1, h2, h3, h4]
          go_enter Try.func29, Try.ntmps29
          go_wp2_with (first | (go_at_call 39; (with_reducible refine Calls.mono (hT _) ?_); rintro e w2 ⟨rfl, rfl⟩) | (go_at_call 39; (with_reducible refine Calls.mono (hA _) ?_); rintro e w2 ⟨rfl, rfl⟩))
          go_ret
          exact ⟨by first | rfl | exact ret_bool eR.symm, belN1⟩
        | true =>
          rw [h4] at hT
          cases h5 : timeB ba with
          | false =>
            rw [h5] at hA
            have eR : cfB n ⟨a, b, ab, ba⟩ = false := by simp [cfB, h1, h2, h3, h4, h5]
            go_enter Try.func29, Try.ntmps29
            go_wp2_with (first | (go_at_call 39; (with_reducible refine Calls.mono (hT _) ?_); rintro e w2 ⟨rfl, rfl⟩) | (go_at_call 39; (with_reducible refine Calls.mono (hA _) ?_); rintro e w2 ⟨rfl, rfl⟩))
            go_ret
            exact ⟨by first | rfl | exact ret_bool eR.symm, belN1⟩
          | true =>
            rw [h5] at hA
            have eR : cfB n ⟨a, b, ab, ba⟩ = true := by simp [cfB, h1, h2, h3, h4, h5]
            go_enter Try.func29, Try.ntmps29
            go_wp2_with (first | (go_at_call 39; (with_reducible refine Calls.mono (hT _) ?_); rintro e w2 ⟨rfl, rfl⟩) | (go_at_call 39; (with_reducible refine Calls.mono (hA _) ?_); rintro e w2 ⟨rfl, rfl⟩))
            go_ret
            exact ⟨by first | rfl | exact ret_bool eR.symm, belN1⟩
      · clear hT hA
        have eR : cfB n ⟨a, b, ab, ba⟩ = false := by simp [cfB, h3]
        go_enter Try.func29, Try.ntmps29
        go_wp2_with (first | (go_at_call 39; (with_reducible refine Calls.mono (hT _) ?_); rintro e w2 ⟨rfl, rfl⟩) | (go_at_call 39; (with_reducible refine Calls.mono (hA _) ?_); rintro e w2 ⟨rfl, rfl⟩))
        go_ret
        exact ⟨by first | rfl | exact ret_bool eR.symm, belN1⟩
    · clear hT hA
      have eR : cfB n ⟨a, b, ab, ba⟩ = false := by simp [cfB, h2]
      go_enter Try.func29, Try.ntmps29
      go_wp2_with (first | (go_at_call 39; (with_reducible refine Calls.mono (hT _) ?_); rintro e w2 ⟨rfl, rfl⟩) | (go_at_call 39; (with_reducible refine Calls.mono (hA _) ?_); rintro e w2 ⟨rfl, rfl⟩))
      go_ret
      exact ⟨by first | rfl | exact ret_bool eR.symm, belN1⟩
  · clear hT hA
    have eR : cfB n ⟨a, b, ab, ba⟩ = false := by simp [cfB, h1]
    go_enter Try.func29, Try.ntmps29
    go_wp2_with (first | (go_at_call 39; (with_reducible refine Calls.mono (hT _) ?_); rintro e w2 ⟨rfl, rfl⟩) | (go_at_call 39; (with_reducible refine Calls.mono (hA _) ?_); rintro e w2 ⟨rfl, rfl⟩))
    go_ret
    exact ⟨by first | rfl | exact ret_bool eR.symm, belN1⟩

set_option maxRecDepth 100000 in
theorem or_any (x y : Int) (b : Nat) (w : World) (h0 : w.cell? ⟨b, 0, none⟩ = some (.int .i64 x)) (h1 : w.cell? ⟨b, 1, none⟩ = some (.int .i64 y)) :
    Calls Try.prog 41 #[.slice (some ⟨b, 0, none⟩) 2 2] w fun e w' => e = .returned (.int .i64 (if x = 0 then y else x)) ∧ w' = w := by
  generalize hA : (if x = 0 then y else x) = A
  go_enter Try.func41, Try.ntmps41
  go_wp2
  go_loop [8] (fun t => ∃ k : Nat, k ≤ 2 ∧ t = .int .i64 (k : Int) ∧ Hid (1 ≤ k → x = 0) ∧ Hid (2 ≤ k → y = 0)) (fun t => 2 - (intOf t).toNat)
  case atStart => exact ⟨0, by omega, rfl, fun h => by omega, fun h => by omega⟩
  case round =>
    obtain ⟨k, hk, rfl, hx, hy⟩ := hrel
    match k, hk with
    | 0, _ =>
      by_cases ex : x = 0
      · subst ex
        go_wp2
        go_roundw
        case rel => exact ⟨1, by omega, by go_num, fun _ => by first | rfl | trivial, fun h => by omega⟩
        case measure => simp [intOf]
      · have e : x = A := by rw [← hA, if_neg ex]
        have ex' : (x != 0) = true := by simpa using ex
        go_wp2
        go_ret
        exact ⟨by first | rfl | exact ret_int e, rfl⟩
    | 1, _ =>
      have x0 : x = 0 := hx.out (by omega)
      subst x0
      by_cases ey : y = 0
      · subst ey
        go_wp2
        go_roundw
        case rel => exact ⟨2, by omega, by go_num, fun _ => by first | rfl | trivial, fun _ => by first | rfl | trivial⟩
        case measure => simp [intOf]
      · have e : y = A := by rw [← hA, if_pos rfl]
        have ey' : (y != 0) = true := by simpa using ey
        go_wp2
        go_ret
        exact ⟨by first | rfl | exact ret_int e, rfl⟩
    | 2, _ =>
      have x0 : x = 0 := hx.out (by omega)
      have y0 : y = 0 := hy.out (by omega)
      subst x0 y0
      have e : 0 = A := by rw [← hA, if_pos rfl]
      go_wp2
      go_ret
      exact ⟨by first | rfl | exact ret_int e, rfl⟩
theorem has44 {W : World} {b b' : Nat} {x0 x1 x2 x3 y0 y1 y2 y3 : Value} (h : Has W b #[x0, x1, x2, x3]) (h' : Has W b' #[y0, y1, y2, y3]) : W.cell? ⟨b, 0, none⟩ = some x0 ∧ W.cell? ⟨b, 1, none⟩ = some x1 ∧ W.cell? ⟨b', 0, none⟩ = some y0 ∧ W.cell? ⟨b', 1, none⟩ = some y1 := ⟨h.2.1 0, h.2.1 1, h'.2.1 0, h'.2.1 1⟩
theorem wrap64 (z : Int) (h : -9223372036854775808 ≤ z ∧ z ≤ 9223372036854775807) : IntKind.i64.wrap z = z := by
  simp [IntKind.wrap, IntKind.bits, IntKind.signed]
  omega
def cmpP (c d : Cf) : Int := if cmpI c.a d.a = 0 then cmpI c.b d.b else cmpI c.a d.a
theorem cmpP_ord (c d : Cf) : decide (cmpP c d ≥ 0) = !ordB c d := by
  unfold cmpP cmpI ordB
  by_cases h1 : c.a < d.a
  · simp [h1]
  · by_cases h2 : d.a < c.a
    · have : ¬ c.a = d.a := by omega
      simp [h1, h2, this]
    · have : c.a = d.a := by omega
      by_cases h3 : c.b < d.b
      · simp [this, h3]
      · by_cases h4 : d.b < c.b <;> simp [this, h3, h4]
set_option maxRecDepth 100000 in
set_option maxHeartbeats 4000000 in
theorem comparePairs_any (c d : Cf) (w : World) : Calls Try.prog 30 #[.agg #[.int .i64 c.a, .int .i64 c.b, .int .i64 c.ab, .int .i64 c.ba], .agg #[.int .i64 d.a, .int .i64 d.b, .int .i64 d.ab, .int .i64 d.ba]] w fun e w' => e = .returned (.int .i64 (cmpP c d)) ∧ Below w.heap.size w w' := by
  have h1 := fun (W : World) => compare_any c.a d.a W
  have h2 := fun (W : World) => compare_any c.b d.b W
  have h3 := fun (b : Nat) (W : World) => or_any (cmpI c.a d.a) (cmpI c.b d.b) b W
  unfold cmpP
  generalize cmpI c.a d.a = x at *
  generalize cmpI c.b d.b = y at *
  generalize (if x = 0 then y else x) = z at *
  generalize c.a = ca at *
  generalize c.b = cb at *
  generalize d.a = da at *
  generalize d.b = db at *
  go_enter Try.func30, Try.ntmps30
  go_wp2
  have HB : Below w.heap.size w ((w.alloc (.cells #[.int .i64 ca, .int .i64 cb, .int .i64 c.ab, .int .i64 c.ba] 68)).alloc (.cells #[.int .i64 da, .int .i64 db, .int .i64 d.ab, .int .i64 d.ba] 68)) := belA
  have H1 : Has ((w.alloc (.cells #[.int .i64 ca, .int .i64 cb, .int .i64 c.ab, .int .i64 c.ba] 68)).alloc (.cells #[.int .i64 da, .int .i64 db, .int .i64 d.ab, .int .i64 d.ba] 68)) w.heap.size #[.int .i64 ca, .int .i64 cb, .int .i64 c.ab, .int .i64 c.ba] := (Has.new _ _ _ rfl).alloc _
  have H2 : Has ((w.alloc (.cells #[.int .i64 ca, .int .i64 cb, .int .i64 c.ab, .int .i64 c.ba] 68)).alloc (.cells #[.int .i64 da, .int .i64 db, .int .i64 d.ab, .int .i64 d.ba] 68)) (w.heap.size + 1) #[.int .i64 da, .int .i64 db, .int .i64 d.ab, .int .i64 d.ba] := Has.new _ _ _ (by simp)
  generalize ((w.alloc (.cells #[.int .i64 ca, .int .i64 cb, .int .i64 c.ab, .int .i64 c.ba] 68)).alloc (.cells #[.int .i64 da, .int .i64 db, .int .i64 d.ab, .int .i64 d.ba] 68)) = W0 at *
  obtain ⟨_, i1, _⟩ := id H1
  obtain ⟨_, i2, _⟩ := id H2
  go_region_held3 (fun w' => w'.cell? ⟨w.heap.size, 0, none⟩ = some (.int .i64 ca) ∧ w'.cell? ⟨w.heap.size, 1, none⟩ = some (.int .i64 cb) ∧ w'.cell? ⟨w.heap.size + 1, 0, none⟩ = some (.int .i64 da) ∧ w'.cell? ⟨w.heap.size + 1, 1, none⟩ = some (.int .i64 db)) (first | with_reducible exact has44 H1 H2 | with_reducible exact has44 H1.drew H2.drew | with_reducible exact has44 (H1.alloc _).drew (H2.alloc _).drew | with_reducible exact has44 (H1.drew.alloc _) (H2.drew.alloc _) | go_keep) (first
    | (go_at_call 42; (with_reducible refine Calls.mono (h1 _) ?_); rintro e w2 ⟨rfl, rfl⟩)
    | (go_at_call 42; (with_reducible refine Calls.mono (h2 _) ?_); rintro e w2 ⟨rfl, rfl⟩)
    | (go_at_call 41; (with_reducible refine Calls.mono (h3 _ _ (by simp) (by simp)) ?_); rintro e w2 ⟨rfl, rfl⟩))
  go_wp2
  go_ret
  exact ⟨rfl, (HB.alloc HB.size _).drew⟩
end Go.Proofs.Ytoaokpmnjppfcaa
