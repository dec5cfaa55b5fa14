import Derived.Test.YtoaokpmnjppfcaaWaA
namespace Go.Proofs.Ytoaokpmnjppfcaa
open Go.RowKit
set_option linter.unusedVariables false
set_option linter.unusedSimpArgs false

theorem has44x {W : World} {b b' : Nat} {x0 x1 x2 x3 y0 y1 y2 y3 : Value} (h : Has W b #[x0, x1, x2, x3]) (h' : Has W b' #[y0, y1, y2, y3]) : (W.cell? ⟨b, 0, none⟩ = some x0 ∧ W.cell? ⟨b, 1, none⟩ = some x1 ∧ W.cell? ⟨b, 2, none⟩ = some x2 ∧ W.cell? ⟨b, 3, none⟩ = some x3) ∧ W.cell? ⟨b', 0, none⟩ = some y0 ∧ W.cell? ⟨b', 1, none⟩ = some y1 ∧ W.cell? ⟨b', 2, none⟩ = some y2 ∧ W.cell? ⟨b', 3, none⟩ = some y3 := ⟨⟨h.2.1 0, h.2.1 1, h.2.1 2, h.2.1 3⟩, h'.2.1 0, h'.2.1 1, h'.2.1 2, h'.2.1 3⟩
theorem or4_any (x y z u : Int) (b : Nat) (w : World) (h0 : w.cell? ⟨b, 0, none⟩ = some (.int .i64 x)) (h1 : w.cell? ⟨b, 1, none⟩ = some (.int .i64 y)) (h2 : w.cell? ⟨b, 2, none⟩ = some (.int .i64 z)) (h3 : w.cell? ⟨b, 3, none⟩ = some (.int .i64 u)) :
    Calls Try.prog 41 #[.slice (some ⟨b, 0, none⟩) 4 4] w fun e w' => e = .returned (.int .i64 (orL [x, y, z, u])) ∧ w' = w :=
  orN_any [x, y, z, u] b w (by simp) (fun i hi => by
    match i, hi with
    | 0, _ => exact h0
    | 1, _ => exact h1
    | 2, _ => exact h2
    | 3, _ => exact h3)

set_option maxRecDepth 100000 in
set_option maxHeartbeats 4000000 in
theorem inOrder_any (c d : Al) (w : World) : Calls Try.prog 35 #[.agg #[.int .i64 c.k, .int .i64 c.t, .int .i64 c.a, .int .i64 c.b], .agg #[.int .i64 d.k, .int .i64 d.t, .int .i64 d.a, .int .i64 d.b]] w fun e w' => e = .returned (.int .i64 (inoF c d)) ∧ Below w.heap.size w w' := by
  have h1 := fun (W : World) => compare_any c.t d.t W
  have h2 := fun (W : World) => compare_any c.k d.k W
  have h3 := fun (W : World) => compare_any c.a d.a W
  have h4 := fun (W : World) => compare_any c.b d.b W
  have h5 := fun (b : Nat) (W : World) => or4_any (cmpI c.t d.t) (cmpI c.k d.k) (cmpI c.a d.a) (cmpI c.b d.b) b W
  have e0 : inoF c d = orL [cmpI c.t d.t, cmpI c.k d.k, cmpI c.a d.a, cmpI c.b d.b] := rfl
  rw [e0]
  clear e0
  generalize cmpI c.t d.t = x at *
  generalize cmpI c.k d.k = y at *
  generalize cmpI c.a d.a = z at *
  generalize cmpI c.b d.b = u at *
  generalize orL [x, y, z, u] = R at *
  obtain ⟨ck, ct, ca, cb⟩ := c
  obtain ⟨dk, dt, da, db⟩ := d
  dsimp only at *
  go_enter Try.func35, Try.ntmps35
  go_wp2
  have HB : Below w.heap.size w ((w.alloc (.cells #[.int .i64 ck, .int .i64 ct, .int .i64 ca, .int .i64 cb] 43)).alloc (.cells #[.int .i64 dk, .int .i64 dt, .int .i64 da, .int .i64 db] 43)) := belA
  have H1 : Has ((w.alloc (.cells #[.int .i64 ck, .int .i64 ct, .int .i64 ca, .int .i64 cb] 43)).alloc (.cells #[.int .i64 dk, .int .i64 dt, .int .i64 da, .int .i64 db] 43)) w.heap.size #[.int .i64 ck, .int .i64 ct, .int .i64 ca, .int .i64 cb] := (Has.new _ _ _ rfl).alloc _
  have H2 : Has ((w.alloc (.cells #[.int .i64 ck, .int .i64 ct, .int .i64 ca, .int .i64 cb] 43)).alloc (.cells #[.int .i64 dk, .int .i64 dt, .int .i64 da, .int .i64 db] 43)) (w.heap.size + 1) #[.int .i64 dk, .int .i64 dt, .int .i64 da, .int .i64 db] := Has.new _ _ _ (by simp)
  generalize ((w.alloc (.cells #[.int .i64 ck, .int .i64 ct, .int .i64 ca, .int .i64 cb] 43)).alloc (.cells #[.int .i64 dk, .int .i64 dt, .int .i64 da, .int .i64 db] 43)) = W0 at *
  obtain ⟨_, i1, _⟩ := id H1
  obtain ⟨_, i2, _⟩ := id H2
  go_region_held3 (fun w' => (w'.cell? ⟨w.heap.size, 0, none⟩ = some (.int .i64 ck) ∧ w'.cell? ⟨w.heap.size, 1, none⟩ = some (.int .i64 ct) ∧ w'.cell? ⟨w.heap.size, 2, none⟩ = some (.int .i64 ca) ∧ w'.cell? ⟨w.heap.size, 3, none⟩ = some (.int .i64 cb)) ∧ w'.cell? ⟨w.heap.size + 1, 0, none⟩ = some (.int .i64 dk) ∧ w'.cell? ⟨w.heap.size + 1, 1, none⟩ = some (.int .i64 dt) ∧ w'.cell? ⟨w.heap.size + 1, 2, none⟩ = some (.int .i64 da) ∧ w'.cell? ⟨w.heap.size + 1, 3, none⟩ = some (.int .i64 db)) (first | with_reducible exact has44x H1 H2 | with_reducible exact has44x H1.drew H2.drew | with_reducible exact has44x (H1.alloc _).drew (H2.alloc _).drew | with_reducible exact has44x (H1.drew.alloc _) (H2.drew.alloc _) | go_keep) (first
    | (go_at_call 42; (with_reducible refine Calls.mono (h1 _) ?_); rintro e w2 ⟨rfl, rfl⟩)
    | (go_at_call 42; (with_reducible refine Calls.mono (h2 _) ?_); rintro e w2 ⟨rfl, rfl⟩)
    | (go_at_call 42; (with_reducible refine Calls.mono (h3 _) ?_); rintro e w2 ⟨rfl, rfl⟩)
    | (go_at_call 42; (with_reducible refine Calls.mono (h4 _) ?_); rintro e w2 ⟨rfl, rfl⟩)
    | (go_at_call 41; (with_reducible refine Calls.mono (h5 _ _ (by simp) (by simp) (by simp) (by simp)) ?_); rintro e w2 ⟨rfl, rfl⟩))
  go_wp2
  go_ret
  exact ⟨rfl, (HB.alloc HB.size _).drew⟩

set_option maxRecDepth 100000 in
set_option maxHeartbeats 4000000 in
theorem Has.set4x {w : World} {b : Nat} {y0 y1 y2 y3 : Value} (h : Has w b #[y0, y1, y2, y3]) (x0 x1 x2 x3 : Value) : Has ((((w.setCell ⟨b, 0, none⟩ x0).setCell ⟨b, 1, none⟩ x1).setCell ⟨b, 2, none⟩ x2).setCell ⟨b, 3, none⟩ x3) b #[x0, x1, x2, x3] := by
  have := (((h.set 0 (by simp) x0).set 1 (by simp) x1).set 2 (by simp) x2).set 3 (by simp) x3
  simpa using this
set_option maxRecDepth 100000 in
set_option maxHeartbeats 4000000 in
theorem raise_any (x a : Al) (F : Nat) (w : World) (hF : Has w F #[.int .i64 x.k, .int .i64 x.t, .int .i64 x.a, .int .i64 x.b]) :
    Calls Try.prog 34 #[.agg #[.int .i64 a.k, .int .i64 a.t, .int .i64 a.a, .int .i64 a.b], .pointer (some ⟨F, 0, none⟩)] w fun e w' => e = .returned (.tuple #[]) ∧ Has w' F #[.int .i64 (rsF x a).k, .int .i64 (rsF x a).t, .int .i64 (rsF x a).a, .int .i64 (rsF x a).b] ∧ Only (fun q => q = F) w w' := by
  have h25 := fun (W : World) => isAlarm_any x.k x.t x.a x.b W
  have h35 := fun (W : World) => inOrder_any a x W
  have er : rsF x a = if x.k = 0 ∨ inoF a x < 0 then a else x := rfl
  generalize rsF x a = R at *
  generalize inoF a x = I at *
  have hA : Has (w.alloc (.cells #[.int .i64 a.k, .int .i64 a.t, .int .i64 a.a, .int .i64 a.b] 43)) F #[.int .i64 x.k, .int .i64 x.t, .int .i64 x.a, .int .i64 x.b] := hF.alloc _
  have hB : Has (w.alloc (.cells #[.int .i64 a.k, .int .i64 a.t, .int .i64 a.a, .int .i64 a.b] 43)) w.heap.size #[.int .i64 a.k, .int .i64 a.t, .int .i64 a.a, .int .i64 a.b] := Has.new _ _ _ rfl
  have hO : Only (fun q => q = F) w (w.alloc (.cells #[.int .i64 a.k, .int .i64 a.t, .int .i64 a.a, .int .i64 a.b] 43)) := (Only.refl _ _).alloc _
  have hne : F ≠ w.heap.size := by have := hF.1; omega
  obtain ⟨xk, xt, xa, xb⟩ := x
  obtain ⟨ak, at', aa, ab⟩ := a
  dsimp only at *
  clear hF
  by_cases hk : xk = 0
  · subst hk
    have eR : R = ⟨ak, at', aa, ab⟩ := by rw [er, if_pos (.inl rfl)]
    subst eR
    clear er
    dsimp only
    go_enter Try.func34, Try.ntmps34
    go_upto_region 1 with fail
    generalize (w.alloc (.cells #[.int .i64 ak, .int .i64 at', .int .i64 aa, .int .i64 ab] 43)) = W0 at *
    obtain ⟨_, i1, _⟩ := id hA
    obtain ⟨_, i2, _⟩ := id hB
    go_wp2_with (go_at_call 25; (with_reducible refine Calls.mono (h25 _) ?_); rintro e w1 ⟨rfl, hb1⟩; have hA1 := hA.below hb1; have hB1 := hB.below hb1; have hO1 := hO.below hb1; clear hA hB hO i1 i2; obtain ⟨_, j1, f1⟩ := id hA1; obtain ⟨_, j2, _⟩ := id hB1)
    refine ⟨rfl, .tuple #[], ?_, rfl, hA1.set4x _ _ _ _, hO1.trans ((only4 _ _ _ _ _ _))⟩
    simp [results, Try.results34, go_sem]
  · have hd : decide (xk = 0) = false := by simp [hk]
    rw [hd] at h25
    by_cases hI : I < 0
    · have eR : R = ⟨ak, at', aa, ab⟩ := by rw [er, if_pos (.inr hI)]
      subst eR
      clear er
      dsimp only
      have hI' : decide (I < 0) = true := by simp [hI]
      go_enter Try.func34, Try.ntmps34
      go_upto_region 1 with fail
      generalize (w.alloc (.cells #[.int .i64 ak, .int .i64 at', .int .i64 aa, .int .i64 ab] 43)) = W0 at *
      obtain ⟨_, i1, _⟩ := id hA
      obtain ⟨_, i2, _⟩ := id hB

      go_wp2_with (first | (go_at_call 25; (with_reducible refine Calls.mono (h25 _) ?_); rintro e w1 ⟨rfl, hb1⟩; have hA1 := hA.below hb1; have hB1 := hB.below hb1; have hO1 := hO.below hb1; clear hA hB hO i1 i2; obtain ⟨_, j1, f1⟩ := id hA1; obtain ⟨_, j2, _⟩ := id hB1) | (go_at_call 35; (with_reducible refine Calls.mono (h35 _) ?_); rintro e w2 ⟨rfl, hb2⟩; have hA2 := hA1.below hb2; have hB2 := hB1.below hb2; have hO2 := hO1.below hb2; clear hA1 hB1 hO1 j1 j2; obtain ⟨_, l1, f2⟩ := id hA2; obtain ⟨_, l2, _⟩ := id hB2))
      refine ⟨rfl, .tuple #[], ?_, rfl, hA2.set4x _ _ _ _, hO2.trans ((only4 _ _ _ _ _ _))⟩
      simp [results, Try.results34, go_sem]
    · have eR : R = ⟨xk, xt, xa, xb⟩ := by rw [er, if_neg (by simp [hk, hI])]
      subst eR
      clear er
      dsimp only
      have hI' : decide (I < 0) = false := by simp [hI]
      go_enter Try.func34, Try.ntmps34
      go_upto_region 1 with fail
      generalize (w.alloc (.cells #[.int .i64 ak, .int .i64 at', .int .i64 aa, .int .i64 ab] 43)) = W0 at *
      obtain ⟨_, i1, _⟩ := id hA
      obtain ⟨_, i2, _⟩ := id hB

      go_wp2_with (first | (go_at_call 25; (with_reducible refine Calls.mono (h25 _) ?_); rintro e w1 ⟨rfl, hb1⟩; have hA1 := hA.below hb1; have hB1 := hB.below hb1; have hO1 := hO.below hb1; clear hA hB hO i1 i2; obtain ⟨_, j1, f1⟩ := id hA1; obtain ⟨_, j2, _⟩ := id hB1) | (go_at_call 35; (with_reducible refine Calls.mono (h35 _) ?_); rintro e w2 ⟨rfl, hb2⟩; have hA2 := hA1.below hb2; have hB2 := hB1.below hb2; have hO2 := hO1.below hb2; clear hA1 hB1 hO1 j1 j2; obtain ⟨_, l1, f2⟩ := id hA2; obtain ⟨_, l2, _⟩ := id hB2))
      refine ⟨rfl, .tuple #[], ?_, rfl, hA2, hO2⟩
      simp [results, Try.results34, go_sem]
end Go.Proofs.Ytoaokpmnjppfcaa
