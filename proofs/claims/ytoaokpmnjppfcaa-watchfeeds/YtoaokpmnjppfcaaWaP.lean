import Derived.Test.YtoaokpmnjppfcaaWaO
namespace Go.Proofs.Ytoaokpmnjppfcaa
open Go.RowKit
set_option linter.unusedVariables false
set_option linter.unusedSimpArgs false

theorem Has.set37 {w : World} {b : Nat} {x0 x1 x2 x3 x4 x5 x6 x7 x8 : Value} (h : Has w b #[x0, x1, x2, x3, x4, x5, x6, x7, x8]) (y3 y4 y5 y6 y7 : Value) : Has (((((w.setCell ⟨b, 3, none⟩ y3).setCell ⟨b, 4, none⟩ y4).setCell ⟨b, 5, none⟩ y5).setCell ⟨b, 6, none⟩ y6).setCell ⟨b, 7, none⟩ y7) b #[x0, x1, x2, y3, y4, y5, y6, y7, x8] := by
  have := ((((h.set 3 (by simp) y3).set 4 (by simp) y4).set 5 (by simp) y5).set 6 (by simp) y6).set 7 (by simp) y7
  simpa using this
theorem Has.set3' {w : World} {b : Nat} {x0 x1 x2 x3 x4 x5 x6 x7 x8 : Value} (h : Has w b #[x0, x1, x2, x3, x4, x5, x6, x7, x8]) (y3 : Value) : Has (w.setCell ⟨b, 3, none⟩ y3) b #[x0, x1, x2, y3, x4, x5, x6, x7, x8] := by
  have := h.set 3 (by simp) y3
  simpa using this
theorem Has.set47 {w : World} {b : Nat} {x0 x1 x2 x3 x4 x5 x6 x7 x8 : Value} (h : Has w b #[x0, x1, x2, x3, x4, x5, x6, x7, x8]) (y4 y5 y6 y7 : Value) : Has ((((w.setCell ⟨b, 4, none⟩ y4).setCell ⟨b, 5, none⟩ y5).setCell ⟨b, 6, none⟩ y6).setCell ⟨b, 7, none⟩ y7) b #[x0, x1, x2, x3, y4, y5, y6, y7, x8] := by
  have := (((h.set 4 (by simp) y4).set 5 (by simp) y5).set 6 (by simp) y6).set 7 (by simp) y7
  simpa using this
theorem Has.set8' {w : World} {b : Nat} {x0 x1 x2 x3 x4 x5 x6 x7 x8 : Value} (h : Has w b #[x0, x1, x2, x3, x4, x5, x6, x7, x8]) (y8 : Value) : Has (w.setCell ⟨b, 8, none⟩ y8) b #[x0, x1, x2, x3, x4, x5, x6, x7, y8] := by
  have := h.set 8 (by simp) y8
  simpa using this
theorem Mo.logne {w : World} {lo lb gl b B : Nat} {vg vc vl : Value} {R : List Gr} {C : List Cf} {f : Nat → Lm} {tk : Int} {tr : Al} {L : List Al} (h : Mo w lo lb gl b B vg vc vl R C f tk tr L) : ∀ q, vl.ownBlock = some q → q ≠ b ∧ q ≠ B ∧ lb ≤ q := fun q hq => by
  have h1 := (own_lt h.lg q hq).1
  have := h.b2; have := h.B2; have := h.l1
  exact ⟨by omega, by omega, by omega⟩
/-- A monitor behind a step of its own. -/
theorem Mo.step {w w' : World} {lo lb gl b B : Nat} {vg vc vl : Value} {R : List Gr} {C : List Cf} {f : Nat → Lm} {tk : Int} {tr : Al} {L : List Al} {vl' : Value} {f' : Nat → Lm} {tk' : Int} {tr' : Al} {L' : List Al} (h : Mo w lo lb gl b B vg vc vl R C f tk tr L) (ho : Only (fun q => q = b ∨ q = B ∨ vl.ownBlock = some q) w w') (hob : Has w' b #[vg, vc, .slice (some ⟨B, 0, none⟩) R.length R.length, .int .i64 tk', .int .i64 tr'.k, .int .i64 tr'.t, .int .i64 tr'.a, .int .i64 tr'.b, vl']) (hlm : Has w' B (rwA Lm.cs R.length f')) (hlg : w'.ownsRow gl 43 4 vl' L'.length (cellsF Al.cs L')) : Mo w' lo lb gl b B vg vc vl' R C f' tk' tr' L' :=
  ⟨h.bB, h.b1, h.b2, h.B1, h.B2, h.l1, Nat.le_trans h.l2 ho.size, hob, hlm, h.gr.move ho (fun q h1 h2 h3 h4 hq => by
    rcases hq with hq | hq | hq
    · exact h3 hq
    · exact h4 hq
    · have := (h.logne q hq).2.2; omega), h.cf.move ho (fun q h1 h2 h3 h4 hq => by
    rcases hq with hq | hq | hq
    · exact h3 hq
    · exact h4 hq
    · have := (h.logne q hq).2.2; omega), hlg⟩
theorem only_b {w w' : World} {lo lb gl b B : Nat} {vg vc vl : Value} {R : List Gr} {C : List Cf} {f : Nat → Lm} {tk : Int} {tr : Al} {L : List Al} (h : Mo w lo lb gl b B vg vc vl R C f tk tr L) (ho : Only (fun q => q = b) w w') : Only (fun q => q = b ∨ q = B ∨ vl.ownBlock = some q) w w' := ho.mono (fun q e => .inl e)
set_option maxRecDepth 100000 in
set_option maxHeartbeats 2000000 in
theorem reset_any {w : World} {lo lb gl b B : Nat} {vg vc vl : Value} {R : List Gr} {C : List Cf} {f : Nat → Lm} {tk : Int} {tr : Al} {L : List Al} (h : Mo w lo lb gl b B vg vc vl R C f tk tr L) : Calls Try.prog 17 #[.pointer (some ⟨b, 0, none⟩)] w fun e w' => e = .returned (.bool (!decide (tr.k = 0))) ∧ (tr.k = 0 → Below w.heap.size w w') ∧ (tr.k ≠ 0 → Mo w' lo lb gl b B vg vc vl R C (fun _ => lm0) 0 al0 L) ∧ Only (fun q => q = b ∨ q = B ∨ vl.ownBlock = some q) w w' := by
  have h25 := fun W => isAlarm_any tr.k tr.t tr.a tr.b W
  obtain ⟨⟨x1, x2, x3, e1⟩, ⟨y1, y2, y3, e2⟩, z1, z2, e3⟩ := h.vs
  have hM : Hid (Mo w lo lb gl b B vg vc vl R C f tk tr L) := h
  obtain ⟨_, i1, f1⟩ := id h.ob
  by_cases hk : tr.k = 0
  · have hd : decide (tr.k = 0) = true := by simp [hk]
    have hk' : Hid (tr.k = 0) := hk
    rw [hd] at h25 ⊢
    clear hd hk
    subst e1 e2 e3
    clear h
    obtain ⟨k0, t0, a0, b0⟩ := tr
    dsimp only at *
    generalize R.length = n at *
    go_enter Try.func17, Try.ntmps17
    go_wp2_with (go_at_call 25; (with_reducible refine Calls.mono (h25 _) ?_); rintro e w1 ⟨rfl, hb⟩)
    go_ret
    exact ⟨rfl, fun _ => hb, fun e => absurd hk'.out e, Only.of_below hb⟩
  · have hd : decide (tr.k = 0) = false := by simp [hk]
    have hk' : Hid (tr.k ≠ 0) := hk
    rw [hd] at h25 ⊢
    clear hd hk
    subst e1 e2 e3
    clear h
    obtain ⟨k0, t0, a0, b0⟩ := tr
    dsimp only at *
    obtain ⟨n, hn⟩ : ∃ n, R.length = n := ⟨_, rfl⟩
    have hn' : Hid (R.length = n) := hn
    rw [hn] at i1
    clear hn
    have h25' : ∀ W, Calls Try.prog 25 #[.agg #[.int .i64 k0, .int .i64 t0, .int .i64 a0, .int .i64 b0]] W fun e w' => e = .returned (.bool true) ∧ Below W.heap.size W w' := h25
    go_enter Try.func17, Try.ntmps17
    go_upto_region 4 with (go_at_call 25; (with_reducible refine Calls.mono (h25' _) ?_); rintro e w1 ⟨rfl, hb⟩; have hM1 : Hid (Mo w1 _ _ _ _ _ _ _ _ _ _ _ _ _ _) := hM.out.below hb; clear i1 f1; obtain ⟨_, i1, f1⟩ := id hM1.out.ob; rw [hn'.out] at i1)
    have hM2 := hM1.out
    have O5 : Has (((((w1.setCell ⟨b, 3, none⟩ (.int .i64 0)).setCell ⟨b, 4, none⟩ (.int .i64 0)).setCell ⟨b, 5, none⟩ (.int .i64 0)).setCell ⟨b, 6, none⟩ (.int .i64 0)).setCell ⟨b, 7, none⟩ (.int .i64 0)) b _ := hM2.ob.set37 (.int .i64 0) (.int .i64 0) (.int .i64 0) (.int .i64 0) (.int .i64 0)
    have P5 : Only (fun q => q = b) w1 (((((w1.setCell ⟨b, 3, none⟩ (.int .i64 0)).setCell ⟨b, 4, none⟩ (.int .i64 0)).setCell ⟨b, 5, none⟩ (.int .i64 0)).setCell ⟨b, 6, none⟩ (.int .i64 0)).setCell ⟨b, 7, none⟩ (.int .i64 0)) := ((((only_of_set _ b _ _).trans (only_of_set _ b _ _)).trans (only_of_set _ b _ _)).trans (only_of_set _ b _ _)).trans (only_of_set _ b _ _)
    clear i1 f1 hM hM1 h25 h25'
    generalize (((((w1.setCell ⟨b, 3, none⟩ (.int .i64 0)).setCell ⟨b, 4, none⟩ (.int .i64 0)).setCell ⟨b, 5, none⟩ (.int .i64 0)).setCell ⟨b, 6, none⟩ (.int .i64 0)).setCell ⟨b, 7, none⟩ (.int .i64 0)) = W5 at *
    have L5 := hM2.lm.only P5 (Ne.symm hM2.bB)
    obtain ⟨w2, hcl, c1, c2⟩ := run_clear_rw W5 B R.length f 0 L5
    obtain ⟨_, i1, _⟩ := id O5
    rw [hn'.out] at i1 hcl
    have bB := hM2.bB
    have hO : Only (fun q => q = b ∨ q = B ∨ (Value.slice z1 L.length z2).ownBlock = some q) w1 w2 := (P5.mono (fun q e => .inl e)).trans (c2.mono (fun q e => .inr (.inl e)))
    have hfin : Mo w2 lo lb gl b B (.slice x1 x2 x3) (.slice y1 y2 y3) (.slice z1 L.length z2) R C (fun _ => lm0) 0 al0 L := hM2.step hO (O5.only c2 bB) c1 (own_only2 (own_only2 hM2.lg P5 (fun q hq e => (hM2.logne q hq).1 e)) c2 (fun q hq e => (hM2.logne q hq).2.1 e))
    have hO2 := (Only.of_below hb).trans hO
    clear hM2 O5 P5 L5 c1 c2 hO
    go_wp2
    go_ret
    exact ⟨rfl, fun e => absurd e hk'.out, fun _ => hfin, hO2⟩
end Go.Proofs.Ytoaokpmnjppfcaa
