import Derived.Test.YtfmdlcfkfglnhaaDoorTyP
namespace Go.Proofs.YtfmdlcfkfglnhaaDoor
open Go.RowKit
set_option linter.unusedVariables false

theorem fr_below {B : Nat} {a w w' : World} (h : Below B a w) (hB : B ≤ w.heap.size) (h2 : Below w.heap.size w w') : Below B a w' := bel_after h hB h2
set_option maxRecDepth 100000 in
set_option maxHeartbeats 8000000 in
theorem typeOf_any (S : List Sy) (L : List Nd) (b n0 : Nat) (vn : Value) (w : World) (hM : MpS w b n0 S) (hN : Nds w vn L) (hf : fEx L = true) (hs : ∀ (i : Nat) (h : i < L.length), L[i].name.size ≤ maxLen) :
    Calls Tryd.prog 13 #[.agg #[.map (some b), .slice none 0 0, .slice none 0 0], vn] w fun e w' => e = .returned (tyV (tyF S [] L)) ∧ Below w.heap.size w w' := by
  have hb1 : Below w.heap.size w ((w.alloc (.cells #[.map (some b), .slice none 0 0, .slice none 0 0] 68)).alloc (.cells #[.int .i64 0, .int .i64 0, .int .i64 0] 50)) := ((Below.refl _ _).alloc (Nat.le_refl _) _).alloc (by simp) _
  have kO := typeOver_any S L b n0 (.slice none 0 0) (.slice none 0 0) vn ((w.alloc (.cells #[.map (some b), .slice none 0 0, .slice none 0 0] 68)).alloc (.cells #[.int .i64 0, .int .i64 0, .int .i64 0] 50)) (hM.below hb1 hM.lt) (hN.below hb1) hf hs
  have K : Has ((w.alloc (.cells #[.map (some b), .slice none 0 0, .slice none 0 0] 68)).alloc (.cells #[.int .i64 0, .int .i64 0, .int .i64 0] 50)) (w.heap.size + 1) #[.int .i64 0, .int .i64 0, .int .i64 0] := Has.new _ _ _ (by simp)
  have hmf : ∀ (fn : Fn) (first cap : Array Value) (w : World), (Instr.makeFunc fn first cap).run Tryd.prog w = .ok (.func fn first cap) w := fun _ _ _ _ => rfl
  obtain ⟨na, nc, rfl, -⟩ := hN
  generalize tyF S [] L = A at *
  obtain ⟨At, Ac, Al, Ak⟩ := A
  simp only [tyV] at *
  go_enter Tryd.func13, Tryd.ntmps13
  go_wp2_with (go_at_call 21; (with_reducible refine Calls.mono kO ?_); rintro e w2 ⟨rfl, h2⟩; have hb2 := bel_after hb1 hb1.size h2; have K2 := K.below h2; obtain ⟨_, q1, q2⟩ := id K2)
  obtain ⟨y0, Y1, y2⟩ := K2.set3 (.int .i64 Ac) (.int .i64 Al) (.int .i64 Ak)
  exact bodyPost_ret (v := .tuple #[.int .i64 At, .agg #[.int .i64 Ac, .int .i64 Al, .int .i64 Ak]]) (by simp [results, Tryd.results13, go_sem, Y1]) rfl ⟨rfl, bel3 hb2 (by omega) _ _ _⟩
set_option maxRecDepth 100000 in
set_option maxHeartbeats 8000000 in
theorem typeC_any (S : List Sy) (L : List Nd) (vs vn : Value) (w : World) (hS : Sys w vs S) (hl : S.length ≤ 1048576) (hsS : ∀ (i : Nat) (h : i < S.length), S[i].name.size ≤ maxLen) (hN : Nds w vn L) (hlN : L.length ≤ 2932031007317) (hse : SmE L) (hs : ∀ (i : Nat) (h : i < L.length), L[i].name.size ≤ maxLen) (t : Tb w) :
    Calls Tryd.prog 6 #[vs, vn] w fun e w' => e = .returned (tyV (tyA S L)) ∧ Below w.heap.size w w' := by
  have kF := fun (X : World) (hX : Below w.heap.size w X) => expr_any L vn X (hN.below hX) hlN hse (t.below hX)
  have hb0 : Below w.heap.size w (w.alloc (.cells #[.int .i64 0, .int .i64 0, .int .i64 0] 50)) := bel1 _
  have K0 : Has (w.alloc (.cells #[.int .i64 0, .int .i64 0, .int .i64 0] 50)) w.heap.size #[.int .i64 0, .int .i64 0, .int .i64 0] := Has.new _ _ _ rfl
  unfold tyA
  cases hf : fEx L with
  | false =>
    rw [hf] at kF
    simp only [Bool.false_eq_true, if_false]
    obtain ⟨na, nc, rfl, -⟩ := hN
    go_enter Tryd.func6, Tryd.ntmps6
    go_wp2_with (go_at_call 11; (with_reducible refine Calls.mono (kF _ (by exact hb0)) ?_); rintro e w1 ⟨rfl, h1⟩; have hb1 := bel_after hb0 hb0.size h1; have K1 := K0.below h1; obtain ⟨_, q1, q2⟩ := id K1)
    obtain ⟨y0, Y1, y2⟩ := K1.set3 (.int .i64 33) (.int .i64 0) (.int .i64 0)
    exact bodyPost_ret (v := .tuple #[.int .i64 0, .agg #[.int .i64 33, .int .i64 0, .int .i64 0]]) (by simp [results, Tryd.results6, go_sem, Y1]) rfl ⟨rfl, bel3 hb1 (Nat.le_refl _) _ _ _⟩
  | true =>
    rw [hf] at kF
    rw [if_pos rfl]
    have kS := fun (X : World) (hX : Below w.heap.size w X) => scope_any S vs X (hS.below hX) hl hsS
    have kT := fun (b : Nat) (X : World) (hX : Below w.heap.size w X) (hM : MpS X b S.length S) => typeOf_any S L b S.length vn X hM (hN.below hX) hf hs
    obtain ⟨na, nc, rfl, -⟩ := hN
    obtain ⟨sa, sc, rfl, -⟩ := hS
    generalize tyF S [] L = A at *
    obtain ⟨At, Ac, Al, Ak⟩ := A
    simp only [tyV] at *
    go_enter Tryd.func6, Tryd.ntmps6
    go_wp2_with fail
    go_at_call 11
    refine Calls.mono (kF _ (by exact hb0)) ?_
    rintro e w1 ⟨rfl, h1⟩
    have hb1 := bel_after hb0 hb0.size h1
    have K1 := K0.below h1
    go_wp2_with fail
    go_at_call 12
    refine Calls.mono (kS _ (by exact hb1)) ?_
    rintro e w2 ⟨⟨b, rfl, hM, hbb⟩, h2⟩
    have hb2 := bel_after hb1 hb1.size h2
    have K2 := (K1.below h2).alloc (.cells #[.map (some b), .slice none 0 0, .slice none 0 0] 68)
    have hb3 := hb2.alloc hb2.size (.cells #[.map (some b), .slice none 0 0, .slice none 0 0] 68)
    have kT' := kT b _ hb3 (hM.below (bel1 _) hM.lt)
    clear kF kS kT K0 K1 h1
    go_wp2_with fail
    go_at_call 13
    refine Calls.mono kT' ?_
    rintro e w4 ⟨rfl, h4⟩
    have hb4 := bel_after hb3 hb3.size h4
    have K4 := K2.below h4
    obtain ⟨_, q1, q2⟩ := id K4
    go_wp2_with fail
    obtain ⟨y0, Y1, y2⟩ := K4.set3 (.int .i64 Ac) (.int .i64 Al) (.int .i64 Ak)
    exact bodyPost_ret (v := .tuple #[.int .i64 At, .agg #[.int .i64 Ac, .int .i64 Al, .int .i64 Ak]]) (by simp [results, Tryd.results6, go_sem, Y1]) rfl ⟨rfl, bel3 hb4 (Nat.le_refl _) _ _ _⟩
end Go.Proofs.YtfmdlcfkfglnhaaDoor
