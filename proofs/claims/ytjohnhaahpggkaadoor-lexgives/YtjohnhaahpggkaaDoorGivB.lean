import Derived.Test.YtjohnhaahpggkaaDoorGivA
import Derived.Test.YtjohnhaahpggkaaDoorSclW
import Derived.Sort.QuietIn
namespace Go.Proofs.YtjohnhaahpggkaaDoor
open Go.RowKit Go.Shelf
set_option linter.unusedVariables false

attribute [local go_sem] Oper.semAt_some
theorem fn_nil (f : Fn) (a b : Array Value) (w : World) : (binOp .eql 31 (.func f a b) .nilFunc).run Tryd.prog w = .ok (.bool false) w := rfl
attribute [local go_sem] fn_nil

/-- What stands between two rounds: n tokens have been counted. -/
structure GvI (w0 : World) (M g cap : Nat) (stop : Int) (L : List Tok) (n : Nat) (W : World) : Prop where
  stp : Has W w0.heap.size #[.int .i64 stop]
  res : Has W (w0.heap.size + 1) #[.bool false]
  ml : Has W M #[.slice (some ⟨g, 0, none⟩) L.length cap]
  cnt : Has W (M + 1 + 1) #[.int .i64 n]
  row : W.ownsRow w0.heap.size 36 5 (.slice (some ⟨g, 0, none⟩) L.length cap) L.length (cellsOf L)
  bel : Below w0.heap.size w0 W
  glt : g < M
  plt : w0.heap.size + 2 ≤ M
theorem GvI.only {w0 : World} {M g cap n : Nat} {stop : Int} {L : List Tok} {A C : World} {S : Nat → Prop} (h : GvI w0 M g cap stop L n A) (ho : Only S A C) (hS : ∀ k, k < M + 3 → ¬ S k) : GvI w0 M g cap stop L n C := by
  have h1 := h.glt
  have h2 := h.plt
  have h3 := h.bel.size
  have h4 := h.cnt.1
  exact ⟨h.stp.only ho (hS _ (by omega)), h.res.only ho (hS _ (by omega)), h.ml.only ho (hS _ (by omega)), h.cnt.only ho (hS _ (by omega)),
    ⟨h.row.1, h.row.2.imp id (fun ⟨g', cap', cur, e1, e2, e3, e4⟩ => ⟨g', cap', cur, e1, e2, (ho.block g' (Array.getElem?_eq_some_iff.1 e3).1 (hS _ (by cases e1; omega))).trans e3, e4⟩)⟩,
    h.bel.trans ⟨ho.os, ho.tape, ho.output, ho.size, fun k hk => ho.block k (by omega) (hS _ (by omega))⟩, h1, h2⟩
theorem GvI.count {w0 : World} {M g cap n : Nat} {stop : Int} {L : List Tok} {A : World} (h : GvI w0 M g cap stop L n A) (m : Nat) : GvI w0 M g cap stop L m (A.setCell ⟨M + 1 + 1, 0, none⟩ (.int .i64 m)) := by
  have h1 := h.glt
  have h2 := h.plt
  have ho : Only (fun k => k = M + 1 + 1) A (A.setCell ⟨M + 1 + 1, 0, none⟩ (.int .i64 m)) := (Only.refl (fun k => k = M + 1 + 1) A).set (b := M + 1 + 1) (i := 0) rfl _
  exact ⟨h.stp.far (by omega) _, h.res.far (by omega) _, h.ml.far (by omega) _, h.cnt.set 0 (by simp) _,
    ⟨h.row.1, h.row.2.imp id (fun ⟨g', cap', cur, e1, e2, e3, e4⟩ => ⟨g', cap', cur, e1, e2, (ho.block g' (Array.getElem?_eq_some_iff.1 e3).1 (by cases e1; omega)).trans e3, e4⟩)⟩,
    h.bel.setCell (by show w0.heap.size ≤ M + 1 + 1; omega) _, h1, h2⟩
theorem GvI.drew {w0 : World} {M g cap n : Nat} {stop : Int} {L : List Tok} {A : World} (h : GvI w0 M g cap stop L n A) : GvI w0 M g cap stop L n A.drew := h.only (Only.drew (Only.refl (fun _ => False) A)) (fun _ _ h => h)

theorem pre_lt {ts pre : List Tok} {x : Tok} (h : pre ++ [x] <+: ts) : ∃ h : pre.length < ts.length, ts[pre.length] = x := by
  obtain ⟨r, rfl⟩ := h
  exact ⟨by simp, by simp⟩

set_option maxRecDepth 100000 in
set_option maxHeartbeats 8000000 in
theorem gives_in (s : ByteArray) (stop : Int) (ts : List Tok) (z : Tok) (w0 : World) (hWh : Whole s ts z) (hW : Wt w0) (hlen : ts.length ≤ 65536) (hK : Kt w0) (hS : St w0) :
    CallsIn Fence.wide 3 Tryd.prog 4 #[.string s, .int .i64 stop] w0 fun e w' => e = .returned (.bool true) ∧ Below w0.heap.size w0 w' := by
  have hEa := fun w => each_any s w
  have hb0 : Below w0.heap.size w0 ((w0.alloc (.cells #[.int .i64 stop] 3)).alloc (.cells #[.bool false] 4)) := ((Below.refl _ _).alloc (Nat.le_refl _) _).alloc (by simp) _
  have hGi := given_any s ts z ((w0.alloc (.cells #[.int .i64 stop] 3)).alloc (.cells #[.bool false] 4)) hWh hlen (hK.below hb0 hK.1) (hS.below hb0 hS.1)
  have hp1 : Has ((w0.alloc (.cells #[.int .i64 stop] 3)).alloc (.cells #[.bool false] 4)) w0.heap.size #[.int .i64 stop] := (Has.new _ _ _ rfl).alloc _
  have hp2 : Has ((w0.alloc (.cells #[.int .i64 stop] 3)).alloc (.cells #[.bool false] 4)) (w0.heap.size + 1) #[.bool false] := Has.new _ _ _ (by simp)
  obtain ⟨L, hL⟩ : ∃ L, ts ++ [z] = L := ⟨_, rfl⟩
  rw [hL] at hGi
  have hLl : Hid (L.length = ts.length + 1) := by show L.length = ts.length + 1; rw [← hL]; simp
  refine callsIn_of_wp_marks Tryd.func4 rfl trivial ?_ rfl
  simp only [Tryd.ntmps4, List.size_toArray, List.length_cons, List.length_nil, Nat.reduceAdd, Nat.reduceSub, Array.replicate_succ, Array.replicate_zero, List.push_toArray, List.append_toArray, List.nil_append, List.cons_append]
  gi_wp2_with (first
    | (refine ⟨trivial, ?_⟩; gi_at_call 14; refine (callsIn_wide.2 hGi).mono ?_; rintro e w1 ⟨g, cap, rfl, hrow, hb1⟩)
    | (refine ⟨trivial, ?_⟩; gi_at_call 15; refine (callsIn_wide.2 (hEa _)).mono ?_; rintro e w2 ⟨rfl, rfl⟩))
  have hz1 : w0.heap.size + 2 ≤ w1.heap.size := by have := hb1.size; simp at this; omega
  have hg1 := own_lt hrow g rfl
  have hV : GvI w0 w1.heap.size g cap stop L 0 (((w1.alloc (.cells #[.slice (some ⟨g, 0, none⟩) L.length cap] 28)).alloc (.cells #[.string s] 9)).alloc (.cells #[.int .i64 0] 3)) :=
    ⟨(((hp1.below hb1).alloc _).alloc _).alloc _, (((hp2.below hb1).alloc _).alloc _).alloc _, ((Has.new _ _ _ rfl).alloc _).alloc _, Has.new _ _ _ (by simp),
     own_mono (((hrow.alloc _).alloc _).alloc _) (by simp; omega), (((hb0.trans (hb1.mono (by simp; omega))).alloc (by omega) _).alloc (by simp; omega) _).alloc (by simp; omega) _, by simp at hg1; omega, hz1⟩
  have hSb : Has (((w1.alloc (.cells #[.slice (some ⟨g, 0, none⟩) L.length cap] 28)).alloc (.cells #[.string s] 9)).alloc (.cells #[.int .i64 0] 3)) (w1.heap.size + 1) #[.string s] := (Has.new _ _ _ (by simp)).alloc _
  have hVs : (((w1.alloc (.cells #[.slice (some ⟨g, 0, none⟩) L.length cap] 28)).alloc (.cells #[.string s] 9)).alloc (.cells #[.int .i64 0] 3)).heap.size = w1.heap.size + 3 := by simp
  generalize (((w1.alloc (.cells #[.slice (some ⟨g, 0, none⟩) L.length cap] 28)).alloc (.cells #[.string s] 9)).alloc (.cells #[.int .i64 0] 3)) = V at hV hSb hVs ⊢
  have hW1 := hW.1
  have hVz : w1.heap.size + 3 ≤ V.heap.size := by omega
  clear hVs
  rename_i K hKK
  have tail : ∀ (W : World) (n : Nat), GvI w0 w1.heap.size g cap stop L n W → Has W (w1.heap.size + 1) #[.string s] → ((n : Int) = L.length ∨ (n : Int) = stop) → W.heap[V.heap.size]? = some (.deferred (some [])) → V.heap.size + 2 ≤ W.heap.size → K { tmps := #[.string s, .int .i64 stop, undef, .pointer (some ⟨w0.heap.size, 0, none⟩), .pointer (some ⟨w0.heap.size + 1, 0, none⟩), .pointer (some ⟨w1.heap.size, 0, none⟩), .func (.func 28) #[] #[.pointer (some ⟨w1.heap.size + 1, 0, none⟩)], .pointer (some ⟨w1.heap.size + 1 + 1, 0, none⟩), undef, undef, .string s, .slice (some ⟨g, 0, none⟩) L.length cap, .string s, .func (.func 28) #[] #[.pointer (some ⟨w1.heap.size + 1, 0, none⟩)], .func (.func 28) #[] #[.pointer (some ⟨w1.heap.size + 1, 0, none⟩)], .bool false, .func (.func 28) #[] #[.pointer (some ⟨w1.heap.size + 1, 0, none⟩)], undef, undef, undef, undef, undef, undef, undef, undef, undef, undef, undef, undef, undef, undef, undef, undef, undef, undef, undef, undef, undef, undef, undef, undef, undef, undef, undef, undef, undef, undef, undef, undef, undef, undef, undef, undef, undef, undef, undef, undef, undef, undef, undef, undef, undef, undef, undef], defers := [{ target := .collected V.heap.size, args := #[] }] } W := by
    intro W n hG hs hn hD hz
    obtain ⟨c0, C1, c2⟩ := id hG.stp
    obtain ⟨d0, D1, d2⟩ := id hG.ml
    obtain ⟨f0, F1, f2⟩ := id hG.cnt
    refine hKK _ _ ?_
    have hq : (decide (n = L.length) = true) ∨ (decide (n = L.length) = false ∧ (n : Int) = stop) := by
      by_cases h : n = L.length
      · left; simp [h]
      · right; exact ⟨by simp [h], hn.resolve_left (by omega)⟩
    rcases hq with hq | ⟨hq, hq2⟩
    case' inl =>
      have hq' : (n : Int) = (L.length : Int) := by simp at hq; omega
      gi_wp2
    case' inr =>
      have hq3 : ((n : Int) != stop) = false := by simp; exact hq2
      have hq4 : ((n : Int) != (L.length : Int)) = true := by simp at hq ⊢; omega
      gi_wp2
    all_goals
      have hG2 : GvI w0 w1.heap.size g cap stop L 0 (W.setCell ⟨w1.heap.size + 1 + 1, 0, none⟩ (.int .i64 0)) := hG.count 0
      have hs2 : Has (W.setCell ⟨w1.heap.size + 1 + 1, 0, none⟩ (.int .i64 0)) (w1.heap.size + 1) #[.string s] := hs.far (by omega) _
      have hD2 : (W.setCell ⟨w1.heap.size + 1 + 1, 0, none⟩ (.int .i64 0)).heap[V.heap.size]? = some (.deferred (some [])) := (Below.heap_setCell _ _ _ _ (by show V.heap.size ≠ w1.heap.size + 1 + 1; omega)).trans hD
      have hz2 : V.heap.size + 2 ≤ (W.setCell ⟨w1.heap.size + 1 + 1, 0, none⟩ (.int .i64 0)).heap.size := by simpa [World.setCell] using hz
      generalize (W.setCell ⟨w1.heap.size + 1 + 1, 0, none⟩ (.int .i64 0)) = U at hG2 hs2 hD2 hz2 ⊢
      clear hG hs hn hD hz C1 D1 F1 c2 d2 f2 c0 d0 f0 hb0 hp1 hp2 hrow hb1 hGi hV hSb
      refine range_tokens (s := s) (ts := ts) (z := z) (sb := w1.heap.size + 1) hWh (hW.below hG2.bel hW.1) hs2 rfl rfl (fun pre W => GvI w0 w1.heap.size g cap stop L pre.length W ∧ Has W (w1.heap.size + 1) #[.string s] ∧ (pre.length : Int) ≤ L.length ∧ W.heap[V.heap.size]? = some (.deferred (some [])))
        (fun c pre W => False)
        (fun pre x lo a₁ W => ∃ b, lo ≤ b ∧ GvI w0 w1.heap.size g cap stop L pre.length W ∧ Has W (w1.heap.size + 1) #[.string s] ∧ Has W b #[.int .i64 x.t.kind, .int .i32 x.t.num, .string (bs x.t.text), .int .i64 x.line, .int .i64 x.col] ∧ W.heap[V.heap.size]? = some (.deferred (some [])) ∧ V.heap.size < W.heap.size ∧ ∃ u1 u35 u36 u37 u38 u39 u40 u41 u42 u43, a₁ = { tmps := #[.string s, u1, undef, .pointer (some ⟨w0.heap.size, 0, none⟩), .pointer (some ⟨w0.heap.size + 1, 0, none⟩), .pointer (some ⟨w1.heap.size, 0, none⟩), .func (.func 28) #[] #[.pointer (some ⟨w1.heap.size + 1, 0, none⟩)], .pointer (some ⟨w1.heap.size + 1 + 1, 0, none⟩), undef, .pointer (some ⟨b, 0, none⟩), .string s, .slice (some ⟨g, 0, none⟩) L.length cap, .string s, .func (.func 28) #[] #[.pointer (some ⟨w1.heap.size + 1, 0, none⟩)], .func (.func 28) #[] #[.pointer (some ⟨w1.heap.size + 1, 0, none⟩)], .bool false, .func (.func 28) #[] #[.pointer (some ⟨w1.heap.size + 1, 0, none⟩)], undef, undef, undef, undef, undef, undef, undef, undef, undef, undef, undef, undef, undef, undef, undef, undef, undef, undef, u35, u36, u37, u38, u39, u40, u41, u42, u43, .func (.func 28) #[] #[.pointer (some ⟨w1.heap.size + 1, 0, none⟩)], x.v, undef, undef, undef, undef, undef, undef, undef, undef, undef, undef, undef, undef, undef, undef, undef, undef, undef, undef], defers := [] })
        ?hI ?hIx ?hAx ?h0 ?assign ?body ?done ?stop
      case hI =>
        rintro pre A B ⟨h1, h2, h3, h4⟩ ho
        exact ⟨h1.only ho (fun k hk => by unfold Rng; omega), h2.only ho (by unfold Rng; omega), h3, (ho.block _ (Array.getElem?_eq_some_iff.1 h4).1 (by unfold Rng; omega)).trans h4⟩
      case hIx => exact fun c pre A B h => h.elim
      case hAx =>
        rintro pre x lo a₁ A B ⟨b, h1, h2, h3, h4, h5, h6, h7⟩ hlo ho
        exact ⟨b, h1, h2.only ho (fun k hk => by omega), h3.only ho (by omega), h4.only ho (by omega), (ho.block _ h6 (by omega)).trans h5, by have := ho.size; omega, h7⟩
      case h0 => exact ⟨hG2, hs2, by simp, hD2⟩
      case assign =>
        rintro l pre ⟨⟨kk, nn, xx⟩, ln, cl⟩ W W' K ⟨h1, h2, h3, h4⟩ hb hlo hp hK
        have ev : Tok.v ⟨⟨kk, nn, xx⟩, ln, cl⟩ = .agg #[.int .i64 kk, .int .i32 nn, .string (bs xx), .int .i64 ln, .int .i64 cl] := rfl
        rw [ev]
        gi_wp2
        have hO := (Only.of_below (S := fun _ => False) hb).alloc (.cells #[.int .i64 kk, .int .i32 nn, .string (bs xx), .int .i64 ln, .int .i64 cl] 36)
        refine hK _ _ ⟨W'.heap.size, hb.size, h1.only hO (fun _ _ h => h), h2.only hO (fun h => h), Has.new _ _ _ rfl, (hO.block _ (by omega) (fun h => h)).trans h4, by have := hO.size; omega, _, _, _, _, _, _, _, _, _, _, rfl⟩ ((Below.refl _ _).alloc (Nat.le_refl _) _)
      case body =>
        rintro l pre ⟨⟨kk, nn, xx⟩, ln, cl⟩ lo a₁ W ⟨b, hlb, hG, hs, hb, hdf, hdl, u1, u35, u36, u37, u38, u39, u40, u41, u42, u43, rfl⟩ hp hlo hlg
        rw [hL] at hp
        obtain ⟨hplt, hpx⟩ := pre_lt hp
        obtain ⟨_, _, e1, hT⟩ := toks_own hG.row
        cases e1
        obtain ⟨g', e2, _, _, hT⟩ := hT.resolve_left (by intro h; rw [h] at hplt; simp at hplt)
        cases e2
        obtain ⟨p0, p1, p2, p3, p4⟩ := hT _ hplt
        rw [hpx] at p0 p1 p2 p3 p4
        dsimp only at p0 p1 p2 p3 p4
        obtain ⟨b0, B1, b2⟩ := id hb
        obtain ⟨d0, D1, d2⟩ := id hG.ml
        obtain ⟨f0, F1, f2⟩ := id hG.cnt
        have hfin1 : Hid (endPost (fun pre W => GvI w0 w1.heap.size g cap stop L pre.length W ∧ Has W (w1.heap.size + 1) #[.string s] ∧ (pre.length : Int) ≤ L.length ∧ W.heap[V.heap.size]? = some (.deferred (some [])))
            (fun c pre W => False) U.heap.size (w1.heap.size + 1) lo (pre ++ [⟨⟨kk, nn, xx⟩, ln, cl⟩]) W .normal ⟨#[], []⟩ (W.setCell ⟨w1.heap.size + 1 + 1, 0, none⟩ (.int .i64 ((pre.length : Int) + 1))).drew) := by
          refine ⟨⟨?_, fun k hk hlt => ?_⟩, ?_, ?_, ?_, ?_⟩
          · have : W.heap.size ≤ (W.setCell ⟨w1.heap.size + 1 + 1, 0, none⟩ (.int .i64 ((pre.length : Int) + 1))).heap.size := by simp [World.setCell]
            exact this
          · exact Below.heap_setCell _ _ _ _ (by
              show k ≠ w1.heap.size + 1 + 1
              rcases hk with h | h | h | h
              · omega
              · omega
              · unfold Rng at h; omega
              · omega)
          · have := (hG.count (pre.length + 1)).drew
            rw [List.length_append]
            exact this
          · exact (hs.far (by omega) _).drew
          · rw [List.length_append]; simp; omega
          · exact (Below.heap_setCell _ _ _ _ (by show V.heap.size ≠ w1.heap.size + 1 + 1; omega)).trans hdf
        have k9 : (pre.length : Int) ≤ 65537 := by have := hLl.out; omega
        have k1 : (pre.length : Int) < (L.length : Int) := by omega
        have k0 : (0 : Int) ≤ (pre.length : Int) := by omega
        generalize hpn : pre.length = n at *
        clear hT hpx hp hKK hEa hK hS hWh hW hs hb hG hG2 hs2 hD2 hdf hdl
        have kd : decide (L.length ≤ n) = false := by simp; omega
        gi_wp2
        gi_region_with (fail)
        all_goals
          gi_wp2
          exact hfin1.out
      case done =>
        rintro X ⟨h1, h2, h3, h4⟩ hD hz
        have hLL : (ts ++ [z]).length = L.length := by rw [hL]
        rw [hLL] at h1
        obtain ⟨d0, D1, d2⟩ := id h1.ml
        obtain ⟨f0, F1, f2⟩ := id h1.cnt
        obtain ⟨e0, E1, e2⟩ := id h1.res
        gi_wp2
        have hB1 : Below w0.heap.size w0 (X.setCell ⟨w0.heap.size + 1, 0, none⟩ (.bool true)) := h1.bel.setCell (by show w0.heap.size ≤ w0.heap.size + 1; omega) _
        have hR1 := h1.res.set 0 (by simp) (.bool true)
        have hO : Only (fun k => k = w0.heap.size + 1) X (X.setCell ⟨w0.heap.size + 1, 0, none⟩ (.bool true)) := (Only.refl (fun k => k = w0.heap.size + 1) X).set (b := w0.heap.size + 1) (i := 0) rfl _
        have hBs := h1.plt
        have hDu := (hO.block U.heap.size (by omega) (by omega)).trans hD
        have hDv := (hO.block V.heap.size (by omega) (by omega)).trans h4
        have hXz : U.heap.size + 2 ≤ (X.setCell ⟨w0.heap.size + 1, 0, none⟩ (.bool true)).heap.size := by have := hO.size; omega
        generalize (X.setCell ⟨w0.heap.size + 1, 0, none⟩ (.bool true)) = Y at hB1 hR1 hDu hDv hXz ⊢
        have hP1 : Only (fun k => k = U.heap.size) Y (Y.putObj U.heap.size (.deferred none)) := (Only.refl (fun k => k = U.heap.size) Y).put (r := U.heap.size) _ rfl
        have hDv1 := (hP1.block V.heap.size (by omega) (by omega)).trans hDv
        have hP2 : Only (fun k => k = V.heap.size) (Y.putObj U.heap.size (.deferred none)) ((Y.putObj U.heap.size (.deferred none)).putObj V.heap.size (.deferred none)) := (Only.refl (fun k => k = V.heap.size) _).put (r := V.heap.size) _ rfl
        have hF1 := (hR1.only hP1 (by omega)).only hP2 (by omega)
        obtain ⟨y0, Y1, y2⟩ := id hF1
        refine ⟨by simp, .inl ⟨_, _, rfl, run_takeDeferred hDu, ?_⟩⟩
        refine ⟨by simp, .inl ⟨_, _, rfl, run_takeDeferred hDv1, ?_⟩⟩
        refine ⟨.bool true, by simp [results, Tryd.results4, go_sem, Y1], rfl, ?_⟩
        have hq1 : Below w0.heap.size w0 (Y.putObj U.heap.size (.deferred none)) := hB1.trans ⟨rfl, rfl, rfl, by simp, fun k hk => hP1.block k (by omega) (by omega)⟩
        exact hq1.trans ⟨rfl, rfl, rfl, by simp, fun k hk => hP2.block k (by simp; omega) (by omega)⟩
      case stop => exact fun c pre W hp h => h.elim
  refine range_tokens (s := s) (ts := ts) (z := z) (sb := w1.heap.size + 1) hWh (hW.below hV.bel hW.1) hSb rfl rfl (fun pre W => GvI w0 w1.heap.size g cap stop L pre.length W ∧ Has W (w1.heap.size + 1) #[.string s] ∧ (pre.length : Int) ≤ L.length)
    (fun c pre W => c = .exit 0 ∧ ∃ n : Nat, GvI w0 w1.heap.size g cap stop L n W ∧ Has W (w1.heap.size + 1) #[.string s] ∧ (n : Int) = stop)
    (fun pre x lo a₁ W => ∃ b, lo ≤ b ∧ GvI w0 w1.heap.size g cap stop L pre.length W ∧ Has W (w1.heap.size + 1) #[.string s] ∧ Has W b #[.int .i64 x.t.kind, .int .i32 x.t.num, .string (bs x.t.text), .int .i64 x.line, .int .i64 x.col] ∧ a₁ = { tmps := #[.string s, .int .i64 stop, undef, .pointer (some ⟨w0.heap.size, 0, none⟩), .pointer (some ⟨w0.heap.size + 1, 0, none⟩), .pointer (some ⟨w1.heap.size, 0, none⟩), .func (.func 28) #[] #[.pointer (some ⟨w1.heap.size + 1, 0, none⟩)], .pointer (some ⟨w1.heap.size + 1 + 1, 0, none⟩), .pointer (some ⟨b, 0, none⟩), undef, .string s, .slice (some ⟨g, 0, none⟩) L.length cap, .string s, .func (.func 28) #[] #[.pointer (some ⟨w1.heap.size + 1, 0, none⟩)], .func (.func 28) #[] #[.pointer (some ⟨w1.heap.size + 1, 0, none⟩)], .bool false, .func (.func 28) #[] #[.pointer (some ⟨w1.heap.size + 1, 0, none⟩)], x.v, undef, undef, undef, undef, undef, undef, undef, undef, undef, undef, undef, undef, undef, undef, undef, undef, undef, undef, undef, undef, undef, undef, undef, undef, undef, undef, undef, undef, undef, undef, undef, undef, undef, undef, undef, undef, undef, undef, undef, undef, undef, undef, undef, undef, undef, undef], defers := [] })
    ?hI ?hIx ?hAx ?h0 ?assign ?body ?done ?stop
  case hI =>
    rintro pre A B ⟨h1, h2, h3⟩ ho
    exact ⟨h1.only ho (fun k hk => by unfold Rng; omega), h2.only ho (by unfold Rng; omega), h3⟩
  case hIx =>
    rintro c pre A B ⟨hc, n, h1, h2, h3⟩ ho
    exact ⟨hc, n, h1.only ho (fun k hk => by unfold Rng; omega), h2.only ho (by unfold Rng; omega), h3⟩
  case hAx =>
    rintro pre x lo a₁ A B ⟨b, h1, h2, h3, h4, h5⟩ hlo ho
    exact ⟨b, h1, h2.only ho (fun k hk => by omega), h3.only ho (by omega), h4.only ho (by omega), h5⟩
  case h0 => exact ⟨hV, hSb, by simp⟩
  case assign =>
    rintro l pre ⟨⟨kk, nn, xx⟩, ln, cl⟩ W W' K ⟨h1, h2, h3⟩ hb hlo hp hK
    have ev : Tok.v ⟨⟨kk, nn, xx⟩, ln, cl⟩ = .agg #[.int .i64 kk, .int .i32 nn, .string (bs xx), .int .i64 ln, .int .i64 cl] := rfl
    rw [ev]
    gi_wp2
    have hO := (Only.of_below (S := fun _ => False) hb).alloc (.cells #[.int .i64 kk, .int .i32 nn, .string (bs xx), .int .i64 ln, .int .i64 cl] 36)
    refine hK _ _ ⟨W'.heap.size, hb.size, h1.only hO (fun _ _ h => h), h2.only hO (fun h => h), Has.new _ _ _ rfl, rfl⟩ ((Below.refl _ _).alloc (Nat.le_refl _) _)
  case body =>
    rintro l pre ⟨⟨kk, nn, xx⟩, ln, cl⟩ lo a₁ W ⟨b, hlb, hG, hs, hb, rfl⟩ hp hlo hlg
    rw [hL] at hp
    obtain ⟨hplt, hpx⟩ := pre_lt hp
    obtain ⟨_, _, e1, hT⟩ := toks_own hG.row
    cases e1
    obtain ⟨g', e2, _, _, hT⟩ := hT.resolve_left (by intro h; rw [h] at hplt; simp at hplt)
    cases e2
    obtain ⟨p0, p1, p2, p3, p4⟩ := hT _ hplt
    rw [hpx] at p0 p1 p2 p3 p4
    dsimp only at p0 p1 p2 p3 p4
    obtain ⟨b0, B1, b2⟩ := id hb
    obtain ⟨c0, C1, c2⟩ := id hG.stp
    obtain ⟨d0, D1, d2⟩ := id hG.ml
    obtain ⟨f0, F1, f2⟩ := id hG.cnt
    have hfin1 : Hid (endPost (fun pre W => GvI w0 w1.heap.size g cap stop L pre.length W ∧ Has W (w1.heap.size + 1) #[.string s] ∧ (pre.length : Int) ≤ L.length)
        (fun c pre W => c = .exit 0 ∧ ∃ n : Nat, GvI w0 w1.heap.size g cap stop L n W ∧ Has W (w1.heap.size + 1) #[.string s] ∧ (n : Int) = stop) V.heap.size (w1.heap.size + 1) lo (pre ++ [⟨⟨kk, nn, xx⟩, ln, cl⟩]) W .normal ⟨#[], []⟩ (W.setCell ⟨w1.heap.size + 1 + 1, 0, none⟩ (.int .i64 ((pre.length : Int) + 1))).drew) := by
      refine ⟨⟨?_, fun k hk hlt => ?_⟩, ?_, ?_, ?_⟩
      · have : W.heap.size ≤ (W.setCell ⟨w1.heap.size + 1 + 1, 0, none⟩ (.int .i64 ((pre.length : Int) + 1))).heap.size := by simp [World.setCell]
        exact this
      · exact Below.heap_setCell _ _ _ _ (by
          show k ≠ w1.heap.size + 1 + 1
          rcases hk with h | h | h | h
          · omega
          · omega
          · unfold Rng at h; omega
          · omega)
      · have := (hG.count (pre.length + 1)).drew
        rw [List.length_append]
        exact this
      · exact (hs.far (by omega) _).drew
      · rw [List.length_append]; simp; omega
    have hstp : (pre.length : Int) = stop → Hid (endPost (fun pre W => GvI w0 w1.heap.size g cap stop L pre.length W ∧ Has W (w1.heap.size + 1) #[.string s] ∧ (pre.length : Int) ≤ L.length)
        (fun c pre W => c = .exit 0 ∧ ∃ n : Nat, GvI w0 w1.heap.size g cap stop L n W ∧ Has W (w1.heap.size + 1) #[.string s] ∧ (n : Int) = stop) V.heap.size (w1.heap.size + 1) lo (pre ++ [⟨⟨kk, nn, xx⟩, ln, cl⟩]) W (.exit 0) ⟨#[], []⟩ W) := fun h =>
      ⟨⟨Nat.le_refl _, fun _ _ _ => rfl⟩, rfl, pre.length, hG, hs, h⟩
    have hpl : Hid (pre.length ≤ 65537) := by show pre.length ≤ 65537; have := hLl.out; omega
    have k1 : (pre.length : Int) < (L.length : Int) := by omega
    have k0 : (0 : Int) ≤ (pre.length : Int) := by omega
    have k9 : (pre.length : Int) ≤ 65537 := by have := hpl.out; omega
    generalize hpn : pre.length = n at *
    clear hT hpx hp hGi tail hKK hEa hb0 hp1 hp2 hrow hb1 hV hSb hK hS hWh hW hs hb hG
    by_cases hst : (n : Int) = stop
    · have hst' : ((n : Int) == stop) = true := by simp [hst]
      gi_wp2
      exact (hstp hst).out
    · have hst' : ((n : Int) == stop) = false := by simp; exact hst
      gi_wp2
      have kd : decide (L.length ≤ n) = false := by simp; omega
      clear hstp
      gi_region_with (fail)
      all_goals
        gi_wp2
        exact hfin1.out
  case done =>
    rintro W ⟨h1, h2, h3⟩ hD hz
    exact tail W _ h1 h2 (.inl (by rw [hL])) hD hz
  case stop =>
    rintro c pre W hp ⟨rfl, n, h1, h2, h3⟩ hD hz
    have hT := tail W n h1 h2 (.inr h3) hD hz
    gi_wp2
    exact hT
end Go.Proofs.YtjohnhaahpggkaaDoor
