import Derived.Test.YtfmdlcfkfglnhaaDoorTyT
namespace Go.Proofs.YtfmdlcfkfglnhaaDoor
open Go.RowKit
set_option linter.unusedVariables false

theorem sys_of {w : World} {v : Value} {S : List Sy} (h : Fl 5 Sy.cs w v S) : Sys w v S := by
  obtain ⟨a, cap, rfl, hh⟩ := h.any
  refine ⟨a, cap, rfl, hh.imp id ?_⟩
  rintro ⟨g, o, e, hg, hx⟩
  exact ⟨g, o, e, hg, fun i hi => ⟨hx i hi 0 _ rfl, hx i hi 1 _ rfl, hx i hi 2 _ rfl, hx i hi 3 _ rfl, hx i hi 4 _ rfl⟩⟩
theorem nds_fl {w : World} {v : Value} {L : List Nd} (h : Fl 5 Nd.cs w v L) : Nds w v L := by
  obtain ⟨a, cap, rfl, hh⟩ := h.any
  refine ⟨a, cap, rfl, hh.imp id ?_⟩
  rintro ⟨g, o, e, hg, hx⟩
  exact ⟨g, o, e, hg, fun i hi => ⟨hx i hi 0 _ rfl, hx i hi 1 _ rfl, hx i hi 2 _ rfl, hx i hi 3 _ rfl, hx i hi 4 _ rfl⟩⟩
theorem marks_at {α : Type} {cs : α → List Value} (hl : ∀ x, (cs x).length = 5) {w : World} {base e g cap : Nat} {L : List α} {mk : α} (h : w.ownsRow base e 5 (.slice (some ⟨g, 0, none⟩) (L.length + 2) cap) (L.length + 2) (cellsF cs (L ++ [mk, mk]))) (j : Nat) (hj : j < 5) (u : Value) (hu : (cs mk)[j]? = some u) :
    w.cell? ⟨g, (L.length + 2 - 2) * 5 + j, none⟩ = some u ∧ w.cell? ⟨g, (L.length + 2 - 1) * 5 + j, none⟩ = some u := by
  have key : ∀ i (hi : i < (L ++ [mk, mk]).length), (L ++ [mk, mk])[i] = mk → w.cell? ⟨g, i * 5 + j, none⟩ = some u := by
    intro i hi e
    have hi' : i < L.length + 2 := by simpa using hi
    rw [h.cellAt _ (by omega), cellsF_get hl _ i j hi hj, e]
    exact hu
  refine ⟨key _ (by simp) ?_, key _ (by simp) ?_⟩
  · simp
  · simp
theorem fl_cut {α : Type} {cs : α → List Value} (hl : ∀ x, (cs x).length = 5) {w : World} {base e g cap : Nat} {L : List α} {mk : α} (h : w.ownsRow base e 5 (.slice (some ⟨g, 0, none⟩) (L.length + 2) cap) (L.length + 2) (cellsF cs (L ++ [mk, mk]))) (hc : L.length + 2 ≤ cap) :
    Fl 5 cs w (.slice (some ⟨g, 0, none⟩) L.length cap) L := by
  have e1 : (L ++ [mk, mk]).length = L.length + 2 := by simp
  have := Fl.own hl (L := L ++ [mk, mk]) (n := L.length) (c' := cap) (by rw [e1]; exact h) (own_lt h g rfl).2 (by rw [e1]; omega) (by omega)
  rwa [List.take_left] at this
theorem cell_only {P : Nat → Prop} {w w' : World} (h : Only P w w') {g i : Nat} (hg : g < w.heap.size) (hn : ¬ P g) : w'.cell? ⟨g, i, none⟩ = w.cell? ⟨g, i, none⟩ := World.cell?_of_block (a := ⟨g, i, none⟩) (h.block g hg hn)
theorem bel_onlyR {B R : Nat} {a w w' : World} (h : Below B a w) (hB : B ≤ w.heap.size) (ho : Only (fun q => q = R) w w') (hR : B ≤ R) : Below B a w' :=
  ⟨ho.os.trans h.os, ho.tape.trans h.tape, ho.output.trans h.output, Nat.le_trans h.size ho.size, fun k hk => (ho.block k (Nat.lt_of_lt_of_le hk hB) (by omega)).trans (h.block k hk)⟩
set_option maxRecDepth 100000 in
set_option maxHeartbeats 8000000 in
theorem types_law (S : List Sy) (L : List Nd) (vs vn : Value) (w : World) (hS : Fl 5 Sy.cs w vs S) (hN : Fl 5 Nd.cs w vn L) (hlS : S.length ≤ 1048576) (hlN : L.length ≤ 1048576) (hsS : ∀ (i : Nat) (h : i < S.length), S[i].name.size ≤ maxLen) (hse : SmE L) (hs : ∀ (i : Nat) (h : i < L.length), L[i].name.size ≤ maxLen) (t : Tb w) :
    Calls Tryd.prog 3 #[vs, vn] w fun e w' => e = .returned (.bool true) ∧ Below w.heap.size w w' := by
  have hb0 : Below w.heap.size w (w.alloc (.cells #[.slice none 0 0, .slice none 0 0, .slice none 0 0, .slice none 0 0, .slice none 0 0, .slice none 0 0, .slice none 0 0, .slice none 0 0, .slice none 0 0, .slice none 0 0, .slice none 0 0, .slice none 0 0, .slice none 0 0, .slice none 0 0, .slice none 0 0, .slice none 0 0, .slice none 0 0] 43)) := bel1 _
  have R0 : Has (w.alloc (.cells #[.slice none 0 0, .slice none 0 0, .slice none 0 0, .slice none 0 0, .slice none 0 0, .slice none 0 0, .slice none 0 0, .slice none 0 0, .slice none 0 0, .slice none 0 0, .slice none 0 0, .slice none 0 0, .slice none 0 0, .slice none 0 0, .slice none 0 0, .slice none 0 0, .slice none 0 0] 43)) w.heap.size #[.slice none 0 0, .slice none 0 0, .slice none 0 0, .slice none 0 0, .slice none 0 0, .slice none 0 0, .slice none 0 0, .slice none 0 0, .slice none 0 0, .slice none 0 0, .slice none 0 0, .slice none 0 0, .slice none 0 0, .slice none 0 0, .slice none 0 0, .slice none 0 0, .slice none 0 0] := Has.new _ _ _ rfl
  have hz0 : (w.alloc (.cells #[.slice none 0 0, .slice none 0 0, .slice none 0 0, .slice none 0 0, .slice none 0 0, .slice none 0 0, .slice none 0 0, .slice none 0 0, .slice none 0 0, .slice none 0 0, .slice none 0 0, .slice none 0 0, .slice none 0 0, .slice none 0 0, .slice none 0 0, .slice none 0 0, .slice none 0 0] 43)).heap.size = w.heap.size + 1 := by simp
  obtain ⟨va, c, rfl, -⟩ := id hS.any
  obtain ⟨na, nc, rfl, -⟩ := id hN.any
  have k4 := roomS_any S va c w.heap.size (w.alloc (.cells #[.slice none 0 0, .slice none 0 0, .slice none 0 0, .slice none 0 0, .slice none 0 0, .slice none 0 0, .slice none 0 0, .slice none 0 0, .slice none 0 0, .slice none 0 0, .slice none 0 0, .slice none 0 0, .slice none 0 0, .slice none 0 0, .slice none 0 0, .slice none 0 0, .slice none 0 0] 43)) (hS.below hb0) hlS R0
  have k5 := fun (g1 c1 : Nat) (X : World) (hX : Below w.heap.size w X) (hR : Has X w.heap.size #[.slice none 0 0, .slice none 0 0, .slice none 0 0, .slice none 0 0, .slice none 0 0, .slice none 0 0, .slice none 0 0, .slice none 0 0, .slice none 0 0, .slice none 0 0, .slice (some ⟨g1, 0, none⟩) 1 c1, .slice none 0 0, .slice none 0 0, .slice none 0 0, .slice none 0 0, .slice none 0 0, .slice none 0 0]) => roomN_any L na nc w.heap.size g1 c1 X (hN.below hX) hlN hR
  have k6 := fun (v u : Value) (X : World) (hX : Below w.heap.size w X) (h1 : Fl 5 Sy.cs X v S) (h2 : Fl 5 Nd.cs X u L) => typeC_any S L v u X (sys_of h1) hlS hsS (nds_fl h2) (by omega) hse hs (t.below hX)
  have k7 := fun (X : World) (hX : Below w.heap.size w X) => typeR_any S L _ _ X (sys_of (hS.below hX)) hlS (nds_fl (hN.below hX)) (by omega) hse (t.below hX)
  have k8 := fun (v : Value) (X : World) (hX : Below w.heap.size w X) (h1 : Fl 5 Sy.cs X v S) => sameS_any S v _ X h1 (hS.below hX) (by omega)
  have k9 := fun (v : Value) (X : World) (hX : Below w.heap.size w X) (h1 : Fl 5 Nd.cs X v L) => sameN_any L v _ X h1 (hN.below hX) (by omega)
  generalize tyA S L = A at *
  obtain ⟨At, Ac, Al, Ak⟩ := A
  simp only [tyV] at *
  go_enter Tryd.func3, Tryd.ntmps3
  go_wp2_with fail
  go_at_call 4
  refine Calls.mono k4 ?_
  rintro e w1 ⟨fs, ks, gs, cs, rfl, oS, R1, cS, hgs, hgs2, hne1, O1, hk1⟩
  have hb1 := bel_onlyR hb0 hb0.size O1 (Nat.le_refl _)
  clear k4
  go_wp2_with fail
  go_at_call 5
  refine Calls.mono (k5 gs cs w1 hb1 R1) ?_
  rintro e w2 ⟨fn, kn, gn, cn, rfl, oN, R2, cN, hgn, hgn2, hne2, O2, hk2⟩
  have hb2 := bel_onlyR hb1 hb1.size O2 (Nat.le_refl _)
  have oS2 := own_only oS O2 (fun k hk e => by omega)
  have cS2 := (cell_only O2 hgs2 (by omega)).trans cS
  have fS := fl_cut sy_len oS2 hk1
  have fN := fl_cut nd_len oN hk2
  clear k5 oS cS
  go_wp2_with fail
  go_at_call 6
  refine Calls.mono (k6 _ _ w2 hb2 fS fN) ?_
  rintro e w3 ⟨rfl, h3⟩
  have h3' := bel_after h3 h3.size (bel1 (.cells #[.int .i64 Ac, .int .i64 Al, .int .i64 Ak] 50))
  have hb3 := bel_after hb2 hb2.size h3'
  have X3 : Has (w3.alloc (.cells #[.int .i64 Ac, .int .i64 Al, .int .i64 Ak] 50)) w3.heap.size #[.int .i64 Ac, .int .i64 Al, .int .i64 Ak] := Has.new _ _ _ rfl
  go_wp2_with fail
  go_at_call 7
  refine Calls.mono (k7 _ (by exact hb3)) ?_
  rintro e w4 ⟨rfl, h4⟩
  have X4 := (X3.below h4).alloc (.cells #[.int .i64 Ac, .int .i64 Al, .int .i64 Ak] 50)
  have Y4 : Has (w4.alloc (.cells #[.int .i64 Ac, .int .i64 Al, .int .i64 Ak] 50)) w4.heap.size #[.int .i64 Ac, .int .i64 Al, .int .i64 Ak] := Has.new _ _ _ rfl
  have h4' := bel_after (bel_after h3' h3'.size h4) (bel_after h3' h3'.size h4).size (bel1 (.cells #[.int .i64 Ac, .int .i64 Al, .int .i64 Ak] 50))
  have hb4 := bel_after hb2 hb2.size h4'
  obtain ⟨_, x1, x2⟩ := id X4
  obtain ⟨_, y1, y2⟩ := id Y4
  go_wp2_with fail
  go_at_call 8
  refine Calls.mono (k8 _ _ (by exact hb4) (fS.below h4')) ?_
  rintro e w5 ⟨rfl, h5⟩
  have h5' := bel_after h4' h4'.size h5
  have hb5 := bel_after hb2 hb2.size h5'
  go_wp2_with fail
  go_at_call 9
  refine Calls.mono (k9 _ _ (by exact hb5) (fN.below h5')) ?_
  rintro e w6 ⟨rfl, h6⟩
  have h6' := bel_after h5' h5'.size h6
  have hb6 := bel_after hb2 hb2.size h6'
  have oS6 := own_bel oS2 h6'
  have oN6 := own_bel oN h6'
  have R6 := R2.below h6'
  have cS6 := (h6'.cell (p := ⟨gs, 0, none⟩) (Nat.lt_of_lt_of_le hgs2 O2.size)).trans cS2
  have cN6 := (h6'.cell (p := ⟨gn, 0, none⟩) hgn2).trans cN
  have mS := marks_at sy_len oS6 1 (by decide) _ rfl
  have mN := marks_at nd_len oN6 0 (by decide) _ rfl
  have k16 := plans_any w.heap.size gn cn gs cs w6 fn (L.length + 2) kn R6 (by omega) (by omega) cN6 mN.1 mN.2
  have k17 := things_any w.heap.size gn cn gs cs w6 fs (S.length + 2) ks R6 (by omega) (by omega) cS6 mS.1 mS.2
  have k10 := whole_any w.heap.size gn cn gs cs w6 R6 k16 k17
  go_wp2_with fail
  go_at_call 10
  refine Calls.mono k10 ?_
  rintro e wx ⟨rfl, hx⟩
  have hy := hx.symm
  clear hx
  subst hy
  go_wp2_with fail
  go_ret
  exact ⟨rfl, hb6⟩
end Go.Proofs.YtfmdlcfkfglnhaaDoor
