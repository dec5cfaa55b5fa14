import Derived.Test.YtfkclbppaakoiaaIntA
import Derived.Test.YtfkclbppaakoiaaIntB
import Derived.Test.YtfkclbppaakoiaaRoT
import Derived.Test.YtfkclbppaakoiaaKpT
namespace Go.Proofs.Ytfkclbppaakoiaa
open Go.RowKit
set_option linter.unusedVariables false


theorem fl_cut {α : Type} {sz : Nat} {cs : α → List Value} (hl : ∀ x, (cs x).length = sz) {w : World} {base e g cap : Nat} {L : List α} {ms : List Value} (h : w.ownsRow base e sz (.slice (some ⟨g, 0, none⟩) (L.length + 2) cap) (L.length + 2) (cellsF cs L ++ ms)) : Fl sz cs w (.slice (some ⟨g, 0, none⟩) L.length cap) L := by
  refine .inr ⟨⟨g, 0, none⟩, cap, rfl, by have := own_cap h (by omega); omega, .inr ⟨rfl, (own_lt h g rfl).2, fun i hi j u hu => ?_⟩⟩
  have hj : j < sz := by have := (List.getElem?_eq_some_iff.1 hu).1; rw [hl] at this; exact this
  show w.cell? ⟨g, 0 + i * sz + j, none⟩ = some u
  rw [Nat.zero_add]
  refine own_reads h rfl _ _ ?_
  rw [List.getElem?_append_left, cellsF_get hl L i j hi hj]
  · exact hu
  · rw [cellsF_len hl]
    calc i * sz + j < i * sz + sz := by omega
      _ = (i + 1) * sz := (Nat.succ_mul i sz).symm
      _ ≤ L.length * sz := Nat.mul_le_mul_right _ hi
set_option maxRecDepth 100000 in
set_option maxHeartbeats 4000000 in
theorem inters (G : List Gp) (C : List Cf) (vg vc : Value) (a b : Int) (w : World) (h1 : Fl 5 Gp.cs w vg G) (h2 : Fl 4 Cf.cs w vc C) (lG : G.length ≤ 2932031007317) (lC : C.length ≤ 4398046511000) :
    Calls Try.prog 3 #[.agg #[vg, vc], .int .i64 a, .int .i64 b] w fun e w' => e = .returned (.bool true) ∧ Below w.heap.size w w' := by
  have hR := fun (W : World) (hW : Below w.heap.size w W) => roomy_any G C vg vc W (h1.below hW) (h2.below hW) lG lC
  have hI := fun (W : World) (v u : Value) (h : Fl 4 Cf.cs W v C) => inter_any C u v a b W h lC
  have hJ := fun (W : World) (hW : Below w.heap.size w W) => refInter_any C vg vc a b W (h2.below hW) lC
  have hS := fun (W : World) (v u : Value) (hW : Below w.heap.size w W) (h : Fl 5 Gp.cs W v G) (h' : Fl 4 Cf.cs W u C) => sameTables_any G C v u vg vc W h h' (h1.below hW) (h2.below hW) lG lC
  have hK := fun (W : World) (g1 d1 g2 d2 : Nat) nG nC => kept_any G C W g1 d1 g2 d2 nG nC lG lC
  clear h1 h2
  generalize interF C a b = A at *
  go_enter Try.func3, Try.ntmps3
  go_wp2_with (first
    | (go_at_call 7; (with_reducible refine Calls.mono (hR _ (by exact belN1)) ?_); rintro e w1 ⟨⟨g1, d1, g2, d2, rfl, nG, nC⟩, hb1⟩; have HB1 : Below w.heap.size w w1 := bel_after belN1 (by simp) hb1; have B1 : Has ((w1.alloc (.cells #[.slice (some ⟨g1, 0, none⟩) G.length d1, .slice (some ⟨g2, 0, none⟩) C.length d2] 25)).alloc (.cells #[.slice (some ⟨g1, 0, none⟩) (G.length + 2) d1, .slice (some ⟨g2, 0, none⟩) (C.length + 2) d2, .slice none 0 0, .slice none 0 0] 29)) w.heap.size #[vg, vc] := (((Has.new w _ _ rfl).below hb1).alloc _).alloc _; have K1 : Has ((w1.alloc (.cells #[.slice (some ⟨g1, 0, none⟩) G.length d1, .slice (some ⟨g2, 0, none⟩) C.length d2] 25)).alloc (.cells #[.slice (some ⟨g1, 0, none⟩) (G.length + 2) d1, .slice (some ⟨g2, 0, none⟩) (C.length + 2) d2, .slice none 0 0, .slice none 0 0] 29)) w1.heap.size #[.slice (some ⟨g1, 0, none⟩) G.length d1, .slice (some ⟨g2, 0, none⟩) C.length d2] := (Has.new _ _ _ rfl).alloc _; have J1 : Has ((w1.alloc (.cells #[.slice (some ⟨g1, 0, none⟩) G.length d1, .slice (some ⟨g2, 0, none⟩) C.length d2] 25)).alloc (.cells #[.slice (some ⟨g1, 0, none⟩) (G.length + 2) d1, .slice (some ⟨g2, 0, none⟩) (C.length + 2) d2, .slice none 0 0, .slice none 0 0] 29)) (w1.heap.size + 1) #[.slice (some ⟨g1, 0, none⟩) (G.length + 2) d1, .slice (some ⟨g2, 0, none⟩) (C.length + 2) d2, .slice none 0 0, .slice none 0 0] := Has.new _ _ _ (by simp); have HC1 : Below w1.heap.size w1 ((w1.alloc (.cells #[.slice (some ⟨g1, 0, none⟩) G.length d1, .slice (some ⟨g2, 0, none⟩) C.length d2] 25)).alloc (.cells #[.slice (some ⟨g1, 0, none⟩) (G.length + 2) d1, .slice (some ⟨g2, 0, none⟩) (C.length + 2) d2, .slice none 0 0, .slice none 0 0] 29)) := belA; have HBa : Below w.heap.size w ((w1.alloc (.cells #[.slice (some ⟨g1, 0, none⟩) G.length d1, .slice (some ⟨g2, 0, none⟩) C.length d2] 25)).alloc (.cells #[.slice (some ⟨g1, 0, none⟩) (G.length + 2) d1, .slice (some ⟨g2, 0, none⟩) (C.length + 2) d2, .slice none 0 0, .slice none 0 0] 29)) := bel_after HB1 HB1.size HC1; clear hb1 hR)
    | (go_at_call 8; (with_reducible refine Calls.mono (hI _ _ _ (by exact (fl_cut cf_len nC).below belA)) ?_); rintro e w2 ⟨rfl, hb2⟩; have B2 := B1.below hb2; have K2 := K1.below hb2; have J2 := J1.below hb2; have HC2 : Below w1.heap.size w1 w2 := bel_after HC1 HC1.size hb2; have HB2 : Below w.heap.size w w2 := bel_after HBa HBa.size hb2; obtain ⟨_, x2, _⟩ := id B2; obtain ⟨_, y2, _⟩ := id K2; obtain ⟨_, v2, _⟩ := id J2; clear hb2 B1 K1 J1 HC1 HBa)
    | (go_at_call 9; (with_reducible refine Calls.mono (hJ _ (by assumption)) ?_); rintro e w3 ⟨rfl, hb3⟩; have B3 := B2.below hb3; have K3 := K2.below hb3; have J3 := J2.below hb3; have HC3 : Below w1.heap.size w1 w3 := bel_after HC2 HC2.size hb3; have HB3 : Below w.heap.size w w3 := bel_after HB2 HB2.size hb3; obtain ⟨_, x3, _⟩ := id B3; obtain ⟨_, y3, _⟩ := id K3; obtain ⟨_, v3, _⟩ := id J3; clear hb3 B2 K2 J2 HC2 HB2 x2 y2 v2)
    | (go_at_call 10; (with_reducible refine Calls.mono (hS _ _ _ HB3 ((fl_cut gp_len nG).below HC3) ((fl_cut cf_len nC).below HC3)) ?_); rintro e w4 ⟨rfl, hb4⟩; have B4 := B3.below hb4; have K4 := K3.below hb4; have J4 := J3.below hb4; have HC4 : Below w1.heap.size w1 w4 := bel_after HC3 HC3.size hb4; have HB4 : Below w.heap.size w w4 := bel_after HB3 HB3.size hb4; obtain ⟨_, x4, _⟩ := id B4; obtain ⟨_, y4, _⟩ := id K4; obtain ⟨_, v4, _⟩ := id J4; clear hb4 B3 K3 J3 HC3 HB3 x3 y3 v3)
    | (go_at_call 11; (with_reducible refine Calls.mono (hK _ _ _ _ _ (own_bel nG HC4) (own_bel nC HC4)) ?_); rintro e w5 ⟨rfl, hb5⟩; have B5 := B4.below hb5; have K5 := K4.below hb5; have J5 := J4.below hb5; have HC5 : Below w1.heap.size w1 w5 := bel_after HC4 HC4.size hb5; have HB5 : Below w.heap.size w w5 := bel_after HB4 HB4.size hb5; obtain ⟨_, x5, _⟩ := id B5; obtain ⟨_, y5, _⟩ := id K5; obtain ⟨_, v5, _⟩ := id J5; clear hb5 B4 K4 J4 HC4 HB4 x4 y4 v4))
  go_ret
  exact ⟨rfl, HB5⟩
end Go.Proofs.Ytfkclbppaakoiaa
