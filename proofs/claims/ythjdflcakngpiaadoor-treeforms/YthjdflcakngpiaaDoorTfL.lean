import Derived.Test.YthjdflcakngpiaaDoorFmP
import Derived.Test.YthjdflcakngpiaaDoorRmC
import Derived.Test.YthjdflcakngpiaaDoorLawB
import Derived.Test.YthjdflcakngpiaaDoorNesE
namespace Go.Proofs.YthjdflcakngpiaaDoor
open Go.RowKit
set_option linter.unusedVariables false

theorem full_take (L : List Nd) : (full L).take L.length = L := by unfold full; simp
theorem full_len (L : List Nd) : (full L).length = L.length + 2 := by unfold full; simp
set_option maxRecDepth 100000 in
set_option maxHeartbeats 4000000 in
theorem forms (p : Pl) (L : List Nd) (u v : Value) (S1 : Nat → Prop) (w : World) (h1 : PlR S1 w u p) (hN : Nds w v L) (hnil : v = .slice none 0 0 ∨ ∃ ad cap, v = .slice (some ad) L.length cap) (hlen : L.length ≤ 2932031007317) (hs : SmP p) (hr : ∀ d ∈ p.decls, RgD d) (hse : SmE L) (t : Tb w) :
    Calls Tryd.prog 3 #[u, v] w fun e w' => e = .returned (.bool true) ∧ Below w.heap.size w w' := by
  have kR := fun (X : World) (hX : Below w.heap.size w X) => roomy_plan p u S1 X (h1.below hX)
  have kO := fun (X : World) (hX : Below w.heap.size w X) => roomy_any L v X (hN.below hX) hnil hlen
  have kF := fun (X : World) (hX : Below w.heap.size w X) (u' : Value) (h : PlR (fun _ => True) X u' p) => formed_any p u' (fun _ => True) X h hs (t.below hX)
  have kE := fun (X : World) (hX : Below w.heap.size w X) (v' : Value) (h : Nds X v' L) => expr_any L v' X h hlen hse (t.below hX)
  have kG := fun (X : World) (hX : Below w.heap.size w X) => refFormed_any p u S1 X (h1.below hX) hs hr (t.below hX)
  have kH := fun (X : World) (hX : Below w.heap.size w X) => refExpr_any L v X (hN.below hX) hlen hse (t.below hX)
  have kP := fun (X : World) (hX : Below w.heap.size w X) (u' : Value) (h : PlR (fun _ => True) X u' p) => lawPlan_any p u u' S1 (fun _ => True) X (h1.below hX) h
  have kS := fun (X : World) (v1 v2 : Value) (q1 : Nds X v1 (full L)) (q2 : Nds X v2 (full L)) => nodes_same (full L) v1 v2 X q1 q2 (by rw [full_len]; omega)
  have hsub : ∀ (W : World) (base g cap : Nat), W.ownsRow base 59 5 (.slice (some ⟨g, 0, none⟩) (full L).length cap) (full L).length (cellsN (full L)) → Nds W (.slice (some ⟨g, 0, none⟩) L.length cap) L ∧ Nds W (.slice (some ⟨g, 0, none⟩) (L.length + 2) cap) (full L) := by
    intro W base g cap h
    have h1 := nds_of (n := L.length) (c' := cap) h (by rw [full_len]; omega)
    rw [full_take] at h1
    have h2 := nds_of (n := L.length + 2) (c' := cap) h (by rw [full_len]; omega)
    rw [← full_len L, List.take_length] at h2
    rw [← full_len L]
    exact ⟨h1, h2⟩
  obtain ⟨vd, rfl, hD⟩ := h1
  obtain ⟨nm, D⟩ := p
  simp only at hD kR
  obtain ⟨a, c, rfl, -, -⟩ := Rows.any hD
  obtain ⟨ea, ec, rfl, -⟩ := hN
  clear hD hs hr hse hnil
  have hb0 : Below w.heap.size w (w.alloc (.cells #[.string nm, .slice a D.length c] 24)) := bel1 _
  have K0 : Has (w.alloc (.cells #[.string nm, .slice a D.length c] 24)) w.heap.size #[.string nm, .slice a D.length c] := Has.new _ _ _ rfl
  generalize fPl ⟨nm, D⟩ = A at *
  generalize fEx L = B at *
  go_enter Tryd.func3, Tryd.ntmps3
  go_upto_region 2 with (go_at_call 4; (with_reducible refine Calls.mono (kR _ (by exact hb0)) ?_); rintro e w1 ⟨⟨vq, bx, rfl, hQ, hX⟩, h1⟩; have hb1 := bel_after hb0 hb0.size h1; have K1 := K0.below h1; have hQ0 := hQ; obtain ⟨qa, qc, rfl, -, -⟩ := Rows.any hQ0)
  clear hQ0
  have kA1 : Below w1.heap.size w1 (w1.alloc (.cells #[.string nm, .slice qa D.length qc] 24)) := bel1 _
  have hbA := bel_after hb1 hb1.size kA1
  have KA := K1.below kA1
  have hQA := hQ.below kA1
  have hXA := hX.below kA1
  have KQ : Has (w1.alloc (.cells #[.string nm, .slice qa D.length qc] 24)) w1.heap.size #[.string nm, .slice qa D.length qc] := Has.new _ _ _ rfl
  generalize (w1.alloc (.cells #[.string nm, .slice qa D.length qc] 24)) = W1 at *
  generalize w1.heap.size = Bq at *
  clear hb1 K1 hQ hX kA1 K0 hb0 h1
  go_upto_region 3 with (go_at_call 5; (with_reducible refine Calls.mono (kO _ (by exact hbA)) ?_); rintro e w2 ⟨⟨g2, c2, rfl, hc2, hr2⟩, h2⟩; have hb2 := bel_after hbA hbA.size h2; have K2 := KA.below h2; have Q2 := KQ.below h2; have hQ2 := hQA.below h2; have hX2 := hXA.below h2)
  obtain ⟨n2, m2⟩ := hsub _ _ _ _ hr2
  have cF := kF w2 hb2 _ ⟨_, rfl, hQ2⟩
  obtain ⟨_, cq2, _⟩ := id Q2
  have lc2 : L.length ≤ c2 := by omega
  have lc3 : (L.length : Int) ≤ (c2 : Int) := by omega
  clear hr2 h2 hbA KA KQ hQA hXA
  go_upto_region 4 with (go_at_call 6; (with_reducible refine Calls.mono cF ?_); rintro e w3 ⟨rfl, h3⟩; have hb3 := bel_after hb2 hb2.size h3; have K3 := K2.below h3; have Q3 := Q2.below h3; have hQ3 := hQ2.below h3; have hX3 := hX2.below h3; have n3 := n2.below h3; have m3 := m2.below h3)
  have cE := kE w3 hb3 _ n3
  clear cF h3 hb2 K2 Q2 hQ2 hX2 n2 m2 cq2
  go_upto_region 5 with (go_at_call 7; (with_reducible refine Calls.mono cE ?_); rintro e w4 ⟨rfl, h4⟩; have hb4 := bel_after hb3 hb3.size h4; have K4 := K3.below h4; have Q4 := Q3.below h4; have hQ4 := hQ3.below h4; have hX4 := hX3.below h4; have m4 := m3.below h4)
  clear cE h4 hb3 K3 Q3 hQ3 hX3 n3 m3
  obtain ⟨_, cp4, _⟩ := id K4
  have EA : (A == A) = true := by simp
  have EB : (B == B) = true := by simp
  go_wp2_with (first
    | (go_at_call 8; (with_reducible refine Calls.mono (kG _ (by exact hb4)) ?_); rintro e w5 ⟨rfl, h5⟩; have hb5 := bel_after hb4 hb4.size h5; have K5 := K4.below h5; have Q5 := Q4.below h5; have hQ5 := hQ4.below h5; have hX5 := hX4.below h5; have m5 := m4.below h5)
    | (go_at_call 9; (with_reducible refine Calls.mono (kH _ (by exact hb5)) ?_); rintro e w6 ⟨rfl, h6⟩; have hb6 := bel_after hb5 hb5.size h6; have K6 := K5.below h6; have Q6 := Q5.below h6; have hQ6 := hQ5.below h6; have hX6 := hX5.below h6; have m6 := m5.below h6; obtain ⟨_, cp6, _⟩ := id K6; obtain ⟨_, cq6, _⟩ := id Q6; have cP := kP w6 hb6 _ ⟨_, rfl, hQ6⟩)
    | (go_at_call 10; (with_reducible refine Calls.mono cP ?_); rintro e w7 ⟨rfl, h7⟩; have hb7 := bel_after hb6 hb6.size h7; have hX7 := hX6.below h7; have m7 := m6.below h7)
    | (go_at_call 11; (with_reducible refine Calls.mono (kept_x _ _ hX7) ?_); rintro e w8 ⟨rfl, h8⟩; have hb8 := bel_after hb7 hb7.size h8; have m8 := m7.below h8)
    | (go_at_call 5; (with_reducible refine Calls.mono (kO _ (by exact hb8)) ?_); rintro e w9 ⟨⟨g9, c9, rfl, hc9, hr9⟩, h9⟩; have hb9 := bel_after hb8 hb8.size h9; have m9 := m8.below h9; have cS := kS _ _ _ m9 (hsub _ _ _ _ hr9).2)
    | (go_at_call 12; (with_reducible refine Calls.mono cS ?_); rintro e w10 ⟨rfl, n10, rfl⟩))
  refine bodyPost_ret (v := .bool true) (by simp [results, Tryd.results3, go_sem]) rfl ⟨rfl, bel_drewN hb9⟩
end Go.Proofs.YthjdflcakngpiaaDoor
