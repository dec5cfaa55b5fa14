import Derived.Test.YtbfojlfdiallnaaNesC
import Derived.Test.YtbfojlfdiallnaaNesD
import Derived.Test.YtbfojlfdiallnaaNesE
namespace Go.Proofs.Ytbfojlfdiallnaa
open Go.RowKit
set_option linter.unusedVariables false

theorem full_take (L : List Nd) : (full L).take L.length = L := by unfold full; simp
theorem full_len (L : List Nd) : (full L).length = L.length + 2 := by unfold full; simp

set_option maxRecDepth 100000 in
set_option maxHeartbeats 4000000 in
theorem measures (L : List Nd) (v : Value) (i : Int) (w : World) (hN : Nds w v L) (hnil : v = .slice none 0 0 ∨ ∃ ad cap, v = .slice (some ad) L.length cap) (hlen : L.length ≤ 2932031007317) (hi1 : -9223372036854775808 ≤ i) (hi2 : i < 9223372036854775808) :
    Calls Try.prog 3 #[v, .int .i64 i] w fun e w' => e = .returned (.bool true) ∧ Below w.heap.size w w' := by
  have hRo : ∀ W, Below w.heap.size w W → Calls Try.prog 6 #[v] W fun e w' => (∃ g cap, e = .returned (.slice (some ⟨g, 0, none⟩) (L.length + 2) cap) ∧ L.length + 2 ≤ cap ∧ w'.ownsRow W.heap.size 41 5 (.slice (some ⟨g, 0, none⟩) (full L).length cap) (full L).length (cellsN (full L))) ∧ Below W.heap.size W w' := fun W hb => roomy_any L v W (hN.below hb) hnil hlen
  have hSp : ∀ (v' : Value) (W : World), Nds W v' L → Calls Try.prog 7 #[v', .int .i64 i] W fun e w' => e = .returned (.int .i64 (spanF L i)) ∧ Below W.heap.size W w' := fun v' W h => span_any L v' i W h (by omega) hi1 hi2
  have hNe : ∀ (v' : Value) (W : World), Nds W v' L → Calls Try.prog 8 #[v'] W fun e w' => e = .returned (.int .i64 (nestF L)) ∧ Below W.heap.size W w' := fun v' W h => nest_any L v' W h hlen
  have hRs : ∀ W, Below w.heap.size w W → Calls Try.prog 9 #[v, .int .i64 i] W fun e w' => e = .returned (.int .i64 (spanF L i)) ∧ Below W.heap.size W w' := fun W hb => refSpan_any L v i W (hN.below hb) (by omega) hi1 hi2
  have hRn : ∀ W, Below w.heap.size w W → Calls Try.prog 10 #[v] W fun e w' => e = .returned (.int .i64 (nestF L)) ∧ Below W.heap.size W w' := fun W hb => refNest_any L v W (hN.below hb) hlen
  have hEq : ∀ (v1 v2 : Value) (W : World), Nds W v1 (full L) → Nds W v2 (full L) → Calls Try.prog 11 #[v1, v2] W fun e w' => e = .returned (.bool true) ∧ ∃ n, w' = W.drewN n := fun v1 v2 W h1 h2 => nodes_same (full L) v1 v2 W h1 h2 (by rw [full_len]; omega)
  have hsub : ∀ (W : World) (base g cap : Nat), W.ownsRow base 41 5 (.slice (some ⟨g, 0, none⟩) (full L).length cap) (full L).length (cellsN (full L)) → Nds W (.slice (some ⟨g, 0, none⟩) L.length cap) L ∧ Nds W (.slice (some ⟨g, 0, none⟩) (L.length + 2) cap) (full L) := by
    intro W base g cap h
    have h1 := nds_of (n := L.length) (c' := cap) h (by rw [full_len]; omega)
    rw [full_take] at h1
    have h2 := nds_of (n := L.length + 2) (c' := cap) h (by rw [full_len]; omega)
    rw [← full_len L, List.take_length] at h2
    rw [← full_len L]
    exact ⟨h1, h2⟩
  obtain ⟨a, c, rfl, hc⟩ := hN
  clear hc hnil
  have hR1 := hRo w (Below.refl _ _)
  generalize hsp : spanF L i = sp at *
  generalize hne : nestF L = ne at *
  go_enter Try.func3, Try.ntmps3
  go_wp2_with (first
    | (go_at_call 6; (with_reducible refine hR1.mono ?_); rintro e w1 ⟨⟨g1, c1, rfl, hcap1, hr1⟩, hb1⟩; clear hR1; obtain ⟨hn1, hm1⟩ := hsub _ _ _ _ hr1; have hc1 : L.length ≤ c1 := (by omega); have hS1 := hSp _ _ hn1)
    | (go_at_call 7; (with_reducible refine hS1.mono ?_); rintro e w2 ⟨rfl, hb2⟩; clear hS1; have hn2 := hn1.below hb2; have hm2 := hm1.below hb2; have hB2 := hb1.trans (hb2.mono hb1.size); have hN2 := hNe _ _ hn2)
    | (go_at_call 8; (with_reducible refine hN2.mono ?_); rintro e w3 ⟨rfl, hb3⟩; clear hN2; have hm3 := hm2.below hb3; have hB3 := hB2.trans (hb3.mono hB2.size))
    | (go_at_call 9; (with_reducible refine (hRs _ hB3).mono ?_); rintro e w4 ⟨rfl, hb4⟩; have hm4 := hm3.below hb4; have hB4 := hB3.trans (hb4.mono hB3.size))
    | (go_at_call 10; (with_reducible refine (hRn _ hB4).mono ?_); rintro e w5 ⟨rfl, hb5⟩; have hm5 := hm4.below hb5; have hB5 := hB4.trans (hb5.mono hB4.size); have hR5 := hRo _ hB5)
    | (go_at_call 6; (with_reducible refine hR5.mono ?_); rintro e w6 ⟨⟨g6, c6, rfl, hcap6, hr6⟩, hb6⟩; have hm6 := hm5.below hb6; have hB6 := hB5.trans (hb6.mono hB5.size); have hE6 := hEq _ _ _ hm6 (hsub _ _ _ _ hr6).2)
    | (go_at_call 11; (with_reducible refine hE6.mono ?_); rintro e w7 ⟨rfl, n7, rfl⟩))
  refine bodyPost_ret (v := .bool true) (by simp [results, Try.results3, go_sem]) rfl ⟨rfl, bel_drewN hB6⟩
end Go.Proofs.Ytbfojlfdiallnaa
