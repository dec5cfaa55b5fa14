import Derived.Test.YtoaokpmnjppfcaaTabA
namespace Go.Proofs.Ytoaokpmnjppfcaa
open Go.RowKit
set_option linter.unusedVariables false


theorem info44 : (Try.prog.info? 66).map (fun i => (i.zero, i.size, i.bytes)) = some (some (.agg #[.string ⟨#[]⟩, .int .i64 0, .int .i64 0, .int .i64 0, .int .i64 0]), 5, 48) := by kernel_rfl
theorem info47 : (Try.prog.info? 68).map (fun i => (i.zero, i.size, i.bytes)) = some (some (.agg #[.int .i64 0, .int .i64 0, .int .i64 0, .int .i64 0]), 4, 32) := by kernel_rfl
theorem fl_src {α : Type} {sz : Nat} {cs : α → List Value} (hl : ∀ x, (cs x).length = sz) (h0 : 0 < sz) {w : World} {va : Option Addr} {cap : Nat} {L : List α} (h : Fl sz cs w (.slice va L.length cap) L) : (∀ ad, va = some ad → ∀ j u, (cellsF cs L)[j]? = some u → w.cell? (ad.add j) = some u) ∧ (va = none → L.length = 0) :=
  ⟨fun ad e => by subst e; exact h.news hl h0, fun e => by
    subst e; rcases h with ⟨_, h⟩ | ⟨ad, cap, h, _⟩
    · rw [h]; rfl
    · cases h⟩
theorem own_base {w : World} {base base' e size n : Nat} {v : Value} {xs : List Value} (h : w.ownsRow base e size v n xs) (hb : base' ≤ base) : w.ownsRow base' e size v n xs := by
  refine ⟨h.1, ?_⟩
  rcases h.2 with h0 | ⟨g, cap, cur, h1, h2, h3, h4⟩
  · exact .inl h0
  · exact .inr ⟨g, cap, cur, h1, Nat.le_trans hb h2, h3, h4⟩
/-- Both lists in memory of their own. -/
structure CpT (B : Nat) (w : World) (v1 v2 : Value) (G : List Gp) (C : List Cf) : Prop where
  g : w.ownsRow B 66 5 v1 G.length (cellsF Gp.cs G)
  c : w.ownsRow B 68 4 v2 C.length (cellsF Cf.cs C)
  ne : ∀ q, v1.ownBlock = some q → v2.ownBlock ≠ some q
theorem has2 {w w' : World} {v0 v1 : Value} (h : Has w' w.heap.size #[v0, v1]) : w'.cell? ⟨w.heap.size, 0, none⟩ = some v0 ∧ w'.cell? ⟨w.heap.size, 1, none⟩ = some v1 := ⟨h.2.1 0, h.2.1 1⟩
set_option maxRecDepth 100000 in
set_option maxHeartbeats 4000000 in
theorem copied_any (G : List Gp) (C : List Cf) (vg vc : Value) (w : World) (h1 : Fl 5 Gp.cs w vg G) (h2 : Fl 4 Cf.cs w vc C) (lG : G.length ≤ 2932031007317) (lC : C.length ≤ 4398046511000) :
    Calls Try.prog 5 #[.agg #[vg, vc]] w fun e w' => (∃ a1 c1 a2 c2, e = .returned (.agg #[.slice a1 G.length c1, .slice a2 C.length c2]) ∧ CpT w.heap.size w' (.slice a1 G.length c1) (.slice a2 C.length c2) G C) ∧ Below w.heap.size w w' := by
  obtain ⟨ga, gc, rfl, -⟩ := h1.any
  obtain ⟨ca, cc, rfl, -⟩ := h2.any
  have hG := fun (W : World) (hW : Below w.heap.size w W) => fl_src gp_len (by decide) (h1.below hW)
  have hC := fun (W : World) (hW : Below w.heap.size w W) => fl_src cf_len (by decide) (h2.below hW)
  clear h1 h2
  obtain ⟨i44, hi, hi0, hi1, hi2⟩ := info_parts info44
  obtain ⟨i47, hj, hj0, hj1, hj2⟩ := info_parts info47
  go_enter Try.func5, Try.ntmps5
  go_wp2
  have H1 : Has ((w.alloc (.cells #[.slice ga G.length gc, .slice ca C.length cc] 25)).alloc (.cells #[.slice none 0 0, .slice none 0 0] 25)) w.heap.size #[.slice ga G.length gc, .slice ca C.length cc] := (Has.new _ _ _ rfl).alloc _
  have H2 : Has ((w.alloc (.cells #[.slice ga G.length gc, .slice ca C.length cc] 25)).alloc (.cells #[.slice none 0 0, .slice none 0 0] 25)) (w.heap.size + 1) #[.slice none 0 0, .slice none 0 0] := Has.new _ _ _ (by simp)
  have HB : Below w.heap.size w ((w.alloc (.cells #[.slice ga G.length gc, .slice ca C.length cc] 25)).alloc (.cells #[.slice none 0 0, .slice none 0 0] 25)) := belA
  generalize ((w.alloc (.cells #[.slice ga G.length gc, .slice ca C.length cc] 25)).alloc (.cells #[.slice none 0 0, .slice none 0 0] 25)) = W0 at *
  obtain ⟨i1, i2, i3⟩ := id H2
  obtain ⟨j1, j2, j3⟩ := id H1
  have z0 : w.heap.size + 2 ≤ W0.heap.size := H2.1
  have HBd := HB.drew
  have H1d : Has W0.drew w.heap.size #[.slice ga G.length gc, .slice ca C.length cc] := H1
  have H2d : Has W0.drew (w.heap.size + 1) #[.slice none 0 0, .slice none 0 0] := H2
  go_region_held3 (fun w' => w'.cell? ⟨w.heap.size, 0, none⟩ = some (.slice ga G.length gc) ∧ w'.cell? ⟨w.heap.size, 1, none⟩ = some (.slice ca C.length cc)) (first | exact has2 (by assumption) | go_keep) (first
    | (refine step_copy rfl _ _ 22 rfl 66 i44 _ 5 48 Try.underlying22 hi hi0 hi1 hi2 rfl (by decide) ga G.length gc (cellsF Gp.cs G) rfl rfl (cellsF_len gp_len _) (hG _ (by assumption)).1 (cellsF_one gp_one _) (hG _ (by assumption)).2 (by unfold maxLen; omega) (by omega) ?_; intro a1 c1 w1 own1 hb1; (try (have dis : ∀ q, (Value.slice a1 G.length c1).ownBlock = some q → (Value.slice a2 C.length c2).ownBlock ≠ some q := (fun q h1 h2 => by have e1 := (own_lt own1 q h1).1; have e2 := (own_lt own2 q h2).2; (try simp at e1); omega))); have z1 := hb1.size; (try (replace own2 := own_bel own2 hb1)); have HB1 : Below w.heap.size w w1 := bel_after (by assumption) (Below.size (B := w.heap.size) (by assumption)) hb1; have J1 : Has w1 w.heap.size #[.slice ga G.length gc, .slice ca C.length cc] := Has.below (by assumption) hb1; have G1 : Has w1 (w.heap.size + 1) #[.slice none 0 0, .slice none 0 0] := Has.below (by assumption) hb1; obtain ⟨_, f1, _⟩ := id J1; obtain ⟨_, d1, e1⟩ := id G1; clear hb1; (try clear HBd H1d H2d HB H1 H2 i1 i2 i3 j1 j2 j3); (try clear HB2 J2 G2 f2 d2 e2))
    | (refine step_copy rfl _ _ 23 rfl 68 i47 _ 4 32 Try.underlying23 hj hj0 hj1 hj2 rfl (by decide) ca C.length cc (cellsF Cf.cs C) rfl rfl (cellsF_len cf_len _) (hC _ (by assumption)).1 (cellsF_one cf_one _) (hC _ (by assumption)).2 (by unfold maxLen; omega) (by omega) ?_; intro a2 c2 w2 own2 hb2; (try (have dis : ∀ q, (Value.slice a1 G.length c1).ownBlock = some q → (Value.slice a2 C.length c2).ownBlock ≠ some q := (fun q h1 h2 => by have e1 := (own_lt own1 q h1).2; have e2 := (own_lt own2 q h2).1; (try simp at e2); omega))); have z2 := hb2.size; (try (replace own1 := own_bel own1 hb2)); have HB2 : Below w.heap.size w w2 := bel_after (by assumption) (Below.size (B := w.heap.size) (by assumption)) hb2; have J2 : Has w2 w.heap.size #[.slice ga G.length gc, .slice ca C.length cc] := Has.below (by assumption) hb2; have G2 : Has w2 (w.heap.size + 1) #[.slice none 0 0, .slice none 0 0] := Has.below (by assumption) hb2; obtain ⟨_, f2, _⟩ := id J2; obtain ⟨_, d2, e2⟩ := id G2; clear hb2; (try clear HBd H1d H2d HB H1 H2 i1 i2 i3 j1 j2 j3); (try clear HB1 J1 G1 f1 d1 e1)))
  go_wp2
  have oF : Only (fun q => q = w.heap.size + 1) w2 ((w2.setCell ⟨w.heap.size + 1, 0, none⟩ (.slice a1 G.length c1)).setCell ⟨w.heap.size + 1, 1, none⟩ (.slice a2 C.length c2)) := (only_of_set w2 (w.heap.size + 1) 0 (.slice a1 G.length c1)).trans (only_of_set _ (w.heap.size + 1) 1 (.slice a2 C.length c2))
  have zd : W0.drew.heap.size = W0.heap.size := rfl
  have bF : Below w.heap.size w ((w2.setCell ⟨w.heap.size + 1, 0, none⟩ (.slice a1 G.length c1)).setCell ⟨w.heap.size + 1, 1, none⟩ (.slice a2 C.length c2)) := (HB2.setCell (p := ⟨w.heap.size + 1, 0, none⟩) (by simp) _).setCell (p := ⟨w.heap.size + 1, 1, none⟩) (by simp) _
  have o1 := own_only2 own1 oF (fun q hq e => by have := (own_lt own1 q hq).1; omega)
  have o2 := own_only2 own2 oF (fun q hq e => by have := (own_lt own2 q hq).1; omega)
  exact bodyPost_ret (v := .agg #[.slice a1 G.length c1, .slice a2 C.length c2]) (by simp [results, Try.results5, go_sem, d2]) rfl ⟨⟨a1, c1, a2, c2, rfl, own_base o1 (by omega), own_base o2 (by omega), dis⟩, bF⟩
end Go.Proofs.Ytoaokpmnjppfcaa
