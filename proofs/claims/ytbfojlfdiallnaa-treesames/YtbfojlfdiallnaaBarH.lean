import Derived.Test.YtbfojlfdiallnaaBarG
namespace Go.Proofs.Ytbfojlfdiallnaa
open Go.RowKit
set_option linter.unusedVariables false

theorem Has.mk0 {w : World} {b : Nat} {x y : Value} (h : Has w b #[x, y]) : w.cell? ⟨b, 0, none⟩ = some x ∧ w.cell? ⟨b, 1, none⟩ = some y := ⟨h.2.1 0, h.2.1 1⟩

set_option maxRecDepth 100000 in
set_option maxHeartbeats 2000000 in
theorem bare_any (p : Pl) (u : Value) (S1 : Nat → Prop) (w : World) (h : PlR S1 w u p) :
    Calls Try.prog 13 #[u] w fun e w' => (∃ u', e = .returned u' ∧ PlR (fun b => w.heap.size ≤ b) w' u' (barePl p)) ∧ Below w.heap.size w w' := by
  obtain ⟨vd, rfl, h⟩ := h
  obtain ⟨pn, L⟩ := p
  simp only at *
  have hC := fun (W : World) (hW : Below w.heap.size w W) => changedDecls_any L vd S1 W (h.below hW)
  obtain ⟨da, dc, rfl, -, -⟩ := Rows.any h
  clear h
  go_enter Try.func13, Try.ntmps13
  go_wp2
  have H1 : Has ((w.alloc (.cells #[.string pn, .slice da L.length dc] 30)).alloc (.cells #[.string ⟨#[]⟩, .slice none 0 0] 30)) w.heap.size #[.string pn, .slice da L.length dc] := (Has.new _ _ _ rfl).alloc _
  have H2 : Has ((w.alloc (.cells #[.string pn, .slice da L.length dc] 30)).alloc (.cells #[.string ⟨#[]⟩, .slice none 0 0] 30)) (w.heap.size + 1) #[.string ⟨#[]⟩, .slice none 0 0] := Has.new _ _ _ (by simp)
  have HB : Below w.heap.size w ((w.alloc (.cells #[.string pn, .slice da L.length dc] 30)).alloc (.cells #[.string ⟨#[]⟩, .slice none 0 0] 30)) := ((Below.refl _ _).alloc (Nat.le_refl _) _).alloc (by simp) _
  generalize ((w.alloc (.cells #[.string pn, .slice da L.length dc] 30)).alloc (.cells #[.string ⟨#[]⟩, .slice none 0 0] 30)) = W0 at *
  obtain ⟨_, i1, _⟩ := id H1
  obtain ⟨_, i2, i3⟩ := id H2
  have j0 := i1 0
  have j1 := i1 1
  have HBd := HB.drew
  have H1d : Has W0.drew w.heap.size #[.string pn, .slice da L.length dc] := H1
  have H2d : Has W0.drew (w.heap.size + 1) #[.string ⟨#[]⟩, .slice none 0 0] := H2
  go_region_held3 (fun w' => w'.cell? ⟨w.heap.size, 0, none⟩ = some (.string pn) ∧ w'.cell? ⟨w.heap.size, 1, none⟩ = some (.slice da L.length dc)) (first | exact ⟨(Has.mk0 (by assumption)).1, (Has.mk0 (by assumption)).2⟩ | go_keep) ((go_at_call 29; (with_reducible refine Calls.mono (hC _ (by assumption)) ?_); rintro e w1 ⟨⟨v1, rfl, s1⟩, hb1⟩; have r1 := s1.mv (S' := fun b => w.heap.size + 2 ≤ b) (Mv.weak fun b _ hbb => Nat.le_trans (has_lt (vs := #[.string ⟨#[]⟩, .slice none 0 0]) (by assumption)) hbb); clear s1; have q1 := r1; obtain ⟨ra, rc, rfl, -, -⟩ := Rows.any q1; clear q1; simp only [List.length_map] at r1; have HB1 : Below w.heap.size w w1 := bel_after (by assumption) (Below.size (B := w.heap.size) (by assumption)) hb1; have G1 : Has w1 (w.heap.size + 1) #[.string ⟨#[]⟩, .slice none 0 0] := Has.below (by assumption) hb1; have J1 : Has w1 w.heap.size #[.string pn, .slice da L.length dc] := Has.below (by assumption) hb1; obtain ⟨_, f1, _⟩ := id J1; obtain ⟨_, d1, e1⟩ := id G1; clear hb1 HBd H1d H2d HB H1 H2 i1 i2 i3 j0 j1 hC))
  go_wp2
  have MVf : Mv (fun b => w.heap.size + 2 ≤ b) w1 (fun b => w.heap.size ≤ b) (setCells w1 (w.heap.size + 1) 0 [.string pn, .slice ra L.length rc]) := (Mv.cells (S := fun b => w.heap.size + 2 ≤ b) (by intro h; have h' : w.heap.size + 2 ≤ w.heap.size + 1 := h; omega) _ _ _).trans (Mv.weak (S' := fun b => w.heap.size ≤ b) fun b _ (h : w.heap.size + 2 ≤ b) => (by omega : w.heap.size ≤ b))
  refine bodyPost_ret (v := .agg #[.string pn, .slice ra L.length rc]) (by simp [results, Try.results13, go_sem, d1]) rfl ⟨⟨_, rfl, _, rfl, r1.mv MVf⟩, ((HB1.setCell (by simp) _).setCell (by simp) _)⟩
end Go.Proofs.Ytbfojlfdiallnaa
