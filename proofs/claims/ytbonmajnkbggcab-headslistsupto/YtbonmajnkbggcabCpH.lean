import Derived.Test.YtbonmajnkbggcabHdA
import Derived.Deep.RegionHeld3
namespace Go.Proofs.Ytbonmajnkbggcab
open Go.RowKit
set_option linter.unusedVariables false


theorem info3' : (Try.prog.info? 3).map (fun i => (i.zero, i.size, i.bytes)) = some (some (.int .i64 0), 1, 8) := by kernel_rfl
theorem info21 : (Try.prog.info? 21).map (fun i => (i.zero, i.size, i.bytes)) = some (some (.int .i32 0), 1, 4) := by kernel_rfl
/-- Three lists in memory of their own. -/
structure CpH (B : Nat) (w : World) (v1 v2 v3 : Value) (A I W : List Int) : Prop where
  a : w.ownsRow B 3 1 v1 A.length (cellsF n64 A)
  i : w.ownsRow B 21 1 v2 I.length (cellsF n32 I)
  w : w.ownsRow B 21 1 v3 W.length (cellsF n32 W)
  ai : ∀ q, v1.ownBlock = some q → v2.ownBlock ≠ some q
  aw : ∀ q, v1.ownBlock = some q → v3.ownBlock ≠ some q
  iw : ∀ q, v2.ownBlock = some q → v3.ownBlock ≠ some q
set_option maxRecDepth 100000 in
set_option maxHeartbeats 4000000 in
theorem copyHeads_any (A I W : List Int) (v1 v2 v3 : Value) (w : World) (h1 : Fl 1 n64 w v1 A) (h2 : Fl 1 n32 w v2 I) (h3 : Fl 1 n32 w v3 W) (lA : A.length ≤ 17592186044000) (lI : I.length ≤ 35184372088000) (lW : W.length ≤ 35184372088000) :
    Calls Try.prog 27 #[.agg #[v1, v2, v3]] w fun e w' => (∃ a1 c1 a2 c2 a3 c3, e = .returned (.agg #[.slice a1 A.length c1, .slice a2 I.length c2, .slice a3 W.length c3]) ∧ CpH w.heap.size w' (.slice a1 A.length c1) (.slice a2 I.length c2) (.slice a3 W.length c3) A I W) ∧ Below w.heap.size w w' := by
  obtain ⟨ga, gc, rfl, -⟩ := h1.any
  obtain ⟨ia, ic, rfl, -⟩ := h2.any
  obtain ⟨wa, wc, rfl, -⟩ := h3.any
  have hA := fun (X : World) (hX : Below w.heap.size w X) => fl_src n64_len (by decide) (h1.below hX)
  have hI := fun (X : World) (hX : Below w.heap.size w X) => fl_src n32_len (by decide) (h2.below hX)
  have hW := fun (X : World) (hX : Below w.heap.size w X) => fl_src n32_len (by decide) (h3.below hX)
  clear h1 h2 h3
  obtain ⟨i3', hi, hi0, hi1, hi2⟩ := info_parts info3'
  obtain ⟨i21, hj, hj0, hj1, hj2⟩ := info_parts info21
  go_enter Try.func27, Try.ntmps27
  go_wp2
  have H1 : Has ((w.alloc (.cells #[.slice ga A.length gc, .slice ia I.length ic, .slice wa W.length wc] 29)).alloc (.cells #[.slice none 0 0, .slice none 0 0, .slice none 0 0] 29)) w.heap.size #[.slice ga A.length gc, .slice ia I.length ic, .slice wa W.length wc] := (Has.new _ _ _ rfl).alloc _
  have H2 : Has ((w.alloc (.cells #[.slice ga A.length gc, .slice ia I.length ic, .slice wa W.length wc] 29)).alloc (.cells #[.slice none 0 0, .slice none 0 0, .slice none 0 0] 29)) (w.heap.size + 1) #[.slice none 0 0, .slice none 0 0, .slice none 0 0] := Has.new _ _ _ (by simp)
  have HB : Below w.heap.size w ((w.alloc (.cells #[.slice ga A.length gc, .slice ia I.length ic, .slice wa W.length wc] 29)).alloc (.cells #[.slice none 0 0, .slice none 0 0, .slice none 0 0] 29)) := belA
  generalize ((w.alloc (.cells #[.slice ga A.length gc, .slice ia I.length ic, .slice wa W.length wc] 29)).alloc (.cells #[.slice none 0 0, .slice none 0 0, .slice none 0 0] 29)) = W0 at *
  obtain ⟨i1, i2, i3⟩ := id H2
  obtain ⟨j1, j2, j3⟩ := id H1
  have z0 : w.heap.size + 2 ≤ W0.heap.size := H2.1
  have HBd := HB.drew
  have H1d : Has W0.drew w.heap.size #[.slice ga A.length gc, .slice ia I.length ic, .slice wa W.length wc] := H1
  have H2d : Has W0.drew (w.heap.size + 1) #[.slice none 0 0, .slice none 0 0, .slice none 0 0] := H2
  go_region_held3 (fun w' => w'.cell? ⟨w.heap.size, 0, none⟩ = some (.slice ga A.length gc) ∧ w'.cell? ⟨w.heap.size, 1, none⟩ = some (.slice ia I.length ic) ∧ w'.cell? ⟨w.heap.size, 2, none⟩ = some (.slice wa W.length wc)) (first | exact has3 (by assumption) | go_keep) (first
    | (refine step_copy rfl _ _ 26 rfl 3 i3' _ 1 8 Try.underlying26 hi hi0 hi1 hi2 rfl (by decide) ga A.length gc (cellsF n64 A) rfl rfl (cellsF_len n64_len _) (hA _ (by assumption)).1 (cellsF_one n64_one _) (hA _ (by assumption)).2 (by unfold maxLen; omega) (by omega) ?_; intro a1 c1 w1 own1 hb1; have z1 := hb1.size; have HB1 : Below w.heap.size w w1 := bel_after (by assumption) (Below.size (B := w.heap.size) (by assumption)) hb1; have J1 : Has w1 w.heap.size #[.slice ga A.length gc, .slice ia I.length ic, .slice wa W.length wc] := Has.below (by assumption) hb1; have G1 : Has w1 (w.heap.size + 1) #[.slice none 0 0, .slice none 0 0, .slice none 0 0] := Has.below (by assumption) hb1; obtain ⟨_, f1, _⟩ := id J1; obtain ⟨_, d1, e1⟩ := id G1; clear hb1; (try clear HBd H1d H2d HB H1 H2 i1 i2 i3 j1 j2 j3); skip)
    | (refine step_copy rfl _ _ 27 rfl 21 i21 _ 1 4 Try.underlying27 hj hj0 hj1 hj2 rfl (by decide) ia I.length ic (cellsF n32 I) rfl rfl (cellsF_len n32_len _) (hI _ (by assumption)).1 (cellsF_one n32_one _) (hI _ (by assumption)).2 (by unfold maxLen; omega) (by omega) ?_; intro a2 c2 w2 own2 hb2; have ds12 : ∀ q, (Value.slice a1 A.length c1).ownBlock = some q → (Value.slice a2 I.length c2).ownBlock ≠ some q := (fun q h1 h2 => by have e1 := (own_lt own1 q h1).2; have e2 := (own_lt own2 q h2).1; (try simp at e2); omega); have z2 := hb2.size; replace own1 := own_bel own1 hb2; have HB2 : Below w.heap.size w w2 := bel_after (by assumption) (Below.size (B := w.heap.size) (by assumption)) hb2; have J2 : Has w2 w.heap.size #[.slice ga A.length gc, .slice ia I.length ic, .slice wa W.length wc] := Has.below (by assumption) hb2; have G2 : Has w2 (w.heap.size + 1) #[.slice none 0 0, .slice none 0 0, .slice none 0 0] := Has.below (by assumption) hb2; obtain ⟨_, f2, _⟩ := id J2; obtain ⟨_, d2, e2⟩ := id G2; clear hb2; (try clear HBd H1d H2d HB H1 H2 i1 i2 i3 j1 j2 j3); skip; (try clear HB1 J1 G1 f1 d1 e1))
    | (refine step_copy rfl _ _ 27 rfl 21 i21 _ 1 4 Try.underlying27 hj hj0 hj1 hj2 rfl (by decide) wa W.length wc (cellsF n32 W) rfl rfl (cellsF_len n32_len _) (hW _ (by assumption)).1 (cellsF_one n32_one _) (hW _ (by assumption)).2 (by unfold maxLen; omega) (by omega) ?_; intro a3 c3 w3 own3 hb3; have ds13 : ∀ q, (Value.slice a1 A.length c1).ownBlock = some q → (Value.slice a3 W.length c3).ownBlock ≠ some q := (fun q h1 h2 => by have e1 := (own_lt own1 q h1).2; have e2 := (own_lt own3 q h2).1; (try simp at e2); omega); have ds23 : ∀ q, (Value.slice a2 I.length c2).ownBlock = some q → (Value.slice a3 W.length c3).ownBlock ≠ some q := (fun q h1 h2 => by have e1 := (own_lt own2 q h1).2; have e2 := (own_lt own3 q h2).1; (try simp at e2); omega); have z3 := hb3.size; replace own1 := own_bel own1 hb3; replace own2 := own_bel own2 hb3; have HB3 : Below w.heap.size w w3 := bel_after (by assumption) (Below.size (B := w.heap.size) (by assumption)) hb3; have J3 : Has w3 w.heap.size #[.slice ga A.length gc, .slice ia I.length ic, .slice wa W.length wc] := Has.below (by assumption) hb3; have G3 : Has w3 (w.heap.size + 1) #[.slice none 0 0, .slice none 0 0, .slice none 0 0] := Has.below (by assumption) hb3; obtain ⟨_, f3, _⟩ := id J3; obtain ⟨_, d3, e3⟩ := id G3; clear hb3; (try clear HBd H1d H2d HB H1 H2 i1 i2 i3 j1 j2 j3); skip; (try clear HB2 J2 G2 f2 d2 e2)))
  go_wp2
  have oF : Only (fun q => q = w.heap.size + 1) w3 (((w3.setCell ⟨w.heap.size + 1, 0, none⟩ (.slice a1 A.length c1)).setCell ⟨w.heap.size + 1, 1, none⟩ (.slice a2 I.length c2)).setCell ⟨w.heap.size + 1, 2, none⟩ (.slice a3 W.length c3)) := ((only_of_set w3 (w.heap.size + 1) 0 (.slice a1 A.length c1)).trans (only_of_set _ (w.heap.size + 1) 1 (.slice a2 I.length c2))).trans (only_of_set _ (w.heap.size + 1) 2 (.slice a3 W.length c3))
  have zd : W0.drew.heap.size = W0.heap.size := rfl
  have bF : Below w.heap.size w (((w3.setCell ⟨w.heap.size + 1, 0, none⟩ (.slice a1 A.length c1)).setCell ⟨w.heap.size + 1, 1, none⟩ (.slice a2 I.length c2)).setCell ⟨w.heap.size + 1, 2, none⟩ (.slice a3 W.length c3)) := ((HB3.setCell (p := ⟨w.heap.size + 1, 0, none⟩) (by simp) _).setCell (p := ⟨w.heap.size + 1, 1, none⟩) (by simp) _).setCell (p := ⟨w.heap.size + 1, 2, none⟩) (by simp) _
  have o1 := own_only2 own1 oF (fun q hq e => by have := (own_lt own1 q hq).1; omega)
  have o2 := own_only2 own2 oF (fun q hq e => by have := (own_lt own2 q hq).1; omega)
  have o3 := own_only2 own3 oF (fun q hq e => by have := (own_lt own3 q hq).1; omega)
  exact bodyPost_ret (v := .agg #[.slice a1 A.length c1, .slice a2 I.length c2, .slice a3 W.length c3]) (by simp [results, Try.results27, go_sem, d3]) rfl ⟨⟨a1, c1, a2, c2, a3, c3, rfl, own_base o1 (by omega), own_base o2 (by omega), own_base o3 (by omega), ds12, ds13, ds23⟩, bF⟩
end Go.Proofs.Ytbonmajnkbggcab
