import Derived.Test.YtbfojlfdiallnaaBarA
namespace Go.Proofs.Ytbfojlfdiallnaa
open Go.RowKit
set_option linter.unusedVariables false

set_option maxRecDepth 100000 in
set_option maxHeartbeats 2000000 in
theorem bareStmt_any (x : St) (v : Value) (S1 : Nat → Prop) (w : World) (h1 : Exs S1 w v x.expr) :
    Calls Try.prog 55 #[.agg #[.int .i64 x.kind, .string x.name, .int .i64 x.ix, v, .int .i64 x.line, .int .i64 x.col]] w fun e w' => (∃ v', e = .returned (.agg #[.int .i64 x.kind, .string x.name, .int .i64 x.ix, v', .int .i64 0, .int .i64 0]) ∧ Exs (fun b => w.heap.size ≤ b) w' v' (x.expr.map bareNd)) ∧ Below w.heap.size w w' := by
  have hC := fun (W : World) (hW : Below w.heap.size w W) => changedNodes_any x.expr v S1 W (h1.below hW)
  obtain ⟨va, vc, rfl, -, -⟩ := Rows.any h1
  clear h1
  go_enter Try.func55, Try.ntmps55
  go_wp2_with (go_at_call 46; (with_reducible refine Calls.mono (hC _ (by exact ((Below.refl _ _).alloc (Nat.le_refl _) _).alloc (by simp) _)) ?_); rintro e w1 ⟨⟨v', rfl, hv'⟩, hb1⟩; have K1 := ((Has.new w _ _ rfl).alloc _).below hb1; have K2 : Has w1 (w.heap.size + 1) _ := (Has.new (w.alloc _) _ _ (by simp)).below hb1; obtain ⟨_, i1, i2⟩ := id K1; obtain ⟨_, i3, i4⟩ := id K2; have HB1 : Below w.heap.size w w1 := bel_after (((Below.refl _ _).alloc (Nat.le_refl _) _).alloc (by simp) _) (by simp; omega) hb1; have hv2 := hv'; obtain ⟨ra, rc, rfl, -, -⟩ := Rows.any hv2; clear hv2; simp only [List.length_map] at hv')
  refine bodyPost_ret (v := .agg #[.int .i64 x.kind, .string x.name, .int .i64 x.ix, .slice ra x.expr.length rc, .int .i64 0, .int .i64 0]) (by simp [results, Try.results55, go_sem, i3]) rfl ⟨⟨_, rfl, hv'.mv (Mv.trans (S' := fun b => w.heap.size + 2 ≤ b) (Mv.weak fun b _ (h : _ ≤ b) => (by simpa using h : w.heap.size + 2 ≤ b)) (Mv.trans ((((((((Mv.refl _ _).trans (Mv.set (by intro h; have h' : w.heap.size + 2 ≤ _ := h; omega))).trans (Mv.set (by intro h; have h' : w.heap.size + 2 ≤ _ := h; omega))).trans (Mv.set (by intro h; have h' : w.heap.size + 2 ≤ _ := h; omega))).trans (Mv.set (by intro h; have h' : w.heap.size + 2 ≤ _ := h; omega))).trans (Mv.set (by intro h; have h' : w.heap.size + 2 ≤ _ := h; omega))).trans (Mv.set (by intro h; have h' : w.heap.size + 2 ≤ _ := h; omega))).trans (Mv.set (by intro h; have h' : w.heap.size + 2 ≤ _ := h; omega))) (Mv.weak fun b _ (h : w.heap.size + 2 ≤ b) => (by omega : w.heap.size ≤ b))))⟩, (((((((HB1.setCell (by simp) _).setCell (by simp) _).setCell (by simp) _).setCell (by simp) _).setCell (by simp) _).setCell (by simp) _).setCell (by simp) _)⟩

set_option maxRecDepth 100000 in
set_option maxHeartbeats 2000000 in
theorem changedStmts_any (L : List St) (u : Value) (S1 : Nat → Prop) (w : World) (h1 : Sts S1 w u L) :
    Calls Try.prog 54 #[u, .func (.func 55) #[] #[]] w fun e w' => (∃ v', e = .returned v' ∧ Sts (fun b => w.heap.size ≤ b) w' v' (L.map bareSt)) ∧ Below w.heap.size w w' := by
  obtain ⟨a1, c1, rfl, hlen, k1⟩ := Rows.any h1
  obtain ⟨i0, hi, hi0, hi1, hi2⟩ := info_parts info85
  clear h1
  go_enter Try.func54, Try.ntmps54
  go_wp2_with (refine wpList_make_full _ rfl _ _ 65 rfl w.heap.size 85 i0 _ 6 Try.underlying65 hi hi0 hi1 .i64 .i64 (L.length : Int) (L.length : Int) L.length rfl rfl rfl rfl (by rw [hi2]; omega) (by unfold maxLen; omega) (Nat.le_refl _) ?_; intro W0 own0 hg0)
  have HB0 := grown_none hg0
  clear hg0
  go_loopw [13] (fun t wr => ∃ (k : Nat) (xs : List Value), k ≤ L.length ∧ t = .int .i64 (k : Int) ∧ Hid (wr.ownsRow w.heap.size 85 6 (.slice (some ⟨w.heap.size, 0, none⟩) L.length L.length) L.length xs) ∧ Hid (Pre 6 StR (fun b => w.heap.size < b) wr xs (L.map bareSt) k) ∧ Below w.heap.size w wr) (fun t _ => L.length - (intOf t).toNat)
  case atStart => exact ⟨0, _, by omega, rfl, own0, Pre.zero _ _ _ _ _ _, HB0⟩
  case round =>
    obtain ⟨k, xs, hk, rfl, own, pre, hb⟩ := hrel
    have hgw : w.heap.size < wr.heap.size := (own_lt own.out _ rfl).2
    by_cases hlt : k < L.length
    · obtain ⟨g1, o1, rfl, _, hg1, P1⟩ := k1.resolve_left (by intro e; rw [e] at hlt; simp at hlt)
      obtain ⟨cs1, _, ⟨v, rfl, vN⟩, p⟩ := P1 k hlt
      have hF := fun (W : World) (hW : Below w.heap.size w W) => bareStmt_any L[k] _ S1 W (vN.below hW)
      obtain ⟨va, vc, rfl, -, -⟩ := Rows.any vN
      have p0 := (hb.cell (p := ⟨g1, _, none⟩) hg1).trans (p 0 _ rfl)
      have p1 := (hb.cell (p := ⟨g1, _, none⟩) hg1).trans (p 1 _ rfl)
      have p2 := (hb.cell (p := ⟨g1, _, none⟩) hg1).trans (p 2 _ rfl)
      have p3 := (hb.cell (p := ⟨g1, _, none⟩) hg1).trans (p 3 _ rfl)
      have p4 := (hb.cell (p := ⟨g1, _, none⟩) hg1).trans (p 4 _ rfl)
      have p5 := (hb.cell (p := ⟨g1, _, none⟩) hg1).trans (p 5 _ rfl)
      have hxl : xs.length = (L.map bareSt).length * 6 := by rw [own.out.1]; simp
      have hfx : ∀ h, (L.map bareSt)[k]'h = bareSt L[k] := fun h => by simp
      have t1 : (k : Int) < (L.length : Int) := by omega
      have t0 : (0 : Int) ≤ (k : Int) := by omega
      have t2 : k + 1 ≤ L.length := hlt
      have hlt' : k < (L.map bareSt).length := by simpa using hlt
      clear p P1 k1 vN
      simp only [Nat.add_zero] at p0
      generalize L[k] = x at *
      have hfx' := hfx hlt'
      clear hfx
      go_wp2_with ((go_at_call 55; (with_reducible refine Calls.mono (hF _ (by exact hb.alloc hb.size _)) ?_); rintro e w1 ⟨⟨v', rfl, hv0⟩, hb1⟩; have hv' := hv0.mv (S' := fun b => w.heap.size < b) (Mv.weak fun b _ (hbb : _ ≤ b) => (by simp at hbb; omega)); clear hv0; have hv2 := hv'; obtain ⟨ra, rc, rfl, -, -⟩ := Rows.any hv2; clear hv2; simp only [List.length_map] at hv'; have own1 := own_bel (own.out.alloc _) hb1; have hex := own_some own1; obtain ⟨y0, z0⟩ := hex (k * 6) (by omega); obtain ⟨y1, z1⟩ := hex (k * 6 + 1) (by omega); obtain ⟨y2, z2⟩ := hex (k * 6 + 2) (by omega); obtain ⟨y3, z3⟩ := hex (k * 6 + 3) (by omega); obtain ⟨y4, z4⟩ := hex (k * 6 + 4) (by omega); obtain ⟨y5, z5⟩ := hex (k * 6 + 5) (by omega); have hfz := own1.frozenAt; clear hex; have hws : wr.heap.size + 1 ≤ w1.heap.size := (by have := hb1.size; simp at this; omega)))
      go_roundw
      case rel =>
        have MVc : Mv (fun b => w.heap.size < b) w1 (fun b => w.heap.size < b) (setCells w1 w.heap.size (k * 6) [.int .i64 x.kind, .string x.name, .int .i64 x.ix, .slice ra x.expr.length rc, .int .i64 0, .int .i64 0]) := Mv.cells (S := fun b => w.heap.size < b) (fun h => Nat.lt_irrefl _ h) _ _ _
        have MVr : Mv (fun b => w.heap.size < b) wr (fun b => w.heap.size < b) (setCells w1 w.heap.size (k * 6) [.int .i64 x.kind, .string x.name, .int .i64 x.ix, .slice ra x.expr.length rc, .int .i64 0, .int .i64 0]) := ((Mv.below ((Below.refl _ _).alloc (Nat.le_refl _) _)).trans (Mv.below hb1)).trans MVc
        have HB1 : Below w.heap.size w w1 := bel_after (hb.alloc hb.size _) (by simp; omega) hb1
        have hnew : StR (fun b => w.heap.size < b) (setCells w1 w.heap.size (k * 6) [.int .i64 x.kind, .string x.name, .int .i64 x.ix, .slice ra x.expr.length rc, .int .i64 0, .int .i64 0]) [.int .i64 x.kind, .string x.name, .int .i64 x.ix, .slice ra x.expr.length rc, .int .i64 0, .int .i64 0] ((L.map bareSt)[k]'hlt') := by rw [hfx']; exact ⟨_, rfl, hv'.mv MVc⟩
        have hpre : Pre 6 StR (fun b => w.heap.size < b) (setCells w1 w.heap.size (k * 6) [.int .i64 x.kind, .string x.name, .int .i64 x.ix, .slice ra x.expr.length rc, .int .i64 0, .int .i64 0]) (setAll xs (k * 6) [.int .i64 x.kind, .string x.name, .int .i64 x.ix, .slice ra x.expr.length rc, .int .i64 0, .int .i64 0]) (L.map bareSt) (k + 1) := Pre.put (pre.out.mv (fun _ _ h => h.mv MVr)) hxl hlt' rfl hnew
        exact ⟨k + 1, setAll xs (k * 6) [.int .i64 x.kind, .string x.name, .int .i64 x.ix, .slice ra x.expr.length rc, .int .i64 0, .int .i64 0], by omega, by go_num, own_stored [.int .i64 x.kind, .string x.name, .int .i64 x.ix, .slice ra x.expr.length rc, .int .i64 0, .int .i64 0] w1 xs (k * 6) own1, hpre, below_cells (Nat.le_refl _) [.int .i64 x.kind, .string x.name, .int .i64 x.ix, .slice ra x.expr.length rc, .int .i64 0, .int .i64 0] w1 (k * 6) HB1⟩
      case measure => simp [intOf]; omega
    · have t1 : ¬ (k : Int) < (L.length : Int) := by omega
      obtain rfl : k = L.length := by omega
      clear k1
      go_wp2
      go_ret
      refine ⟨⟨_, rfl, ?_⟩, hb⟩
      have hP : Pre 6 StR (fun b => w.heap.size ≤ b) wr xs (L.map bareSt) (L.map bareSt).length := by
        rw [List.length_map]; exact pre.out.mv (fun _ _ h => h.mv (Mv.weak fun b _ (hbb : w.heap.size < b) => Nat.le_of_lt hbb))
      have hown : wr.ownsRow w.heap.size 85 6 (.slice (some ⟨w.heap.size, 0, none⟩) (L.map bareSt).length L.length) (L.map bareSt).length xs := by rw [List.length_map]; exact own.out
      have := Els.own (n := L.length) (c' := L.length) (mx := 1954687338211) (hP.els (by rw [hown.1])) hown hgw (Nat.le_refl _) (by simp) (Nat.le_refl _) hlen
      rw [List.take_of_length_le (by simp)] at this
      exact this
end Go.Proofs.Ytbfojlfdiallnaa
