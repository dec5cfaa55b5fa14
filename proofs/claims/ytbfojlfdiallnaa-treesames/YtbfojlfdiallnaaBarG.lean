import Derived.Test.YtbfojlfdiallnaaBarF
namespace Go.Proofs.Ytbfojlfdiallnaa
open Go.RowKit
set_option linter.unusedVariables false

set_option maxRecDepth 100000 in
set_option maxHeartbeats 2000000 in
theorem changedDecls_any (L : List Dc) (u : Value) (S1 : Nat → Prop) (w : World) (h1 : Dcs S1 w u L) :
    Calls Try.prog 29 #[u, .func (.func 30) #[] #[]] w fun e w' => (∃ v', e = .returned v' ∧ Dcs (fun b => w.heap.size ≤ b) w' v' (L.map bareDc)) ∧ Below w.heap.size w w' := by
  obtain ⟨a1, c1, rfl, hlen, k1⟩ := Rows.any h1
  obtain ⟨i0, hi, hi0, hi1, hi2⟩ := info_parts info70
  clear h1
  go_enter Try.func29, Try.ntmps29
  go_wp2_with (refine wpList_make_full _ rfl _ _ 28 rfl w.heap.size 70 i0 _ 15 Try.underlying28 hi hi0 hi1 .i64 .i64 (L.length : Int) (L.length : Int) L.length rfl rfl rfl rfl (by rw [hi2]; omega) (by unfold maxLen; omega) (Nat.le_refl _) ?_; intro W0 own0 hg0)
  have HB0 := grown_none hg0
  clear hg0
  go_loopw [13] (fun t wr => ∃ (k : Nat) (xs : List Value), k ≤ L.length ∧ t = .int .i64 (k : Int) ∧ Hid (wr.ownsRow w.heap.size 70 15 (.slice (some ⟨w.heap.size, 0, none⟩) L.length L.length) L.length xs) ∧ Hid (Pre 15 DcR (fun b => w.heap.size < b) wr xs (L.map bareDc) k) ∧ Below w.heap.size w wr) (fun t _ => L.length - (intOf t).toNat)
  case atStart => exact ⟨0, _, by omega, rfl, own0, Pre.zero _ _ _ _ _ _, HB0⟩
  case round =>
    obtain ⟨k, xs, hk, rfl, own, pre, hb⟩ := hrel
    have hgw : w.heap.size < wr.heap.size := (own_lt own.out _ rfl).2
    by_cases hlt : k < L.length
    · obtain ⟨g1, o1, rfl, _, hg1, P1⟩ := k1.resolve_left (by intro e; rw [e] at hlt; simp at hlt)
      obtain ⟨cs1, _, ⟨v, ⟨s0, s1, s2, s3, s4⟩, rfl, vN, sN⟩, p⟩ := P1 k hlt
      have hF := fun (W : World) (hW : Below w.heap.size w W) => bareDecl_any L[k] _ ⟨_, _, _, _, _⟩ S1 W (vN.below hW) (sN.below hW)
      obtain ⟨va, vc, rfl, -, -⟩ := Rows.any vN
      obtain ⟨_, _, rfl, -, -⟩ := Rows.any sN.1
      obtain ⟨_, _, rfl, -, -⟩ := Rows.any sN.2.1
      obtain ⟨_, _, rfl, -, -⟩ := Rows.any sN.2.2.1
      obtain ⟨_, _, rfl, -, -⟩ := Rows.any sN.2.2.2.1
      obtain ⟨_, _, rfl, -, -⟩ := Rows.any sN.2.2.2.2
      have p0 := (hb.cell (p := ⟨g1, _, none⟩) hg1).trans (p 0 _ rfl)
      have p1 := (hb.cell (p := ⟨g1, _, none⟩) hg1).trans (p 1 _ rfl)
      have p2 := (hb.cell (p := ⟨g1, _, none⟩) hg1).trans (p 2 _ rfl)
      have p3 := (hb.cell (p := ⟨g1, _, none⟩) hg1).trans (p 3 _ rfl)
      have p4 := (hb.cell (p := ⟨g1, _, none⟩) hg1).trans (p 4 _ rfl)
      have p5 := (hb.cell (p := ⟨g1, _, none⟩) hg1).trans (p 5 _ rfl)
      have p6 := (hb.cell (p := ⟨g1, _, none⟩) hg1).trans (p 6 _ rfl)
      have p7 := (hb.cell (p := ⟨g1, _, none⟩) hg1).trans (p 7 _ rfl)
      have p8 := (hb.cell (p := ⟨g1, _, none⟩) hg1).trans (p 8 _ rfl)
      have p9 := (hb.cell (p := ⟨g1, _, none⟩) hg1).trans (p 9 _ rfl)
      have p10 := (hb.cell (p := ⟨g1, _, none⟩) hg1).trans (p 10 _ rfl)
      have p11 := (hb.cell (p := ⟨g1, _, none⟩) hg1).trans (p 11 _ rfl)
      have p12 := (hb.cell (p := ⟨g1, _, none⟩) hg1).trans (p 12 _ rfl)
      have p13 := (hb.cell (p := ⟨g1, _, none⟩) hg1).trans (p 13 _ rfl)
      have p14 := (hb.cell (p := ⟨g1, _, none⟩) hg1).trans (p 14 _ rfl)
      have hxl : xs.length = (L.map bareDc).length * 15 := by rw [own.out.1]; simp
      have hfx : ∀ h, (L.map bareDc)[k]'h = bareDc L[k] := fun h => by simp
      have t1 : (k : Int) < (L.length : Int) := by omega
      have t0 : (0 : Int) ≤ (k : Int) := by omega
      have t2 : k + 1 ≤ L.length := hlt
      have hlt' : k < (L.map bareDc).length := by simpa using hlt
      clear p P1 k1 vN sN
      simp only [Nat.add_zero] at p0
      generalize L[k] = x at *
      have hfx' := hfx hlt'
      clear hfx
      go_wp2_with ((go_at_call 30; (with_reducible refine Calls.mono (hF _ (by exact hb.alloc hb.size _)) ?_); rintro e w1 ⟨⟨v', ⟨t0, t1, t2, t3, t4⟩, rfl, hv0, hs0⟩, hb1⟩; have hv' := hv0.mv (S' := fun b => w.heap.size < b) (Mv.weak fun b _ (hbb : _ ≤ b) => (by simp at hbb; omega)); have hs' := hs0.mv (S' := fun b => w.heap.size < b) (Mv.weak fun b _ (hbb : _ ≤ b) => (by simp at hbb; omega)); clear hv0 hs0; have hv2 := hv'; obtain ⟨ra, rc, rfl, -, -⟩ := Rows.any hv2; clear hv2; simp only [List.length_map] at hv'; have hs2 := hs'; obtain ⟨gga, ggc, rfl, -, -⟩ := Rows.any hs2.1; obtain ⟨gea, gec, rfl, -, -⟩ := Rows.any hs2.2.1; obtain ⟨gda, gdc, rfl, -, -⟩ := Rows.any hs2.2.2.1; obtain ⟨gla, glc, rfl, -, -⟩ := Rows.any hs2.2.2.2.1; obtain ⟨gna, gnc, rfl, -, -⟩ := Rows.any hs2.2.2.2.2; clear hs2; have own1 := own_bel (own.out.alloc _) hb1; have hex := own_some own1; obtain ⟨y0, z0⟩ := hex (k * 15) (by omega); obtain ⟨y1, z1⟩ := hex (k * 15 + 1) (by omega); obtain ⟨y2, z2⟩ := hex (k * 15 + 2) (by omega); obtain ⟨y3, z3⟩ := hex (k * 15 + 3) (by omega); obtain ⟨y4, z4⟩ := hex (k * 15 + 4) (by omega); obtain ⟨y5, z5⟩ := hex (k * 15 + 5) (by omega); obtain ⟨y6, z6⟩ := hex (k * 15 + 6) (by omega); obtain ⟨y7, z7⟩ := hex (k * 15 + 7) (by omega); obtain ⟨y8, z8⟩ := hex (k * 15 + 8) (by omega); obtain ⟨y9, z9⟩ := hex (k * 15 + 9) (by omega); obtain ⟨y10, z10⟩ := hex (k * 15 + 10) (by omega); obtain ⟨y11, z11⟩ := hex (k * 15 + 11) (by omega); obtain ⟨y12, z12⟩ := hex (k * 15 + 12) (by omega); obtain ⟨y13, z13⟩ := hex (k * 15 + 13) (by omega); obtain ⟨y14, z14⟩ := hex (k * 15 + 14) (by omega); have hfz := own1.frozenAt; clear hex; have hws : wr.heap.size + 1 ≤ w1.heap.size := (by have := hb1.size; simp at this; omega)))
      go_roundw
      case rel =>
        have MVc : Mv (fun b => w.heap.size < b) w1 (fun b => w.heap.size < b) (setCells w1 w.heap.size (k * 15) [.int .i64 x.kind, .int .i64 0, .int .i64 0, .string x.name, .string x.with_, .int .i64 x.sort, .int .i32 x.n0, .int .i32 x.n1, .int .i32 x.n2, .slice ra x.expr.length rc, .slice gga (bareSg x.sg).green.length ggc, .slice gea (bareSg x.sg).enter.length gec, .slice gda (bareSg x.sg).during.length gdc, .slice gla (bareSg x.sg).leave.length glc, .slice gna (bareSg x.sg).nexts.length gnc]) := Mv.cells (S := fun b => w.heap.size < b) (fun h => Nat.lt_irrefl _ h) _ _ _
        have MVr : Mv (fun b => w.heap.size < b) wr (fun b => w.heap.size < b) (setCells w1 w.heap.size (k * 15) [.int .i64 x.kind, .int .i64 0, .int .i64 0, .string x.name, .string x.with_, .int .i64 x.sort, .int .i32 x.n0, .int .i32 x.n1, .int .i32 x.n2, .slice ra x.expr.length rc, .slice gga (bareSg x.sg).green.length ggc, .slice gea (bareSg x.sg).enter.length gec, .slice gda (bareSg x.sg).during.length gdc, .slice gla (bareSg x.sg).leave.length glc, .slice gna (bareSg x.sg).nexts.length gnc]) := ((Mv.below ((Below.refl _ _).alloc (Nat.le_refl _) _)).trans (Mv.below hb1)).trans MVc
        have HB1 : Below w.heap.size w w1 := bel_after (hb.alloc hb.size _) (by simp; omega) hb1
        have hnew : DcR (fun b => w.heap.size < b) (setCells w1 w.heap.size (k * 15) [.int .i64 x.kind, .int .i64 0, .int .i64 0, .string x.name, .string x.with_, .int .i64 x.sort, .int .i32 x.n0, .int .i32 x.n1, .int .i32 x.n2, .slice ra x.expr.length rc, .slice gga (bareSg x.sg).green.length ggc, .slice gea (bareSg x.sg).enter.length gec, .slice gda (bareSg x.sg).during.length gdc, .slice gla (bareSg x.sg).leave.length glc, .slice gna (bareSg x.sg).nexts.length gnc]) [.int .i64 x.kind, .int .i64 0, .int .i64 0, .string x.name, .string x.with_, .int .i64 x.sort, .int .i32 x.n0, .int .i32 x.n1, .int .i32 x.n2, .slice ra x.expr.length rc, .slice gga (bareSg x.sg).green.length ggc, .slice gea (bareSg x.sg).enter.length gec, .slice gda (bareSg x.sg).during.length gdc, .slice gla (bareSg x.sg).leave.length glc, .slice gna (bareSg x.sg).nexts.length gnc] ((L.map bareDc)[k]'hlt') := by rw [hfx']; exact ⟨_, ⟨_, _, _, _, _⟩, rfl, hv'.mv MVc, hs'.mv MVc⟩
        have hpre : Pre 15 DcR (fun b => w.heap.size < b) (setCells w1 w.heap.size (k * 15) [.int .i64 x.kind, .int .i64 0, .int .i64 0, .string x.name, .string x.with_, .int .i64 x.sort, .int .i32 x.n0, .int .i32 x.n1, .int .i32 x.n2, .slice ra x.expr.length rc, .slice gga (bareSg x.sg).green.length ggc, .slice gea (bareSg x.sg).enter.length gec, .slice gda (bareSg x.sg).during.length gdc, .slice gla (bareSg x.sg).leave.length glc, .slice gna (bareSg x.sg).nexts.length gnc]) (setAll xs (k * 15) [.int .i64 x.kind, .int .i64 0, .int .i64 0, .string x.name, .string x.with_, .int .i64 x.sort, .int .i32 x.n0, .int .i32 x.n1, .int .i32 x.n2, .slice ra x.expr.length rc, .slice gga (bareSg x.sg).green.length ggc, .slice gea (bareSg x.sg).enter.length gec, .slice gda (bareSg x.sg).during.length gdc, .slice gla (bareSg x.sg).leave.length glc, .slice gna (bareSg x.sg).nexts.length gnc]) (L.map bareDc) (k + 1) := Pre.put (pre.out.mv (fun _ _ h => h.mv MVr)) hxl hlt' rfl hnew
        exact ⟨k + 1, setAll xs (k * 15) [.int .i64 x.kind, .int .i64 0, .int .i64 0, .string x.name, .string x.with_, .int .i64 x.sort, .int .i32 x.n0, .int .i32 x.n1, .int .i32 x.n2, .slice ra x.expr.length rc, .slice gga (bareSg x.sg).green.length ggc, .slice gea (bareSg x.sg).enter.length gec, .slice gda (bareSg x.sg).during.length gdc, .slice gla (bareSg x.sg).leave.length glc, .slice gna (bareSg x.sg).nexts.length gnc], by omega, by go_num, own_stored [.int .i64 x.kind, .int .i64 0, .int .i64 0, .string x.name, .string x.with_, .int .i64 x.sort, .int .i32 x.n0, .int .i32 x.n1, .int .i32 x.n2, .slice ra x.expr.length rc, .slice gga (bareSg x.sg).green.length ggc, .slice gea (bareSg x.sg).enter.length gec, .slice gda (bareSg x.sg).during.length gdc, .slice gla (bareSg x.sg).leave.length glc, .slice gna (bareSg x.sg).nexts.length gnc] w1 xs (k * 15) own1, hpre, below_cells (Nat.le_refl _) [.int .i64 x.kind, .int .i64 0, .int .i64 0, .string x.name, .string x.with_, .int .i64 x.sort, .int .i32 x.n0, .int .i32 x.n1, .int .i32 x.n2, .slice ra x.expr.length rc, .slice gga (bareSg x.sg).green.length ggc, .slice gea (bareSg x.sg).enter.length gec, .slice gda (bareSg x.sg).during.length gdc, .slice gla (bareSg x.sg).leave.length glc, .slice gna (bareSg x.sg).nexts.length gnc] w1 (k * 15) HB1⟩
      case measure => simp [intOf]; omega
    · have t1 : ¬ (k : Int) < (L.length : Int) := by omega
      obtain rfl : k = L.length := by omega
      clear k1
      go_wp2
      go_ret
      refine ⟨⟨_, rfl, ?_⟩, hb⟩
      have hP : Pre 15 DcR (fun b => w.heap.size ≤ b) wr xs (L.map bareDc) (L.map bareDc).length := by
        rw [List.length_map]; exact pre.out.mv (fun _ _ h => h.mv (Mv.weak fun b _ (hbb : w.heap.size < b) => Nat.le_of_lt hbb))
      have hown : wr.ownsRow w.heap.size 70 15 (.slice (some ⟨w.heap.size, 0, none⟩) (L.map bareDc).length L.length) (L.map bareDc).length xs := by rw [List.length_map]; exact own.out
      have := Els.own (n := L.length) (c' := L.length) (mx := 628292358710) (hP.els (by rw [hown.1])) hown hgw (Nat.le_refl _) (by simp) (Nat.le_refl _) hlen
      rw [List.take_of_length_le (by simp)] at this
      exact this
end Go.Proofs.Ytbfojlfdiallnaa
