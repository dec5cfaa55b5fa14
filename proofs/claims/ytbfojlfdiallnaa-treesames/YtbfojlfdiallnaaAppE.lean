import Derived.Test.YtbfojlfdiallnaaAppD
namespace Go.Proofs.Ytbfojlfdiallnaa
open Go.RowKit
set_option linter.unusedVariables false

theorem HBtrans {B : Nat} {w wr w2 : World} (h : Below B w wr) (h2 : Below wr.heap.size wr w2) (hB : B ≤ wr.heap.size := by first | exact h.size | omega) : Below B w w2 := h.trans (h2.mono hB)
theorem Has.cells {b c : Nat} {vs : Array Value} (hc : b ≠ c) : ∀ (cs : List Value) (o : Nat) {w : World}, Has w b vs → Has (setCells w c o cs) b vs
  | [], _, _, h => h
  | v :: cs, o, _, h => Has.cells hc cs (o + 1) (h.far hc v)

set_option maxRecDepth 100000 in
set_option maxHeartbeats 4000000 in
theorem refBare_any (p : Pl) (u : Value) (S1 : Nat → Prop) (w : World) (h : PlR S1 w u p) :
    Calls Try.prog 15 #[u] w fun e w' => (∃ u', e = .returned u' ∧ PlR (fun b => w.heap.size ≤ b) w' u' (barePl p)) ∧ Below w.heap.size w w' := by
  obtain ⟨dv, rfl, h⟩ := h
  obtain ⟨pn, L⟩ := p
  simp only at *
  obtain ⟨da, dc, rfl, hlen, dk⟩ := Rows.any h
  clear h
  obtain ⟨i0, hi, hi0, hi1, hi2⟩ := info_parts info70
  go_enter Try.func15, Try.ntmps15
  go_wp2
  have H1 : Has (((w.alloc (.cells #[.string pn, .slice da L.length dc] 30)).alloc (.cells #[.string ⟨#[]⟩, .slice none 0 0] 30)).alloc (.cells #[.string pn, .slice none 0 0] 30)) w.heap.size #[.string pn, .slice da L.length dc] := ((Has.new _ _ _ rfl).alloc _).alloc _
  have H2 : Has (((w.alloc (.cells #[.string pn, .slice da L.length dc] 30)).alloc (.cells #[.string ⟨#[]⟩, .slice none 0 0] 30)).alloc (.cells #[.string pn, .slice none 0 0] 30)) (w.heap.size + 1) #[.string ⟨#[]⟩, .slice none 0 0] := (Has.new _ _ _ (by simp)).alloc _
  have H3 : Has (((w.alloc (.cells #[.string pn, .slice da L.length dc] 30)).alloc (.cells #[.string ⟨#[]⟩, .slice none 0 0] 30)).alloc (.cells #[.string pn, .slice none 0 0] 30)) (w.heap.size + 1 + 1) #[.string pn, .slice none 0 0] := Has.new _ _ _ (by simp)
  have HB : Below w.heap.size w (((w.alloc (.cells #[.string pn, .slice da L.length dc] 30)).alloc (.cells #[.string ⟨#[]⟩, .slice none 0 0] 30)).alloc (.cells #[.string pn, .slice none 0 0] 30)) := (((Below.refl _ _).alloc (Nat.le_refl _) _).alloc (by simp) _).alloc (by simp; omega) _
  generalize (((w.alloc (.cells #[.string pn, .slice da L.length dc] 30)).alloc (.cells #[.string ⟨#[]⟩, .slice none 0 0] 30)).alloc (.cells #[.string pn, .slice none 0 0] 30)) = W0 at *
  go_loopw [4] (fun t4 wr => ∃ (k : Nat) (vd : Value) (xs : List Value), k ≤ L.length ∧ t4 = .int .i64 (k : Int) ∧ Hid (wr.ownsRow (w.heap.size + 3) 70 15 vd k xs) ∧ Hid (Els 15 DcR (Sx (w.heap.size + 3) vd) wr xs ((L.map bareDc).take k)) ∧ Hid (Has wr w.heap.size #[.string pn, .slice da L.length dc]) ∧ Hid (Has wr (w.heap.size + 1) #[.string ⟨#[]⟩, .slice none 0 0]) ∧ Hid (Has wr (w.heap.size + 1 + 1) #[.string pn, vd]) ∧ Below w.heap.size w wr) (fun t _ => L.length - (intOf t).toNat)
  case atStart => exact ⟨0, _, [], by omega, rfl, World.ownsRow_nil _ _ _ _, Els.nil _ _ _ _, H1, H2, H3, HB⟩
  case round =>
    clear H1 H2 H3 HB
    obtain ⟨k, vd, xs, hk, rfl, own, els, J1, J2, J3, hb⟩ := hrel
    obtain ⟨z1, f1, _⟩ := id J1.out
    obtain ⟨z2, f2, f2'⟩ := id J2.out
    obtain ⟨z3, f3, f4⟩ := id J3.out
    by_cases hlt : k < L.length
    · obtain ⟨g1, o1, rfl, _, hg1, P1⟩ := dk.resolve_left (by intro e; rw [e] at hlt; simp at hlt)
      obtain ⟨cs1, _, ⟨v, ⟨s0, s1, s2, s3, s4⟩, rfl, vN, sN⟩, p⟩ := P1 k hlt
      have hF := fun (W : World) (hW : Below w.heap.size w W) => refBareExpr_exs L[k].expr _ S1 W (vN.below hW)
      have hG := fun (W : World) (hW : Below w.heap.size w W) => refBareStage_any L[k].sg ⟨s0, s1, s2, s3, s4⟩ S1 W (sN.below hW)
      obtain ⟨va, vc, rfl, -, -⟩ := Rows.any vN
      obtain ⟨_, _, rfl, -, -⟩ := Rows.any sN.1
      obtain ⟨_, _, rfl, -, -⟩ := Rows.any sN.2.1
      obtain ⟨_, _, rfl, -, -⟩ := Rows.any sN.2.2.1
      obtain ⟨_, _, rfl, -, -⟩ := Rows.any sN.2.2.2.1
      obtain ⟨_, _, rfl, -, -⟩ := Rows.any sN.2.2.2.2
      have p0 := (hb.cell (p := ⟨g1, _, none⟩) hg1).trans (p 0 _ rfl)
      have p1 := (hb.cell (p := ⟨g1, _, none⟩) hg1).trans (p 1 _ rfl)
      have p2 := (hb.cell (p := ⟨g1, _, none⟩) hg1).trans (p 2 _ rfl)
      have p3 := (hb.cell (p := ⟨g1, _, none⟩) hg1).trans (p 3 _ rfl)
      have p4 := (hb.cell (p := ⟨g1, _, none⟩) hg1).trans (p 4 _ rfl)
      have p5 := (hb.cell (p := ⟨g1, _, none⟩) hg1).trans (p 5 _ rfl)
      have p6 := (hb.cell (p := ⟨g1, _, none⟩) hg1).trans (p 6 _ rfl)
      have p7 := (hb.cell (p := ⟨g1, _, none⟩) hg1).trans (p 7 _ rfl)
      have p8 := (hb.cell (p := ⟨g1, _, none⟩) hg1).trans (p 8 _ rfl)
      have p9 := (hb.cell (p := ⟨g1, _, none⟩) hg1).trans (p 9 _ rfl)
      have p10 := (hb.cell (p := ⟨g1, _, none⟩) hg1).trans (p 10 _ rfl)
      have p11 := (hb.cell (p := ⟨g1, _, none⟩) hg1).trans (p 11 _ rfl)
      have p12 := (hb.cell (p := ⟨g1, _, none⟩) hg1).trans (p 12 _ rfl)
      have p13 := (hb.cell (p := ⟨g1, _, none⟩) hg1).trans (p 13 _ rfl)
      have p14 := (hb.cell (p := ⟨g1, _, none⟩) hg1).trans (p 14 _ rfl)
      have t1 : (k : Int) < (L.length : Int) := by omega
      have t0 : (0 : Int) ≤ (k : Int) := by omega
      have t2 : k + 1 ≤ L.length := hlt
      have hlt' : k < (L.map bareDc).length := by simpa using hlt
      have hfx : (L.map bareDc)[k]'hlt' = bareDc L[k] := by simp
      have hx : (L.map bareDc).take (k + 1) = (L.map bareDc).take k ++ [(L.map bareDc)[k]'hlt'] := take_push hlt'
      rw [hfx] at hx
      clear hfx p P1 dk vN sN
      simp only [Nat.add_zero] at p0
      have n1 : ¬ w.heap.size = wr.heap.size := by omega
      have n2 : ¬ w.heap.size + 1 = wr.heap.size := by omega
      have n3 : ¬ w.heap.size + 1 + 1 = wr.heap.size := by omega
      generalize L[k] = x at *
      go_wp2_with (first
        | (go_at_call 32; (with_reducible refine Calls.mono (hF _ (by exact hb.alloc hb.size _)) ?_); rintro e w1 ⟨⟨v', rfl, r0⟩, hb1⟩; have r1 := r0.mv (S' := fun b => wr.heap.size + 1 ≤ b) (Mv.weak fun b _ hbb => (by simpa using hbb)); clear r0; have q1 := r1; obtain ⟨ra, rc, rfl, -, -⟩ := Rows.any q1; clear q1; simp only [List.length_map] at r1; have K1 := (Has.new wr _ _ rfl).below hb1; obtain ⟨kz, i1, i2⟩ := id K1; have BW1 : Below wr.heap.size wr w1 := bel_after ((Below.refl _ _).alloc (Nat.le_refl _) _) (by simp) hb1; have HB1 : Below w.heap.size w w1 := bel_after (hb.alloc hb.size _) (by simp; have := hb.size; omega) hb1; clear hF hb1)
        | (go_at_call 33; (with_reducible refine Calls.mono (hG _ (by exact HB1.setCell (p := ⟨wr.heap.size, 9, none⟩) hb.size _)) ?_); rintro e w2 ⟨⟨⟨t0', t1', t2', t3', t4'⟩, rfl, r2⟩, hb2⟩; have r3 := r2.mv (S' := fun b => wr.heap.size + 1 ≤ b) (Mv.weak fun b _ hbb => (by have h' : w1.heap.size ≤ b := (by simpa [World.setCell] using hbb); omega)); clear r2; obtain ⟨g1', g2', g3', g4', g5'⟩ := r3; simp only [] at g1' g2' g3' g4' g5'; have k1 := g1'; obtain ⟨ga', gc', rfl, -, -⟩ := Rows.any k1; clear k1; have k1 := g2'; obtain ⟨ea', ec', rfl, -, -⟩ := Rows.any k1; clear k1; have k1 := g3'; obtain ⟨da', dc', rfl, -, -⟩ := Rows.any k1; clear k1; have k1 := g4'; obtain ⟨la', lc', rfl, -, -⟩ := Rows.any k1; clear k1; have k1 := g5'; obtain ⟨na', nc', rfl, -, -⟩ := Rows.any k1; clear k1; have L1 := (K1.set 9 (by simp) _).below hb2; have BW2 : Below wr.heap.size wr w2 := bel_after (BW1.setCell (p := ⟨wr.heap.size, 9, none⟩) (Nat.le_refl _) _) (by simp [World.setCell]; omega) hb2; have HB2 : Below w.heap.size w w2 := HBtrans hb BW2; have r4 := (r1.mv (Mv.set (g := wr.heap.size) (o := 9) (by intro h; have h' : wr.heap.size + 1 ≤ wr.heap.size := h; omega))).below hb2; have N1 := J1.out.below BW2; have N2 := J2.out.below BW2; have N3 := J3.out.below BW2; obtain ⟨lz, i5, i6⟩ := id L1; obtain ⟨_, i7, i8⟩ := id N3; clear hG hb2 r1 K1 i1 i2 L1 BW1 HB1)
        | (at_builtin; refine wpList_append_mine _ rfl _ _ 28 rfl (w.heap.size + 3) 70 i0 _ 15 224 Try.underlying28 hi hi0 hi1 hi2 rfl (by decide) vd k xs rfl (own_bel own.out ((below_cells (Nat.le_refl _) [.slice ga' (bareSg x.sg).green.length gc', .slice ea' (bareSg x.sg).enter.length ec', .slice da' (bareSg x.sg).during.length dc', .slice la' (bareSg x.sg).leave.length lc', .slice na' (bareSg x.sg).nexts.length nc'] w2 10 BW2).alloc (by have := BW2.size; simpa [setCells, World.setCell] using this) _)) ⟨w2.heap.size, 0, none⟩ 1 1 [.int .i64 x.kind, .int .i64 0, .int .i64 0, .string x.name, .string x.with_, .int .i64 x.sort, .int .i32 x.n0, .int .i32 x.n1, .int .i32 x.n2, .slice ra x.expr.length rc, .slice ga' (bareSg x.sg).green.length gc', .slice ea' (bareSg x.sg).enter.length ec', .slice da' (bareSg x.sg).during.length dc', .slice la' (bareSg x.sg).leave.length lc', .slice na' (bareSg x.sg).nexts.length nc'] rfl rfl (cells_at (W := (((((w2.setCell ⟨wr.heap.size, 10, none⟩ (.slice ga' (bareSg x.sg).green.length gc')).setCell ⟨wr.heap.size, 11, none⟩ (.slice ea' (bareSg x.sg).enter.length ec')).setCell ⟨wr.heap.size, 12, none⟩ (.slice da' (bareSg x.sg).during.length dc')).setCell ⟨wr.heap.size, 13, none⟩ (.slice la' (bareSg x.sg).leave.length lc')).setCell ⟨wr.heap.size, 14, none⟩ (.slice na' (bareSg x.sg).nexts.length nc'))) (by simp [World.setCell]) _ _) (all_one rfl) (by decide) (by unfold maxLen; omega) (by omega) (by simp [World.setCell]; omega) ?_; intro g' c' w4 own' hg' hat' _ hcap'; have L1 := ((N1.cells (c := wr.heap.size) (by omega) [.slice ga' (bareSg x.sg).green.length gc', .slice ea' (bareSg x.sg).enter.length ec', .slice da' (bareSg x.sg).during.length dc', .slice la' (bareSg x.sg).leave.length lc', .slice na' (bareSg x.sg).nexts.length nc'] 10).alloc _).blk hg'.size (hg'.block _ (by simp [World.setCell]; omega) (by intro e; have := (own_lt own.out _ e.symm).1; omega)); have L2 := ((N2.cells (c := wr.heap.size) (by omega) [.slice ga' (bareSg x.sg).green.length gc', .slice ea' (bareSg x.sg).enter.length ec', .slice da' (bareSg x.sg).during.length dc', .slice la' (bareSg x.sg).leave.length lc', .slice na' (bareSg x.sg).nexts.length nc'] 10).alloc _).blk hg'.size (hg'.block _ (by simp [World.setCell]; omega) (by intro e; have := (own_lt own.out _ e.symm).1; omega)); have L3 := ((N3.cells (c := wr.heap.size) (by omega) [.slice ga' (bareSg x.sg).green.length gc', .slice ea' (bareSg x.sg).enter.length ec', .slice da' (bareSg x.sg).during.length dc', .slice la' (bareSg x.sg).leave.length lc', .slice na' (bareSg x.sg).nexts.length nc'] 10).alloc _).blk hg'.size (hg'.block _ (by simp [World.setCell]; omega) (by intro e; have := (own_lt own.out _ e.symm).1; omega)); obtain ⟨_, x5, x6⟩ := id L3))
      go_roundw
      case rel =>
        have BWv : Below wr.heap.size wr ((setCells w2 wr.heap.size 10 [.slice ga' (bareSg x.sg).green.length gc', .slice ea' (bareSg x.sg).enter.length ec', .slice da' (bareSg x.sg).during.length dc', .slice la' (bareSg x.sg).leave.length lc', .slice na' (bareSg x.sg).nexts.length nc']).alloc (.cells #[.int .i64 x.kind, .int .i64 0, .int .i64 0, .string x.name, .string x.with_, .int .i64 x.sort, .int .i32 x.n0, .int .i32 x.n1, .int .i32 x.n2, .slice ra x.expr.length rc, .slice ga' (bareSg x.sg).green.length gc', .slice ea' (bareSg x.sg).enter.length ec', .slice da' (bareSg x.sg).during.length dc', .slice la' (bareSg x.sg).leave.length lc', .slice na' (bareSg x.sg).nexts.length nc'] 70)) := (below_cells (Nat.le_refl _) [.slice ga' (bareSg x.sg).green.length gc', .slice ea' (bareSg x.sg).enter.length ec', .slice da' (bareSg x.sg).during.length dc', .slice la' (bareSg x.sg).leave.length lc', .slice na' (bareSg x.sg).nexts.length nc'] w2 10 BW2).alloc (by have := BW2.size; simpa [setCells, World.setCell] using this) _
        have MVa : Mv (Sx (w.heap.size + 3) vd) ((setCells w2 wr.heap.size 10 [.slice ga' (bareSg x.sg).green.length gc', .slice ea' (bareSg x.sg).enter.length ec', .slice da' (bareSg x.sg).during.length dc', .slice la' (bareSg x.sg).leave.length lc', .slice na' (bareSg x.sg).nexts.length nc']).alloc (.cells #[.int .i64 x.kind, .int .i64 0, .int .i64 0, .string x.name, .string x.with_, .int .i64 x.sort, .int .i32 x.n0, .int .i32 x.n1, .int .i32 x.n2, .slice ra x.expr.length rc, .slice ga' (bareSg x.sg).green.length gc', .slice ea' (bareSg x.sg).enter.length ec', .slice da' (bareSg x.sg).during.length dc', .slice la' (bareSg x.sg).leave.length lc', .slice na' (bareSg x.sg).nexts.length nc'] 70)) (Sx (w.heap.size + 3) (.slice (some ⟨g', 0, none⟩) (k + 1) c')) w4 := Mv.app hg' hat'
        have MVs : Mv (Sx (w.heap.size + 3) (.slice (some ⟨g', 0, none⟩) (k + 1) c')) w4 (Sx (w.heap.size + 3) (.slice (some ⟨g', 0, none⟩) (k + 1) c')) (w4.setCell ⟨w.heap.size + 1 + 1, 1, none⟩ (.slice (some ⟨g', 0, none⟩) (k + 1) c')) := Mv.set (fun h => absurd h.1 (by omega))
        have MVr : Mv (Sx (w.heap.size + 3) vd) wr (Sx (w.heap.size + 3) (.slice (some ⟨g', 0, none⟩) (k + 1) c')) (w4.setCell ⟨w.heap.size + 1 + 1, 1, none⟩ (.slice (some ⟨g', 0, none⟩) (k + 1) c')) := ((Mv.below BWv).trans MVa).trans MVs
        have MVw : Mv (fun b => wr.heap.size + 1 ≤ b) w2 (Sx (w.heap.size + 3) vd) ((setCells w2 wr.heap.size 10 [.slice ga' (bareSg x.sg).green.length gc', .slice ea' (bareSg x.sg).enter.length ec', .slice da' (bareSg x.sg).during.length dc', .slice la' (bareSg x.sg).leave.length lc', .slice na' (bareSg x.sg).nexts.length nc']).alloc (.cells #[.int .i64 x.kind, .int .i64 0, .int .i64 0, .string x.name, .string x.with_, .int .i64 x.sort, .int .i32 x.n0, .int .i32 x.n1, .int .i32 x.n2, .slice ra x.expr.length rc, .slice ga' (bareSg x.sg).green.length gc', .slice ea' (bareSg x.sg).enter.length ec', .slice da' (bareSg x.sg).during.length dc', .slice la' (bareSg x.sg).leave.length lc', .slice na' (bareSg x.sg).nexts.length nc'] 70)) := (Mv.cells (S := fun b => wr.heap.size + 1 ≤ b) (by intro h; have h' : wr.heap.size + 1 ≤ wr.heap.size := h; omega) _ _ _).trans ((Mv.below ((Below.refl _ _).alloc (Nat.le_refl _) _)).trans (Mv.weak fun b _ (hbb : wr.heap.size + 1 ≤ b) => ⟨by omega, by intro e; have := (own_lt own.out b e).2; omega⟩))
        have MVn : Mv (fun b => wr.heap.size + 1 ≤ b) w2 (Sx (w.heap.size + 3) (.slice (some ⟨g', 0, none⟩) (k + 1) c')) (w4.setCell ⟨w.heap.size + 1 + 1, 1, none⟩ (.slice (some ⟨g', 0, none⟩) (k + 1) c')) := (MVw.trans MVa).trans MVs
        have HB4 : Below w.heap.size w w4 := grown_bel (HBtrans hb BWv) hg' (Nat.le_refl _) (fun j hj => (by have := (own_lt own.out j hj).1; omega))
        have hnew : DcR (Sx (w.heap.size + 3) (.slice (some ⟨g', 0, none⟩) (k + 1) c')) (w4.setCell ⟨w.heap.size + 1 + 1, 1, none⟩ (.slice (some ⟨g', 0, none⟩) (k + 1) c')) [.int .i64 x.kind, .int .i64 0, .int .i64 0, .string x.name, .string x.with_, .int .i64 x.sort, .int .i32 x.n0, .int .i32 x.n1, .int .i32 x.n2, .slice ra x.expr.length rc, .slice ga' (bareSg x.sg).green.length gc', .slice ea' (bareSg x.sg).enter.length ec', .slice da' (bareSg x.sg).during.length dc', .slice la' (bareSg x.sg).leave.length lc', .slice na' (bareSg x.sg).nexts.length nc'] (bareDc x) := ⟨_, ⟨_, _, _, _, _⟩, rfl, r4.mv MVn, g1'.mv MVn, g2'.mv MVn, g3'.mv MVn, g4'.mv MVn, g5'.mv MVn⟩
        exact ⟨k + 1, _, _, by omega, by go_num, own_keep own' (fun g hg => by
          have hg2 : g = g' := by injection hg with h; exact h.symm
          subst hg2
          exact Below.heap_setCell _ _ _ _ (by
            show g ≠ w.heap.size + 1 + 1
            rcases hat' with h | h
            · have := (own_lt own.out _ h).1; omega
            · simp [World.setCell] at h; omega)), by
              show Els _ _ _ _ _ _
              rw [hx]
              exact Els.push (mx := 0) (Els.mv (mx := 0) els.out (fun _ _ h => h.mv MVr)) rfl hnew, L1.far (by omega) _, L2.far (by omega) _, L3.set 1 (by simp) _, HB4.setCell (p := ⟨w.heap.size + 1 + 1, 1, none⟩) (by simp; omega) _⟩
      case measure => simp [intOf]; omega
    · have t1 : ¬ (k : Int) < (L.length : Int) := by omega
      obtain rfl : k = L.length := by omega
      have own0 := own.out
      have els0 := els.out
      rw [List.take_of_length_le (by simp)] at els0
      obtain ⟨d0a, d0c, rfl⟩ := own_form own0
      clear dk own els J1 J2 J3
      go_wp2
      have r5 : Dcs (fun b => w.heap.size + 3 ≤ b) wr (.slice d0a L.length d0c) (L.map bareDc) := Own.rows ⟨_, by rw [List.length_map]; exact own0, els0⟩ (fun _ _ h => h.mv (Mv.weak fun b _ h => h.1)) (by rw [List.length_map]; exact hlen)
      have MVg : Mv (fun b => w.heap.size + 3 ≤ b) wr (fun b => w.heap.size ≤ b) (setCells wr (w.heap.size + 1) 0 [.string pn, .slice d0a L.length d0c]) := (Mv.cells (S := fun b => w.heap.size + 3 ≤ b) (by intro h; have h' : w.heap.size + 3 ≤ w.heap.size + 1 := h; omega) _ _ _).trans (Mv.weak fun b _ (h : w.heap.size + 3 ≤ b) => (by omega : w.heap.size ≤ b))
      refine bodyPost_ret (v := .agg #[.string pn, .slice d0a L.length d0c]) (by simp [results, Try.results15, go_sem, f2]) rfl ⟨⟨_, rfl, _, rfl, r5.mv MVg⟩, below_cells (by omega) [.string pn, .slice d0a L.length d0c] wr 0 hb⟩
end Go.Proofs.Ytbfojlfdiallnaa
