import Derived.Test.YthjdflcakngpiaaDoorFmF
namespace Go.Proofs.YthjdflcakngpiaaDoor
open Go.RowKit
set_option linter.unusedVariables false

set_option maxRecDepth 100000 in
set_option maxHeartbeats 4000000 in
theorem refEmpty_any (vg ve vd vl vn : Value) (w : World) (x : Sg) (S : Nat → Prop) (hG : SgR S w ⟨vg, ve, vd, vl, vn⟩ x) (hs : SmG x) (t : Tb w) :
    Calls Tryd.prog 36 #[.agg #[vg, ve, vd, vl, vn]] w fun e w' => e = .returned (.bool (eSg x)) ∧ Below w.heap.size w w' := by
  obtain ⟨gr, en, du, le, ne⟩ := x
  obtain ⟨hg, he, hd, hl, hn⟩ := hG
  obtain ⟨sg, se, sd, sl, sn⟩ := hs
  simp only at hg he hd hl hn sg se sd sl sn
  obtain ⟨ga, gc, rfl, lgr, kg⟩ := Rows.any hg
  obtain ⟨ea, ec, rfl, -, -⟩ := Rows.any he
  obtain ⟨da, dc, rfl, -, -⟩ := Rows.any hd
  obtain ⟨la, lc, rfl, -, -⟩ := Rows.any hl
  obtain ⟨na, nc, rfl, lne, kn⟩ := Rows.any hn
  clear kg kn hg he hd hl hn sg se sd sl sn
  by_cases zg : gr.length = 0
  case neg =>
    have Zg : ((gr.length : Int) == 0) = false := by simp; intro e; rw [e] at zg; exact zg rfl
    have hF : eSg ⟨gr, en, du, le, ne⟩ = false := by show eSg ⟨gr, en, du, le, ne⟩ = false; unfold eSg; rw [decide_eq_false zg]; rfl
    rw [hF]
    go_enter Tryd.func36, Tryd.ntmps36
    go_wp2_with fail
    go_ret
    exact ⟨rfl, by exact bel1 _⟩
  have Zg : ((gr.length : Int) == 0) = true := by simp; exact List.length_eq_zero_iff.1 zg
  by_cases ze : en.length = 0
  case neg =>
    have Ze : ((en.length : Int) == 0) = false := by simp; intro e; rw [e] at ze; exact ze rfl
    have hF : eSg ⟨gr, en, du, le, ne⟩ = false := by show eSg ⟨gr, en, du, le, ne⟩ = false; unfold eSg; rw [decide_eq_true zg, decide_eq_false ze]; rfl
    rw [hF]
    go_enter Tryd.func36, Tryd.ntmps36
    go_wp2_with fail
    go_ret
    exact ⟨rfl, by exact bel1 _⟩
  have Ze : ((en.length : Int) == 0) = true := by simp; exact List.length_eq_zero_iff.1 ze
  by_cases zd : du.length = 0
  case neg =>
    have Zd : ((du.length : Int) == 0) = false := by simp; intro e; rw [e] at zd; exact zd rfl
    have hF : eSg ⟨gr, en, du, le, ne⟩ = false := by show eSg ⟨gr, en, du, le, ne⟩ = false; unfold eSg; rw [decide_eq_true zg, decide_eq_true ze, decide_eq_false zd]; rfl
    rw [hF]
    go_enter Tryd.func36, Tryd.ntmps36
    go_wp2_with fail
    go_ret
    exact ⟨rfl, by exact bel1 _⟩
  have Zd : ((du.length : Int) == 0) = true := by simp; exact List.length_eq_zero_iff.1 zd
  by_cases zl : le.length = 0
  case neg =>
    have Zl : ((le.length : Int) == 0) = false := by simp; intro e; rw [e] at zl; exact zl rfl
    have hF : eSg ⟨gr, en, du, le, ne⟩ = false := by show eSg ⟨gr, en, du, le, ne⟩ = false; unfold eSg; rw [decide_eq_true zg, decide_eq_true ze, decide_eq_true zd, decide_eq_false zl]; rfl
    rw [hF]
    go_enter Tryd.func36, Tryd.ntmps36
    go_wp2_with fail
    go_ret
    exact ⟨rfl, by exact bel1 _⟩
  have Zl : ((le.length : Int) == 0) = true := by simp; exact List.length_eq_zero_iff.1 zl
  by_cases zn : ne.length = 0
  case neg =>
    have Zn : ((ne.length : Int) == 0) = false := by simp; intro e; rw [e] at zn; exact zn rfl
    have hF : eSg ⟨gr, en, du, le, ne⟩ = false := by show eSg ⟨gr, en, du, le, ne⟩ = false; unfold eSg; rw [decide_eq_true zg, decide_eq_true ze, decide_eq_true zd, decide_eq_true zl, decide_eq_false zn]; rfl
    rw [hF]
    go_enter Tryd.func36, Tryd.ntmps36
    go_wp2_with fail
    go_ret
    exact ⟨rfl, by exact bel1 _⟩
  have Zn : ((ne.length : Int) == 0) = true := by simp; exact List.length_eq_zero_iff.1 zn
  have hF : eSg ⟨gr, en, du, le, ne⟩ = true := by show eSg ⟨gr, en, du, le, ne⟩ = true; unfold eSg; rw [decide_eq_true zg, decide_eq_true ze, decide_eq_true zd, decide_eq_true zl, decide_eq_true zn]; rfl
  rw [hF]
  go_enter Tryd.func36, Tryd.ntmps36
  go_wp2_with fail
  go_ret
  exact ⟨rfl, by exact bel1 _⟩
set_option maxRecDepth 100000 in
set_option maxHeartbeats 4000000 in
theorem refStage_any (vg ve vd vl vn : Value) (w : World) (x : Sg) (S : Nat → Prop) (hG : SgR S w ⟨vg, ve, vd, vl, vn⟩ x) (hs : SmG x) (t : Tb w) :
    Calls Tryd.prog 37 #[.agg #[vg, ve, vd, vl, vn]] w fun e w' => e = .returned (.bool (fSg x)) ∧ Below w.heap.size w w' := by
  obtain ⟨gr, en, du, le, ne⟩ := x
  obtain ⟨hg, he, hd, hl, hn⟩ := hG
  obtain ⟨sg, se, sd, sl, sn⟩ := hs
  simp only at hg he hd hl hn sg se sd sl sn
  have kN := fun (s : ByteArray) (hs : Sm s) (X : World) (tX : Tb X) => refName_any s X hs tX
  have kE := fun (xe : List Nd) (v' : Value) (hv : Exs S w v' xe) (hse : SmE xe) (X : World) (hX : Below w.heap.size w X) => refExpr_any xe v' X (hv.nds.1.below hX) (by obtain ⟨_, _, _, q, _⟩ := Rows.any hv; exact q) hse (t.below hX)
  have k1 := fun (X : World) (hX : Below w.heap.size w X) => refList_any en ve S X (he.below hX) se (t.below hX)
  have k2 := fun (X : World) (hX : Below w.heap.size w X) => refList_any du vd S X (hd.below hX) sd (t.below hX)
  have k3 := fun (X : World) (hX : Below w.heap.size w X) => refList_any le vl S X (hl.below hX) sl (t.below hX)
  obtain ⟨ga, gc, rfl, lgr, kg⟩ := Rows.any hg
  obtain ⟨ea, ec, rfl, -, -⟩ := Rows.any he
  obtain ⟨da, dc, rfl, -, -⟩ := Rows.any hd
  obtain ⟨la, lc, rfl, -, -⟩ := Rows.any hl
  obtain ⟨na, nc, rfl, lne, kn⟩ := Rows.any hn
  have b0 : Below w.heap.size w (w.alloc (.cells #[.slice ga gr.length gc, .slice ea en.length ec, .slice da du.length dc, .slice la le.length lc, .slice na ne.length nc] 51)) := bel1 _
  have K0 : Has (w.alloc (.cells #[.slice ga gr.length gc, .slice ea en.length ec, .slice da du.length dc, .slice la le.length lc, .slice na ne.length nc] 51)) w.heap.size #[.slice ga gr.length gc, .slice ea en.length ec, .slice da du.length dc, .slice la le.length lc, .slice na ne.length nc] := Has.new _ _ _ rfl
  generalize hA : fSg ⟨gr, en, du, le, ne⟩ = A
  have hA0 : ((gr.drop 0).all nmB && (ne.all fNx && (brF [] en && (brF [] du && brF [] le)))) = A := hA
  clear hA hg he hd hl hn
  go_enter Tryd.func37, Tryd.ntmps37
  go_upto_region 1 with fail
  generalize (w.alloc (.cells #[.slice ga gr.length gc, .slice ea en.length ec, .slice da du.length dc, .slice la le.length lc, .slice na ne.length nc] 51)) = W0 at *
  go_wp2_with fail
  go_loopw [3] (fun u wr => ∃ k : Nat, k ≤ gr.length ∧ u = .int .i64 (k : Int) ∧ Hid (((gr.drop k).all nmB && (ne.all fNx && (brF [] en && (brF [] du && brF [] le)))) = A) ∧ Hid (Has wr w.heap.size #[.slice ga gr.length gc, .slice ea en.length ec, .slice da du.length dc, .slice la le.length lc, .slice na ne.length nc]) ∧ Hid (Below w.heap.size w wr)) (fun u _ => gr.length - (intOf u).toNat)
  case atStart => exact ⟨0, by omega, rfl, hA0, K0, b0⟩
  case round =>
    clear hA0 K0 b0
    obtain ⟨k, hkl, rfl, hq', K', hb'⟩ := hrel
    have hq := hq'.out
    have K := K'.out
    have hb := hb'.out
    clear hq' K' hb'
    obtain ⟨_, c0, _⟩ := id K
    by_cases hlt : k < gr.length
    case pos =>
      obtain ⟨g, o, rfl, _, hgl, hx⟩ := kg.resolve_left (by intro e; rw [e] at hlt; simp at hlt)
      obtain ⟨cs, _, hcs, h3⟩ := hx k hlt
      have hcs' : cs = [.string gr[k]] := hcs
      subst hcs'
      have p0 := (hb.cell (p := ⟨g, _, none⟩) hgl).trans (h3 0 _ rfl)
      simp only [Nat.add_zero, Nat.mul_one] at p0
      have cN := kN gr[k] (sg _ (List.getElem_mem hlt))
      have tw := t.below hb
      rw [all_at nmB gr k hlt] at hq
      have s1 : (k : Int) < (gr.length : Int) := by omega
      have s0 : (0 : Int) ≤ (k : Int) := by omega
      clear h3 hx hcs kg kN kE k1 k2 k3 kn
      generalize gr[k] = y at *
      cases hf : nmB y with
      | true =>
        rw [hf] at hq cN
        rw [Bool.true_and] at hq
        go_wp2_with (go_at_call 20; (with_reducible refine Calls.mono (cN _ tw) ?_); rintro e w2 ⟨rfl, hb2⟩; have hbM := bel_after hb hb.size hb2; have K2 := K.below hb2)
        go_roundw
        case rel => exact ⟨k + 1, by omega, by go_num, hq, K2, hbM⟩
        case measure => simp [intOf]; omega
      | false =>
        rw [hf] at hq cN
        rw [Bool.false_and, Bool.false_and] at hq
        subst hq
        go_wp2_with (go_at_call 20; (with_reducible refine Calls.mono (cN _ tw) ?_); rintro e w2 ⟨rfl, hb2⟩; have hbM := bel_after hb hb.size hb2)
        go_ret
        exact ⟨rfl, hbM⟩
    case neg =>
      have s1 : ¬ (k : Int) < (gr.length : Int) := by omega
      rw [all_no nmB gr k (by omega), Bool.true_and] at hq
      have hq0 : ((ne.drop 0).all fNx && (brF [] en && (brF [] du && brF [] le))) = A := hq
      clear hq kg sg
      go_wp2_with fail
      go_loopw [5] (fun u wr => ∃ k : Nat, k ≤ ne.length ∧ u = .int .i64 (k : Int) ∧ Hid (((ne.drop k).all fNx && (brF [] en && (brF [] du && brF [] le))) = A) ∧ Hid (Has wr w.heap.size #[.slice ga gr.length gc, .slice ea en.length ec, .slice da du.length dc, .slice la le.length lc, .slice na ne.length nc]) ∧ Hid (Below w.heap.size w wr)) (fun u _ => ne.length - (intOf u).toNat)
      case atStart => exact ⟨0, by omega, rfl, hq0, K, hb⟩
      case round =>
        clear hq0 K hb c0 hlt hkl s1
        obtain ⟨k, hkl, rfl, hq', K', hb'⟩ := hrel
        have hq := hq'.out
        have K := K'.out
        have hb := hb'.out
        clear hq' K' hb'
        obtain ⟨_, c0, _⟩ := id K
        by_cases hlt : k < ne.length
        case pos =>
          obtain ⟨g, o, rfl, _, hgl, hx⟩ := kn.resolve_left (by intro e; rw [e] at hlt; simp at hlt)
          obtain ⟨cs, _, ⟨v', rfl, hv⟩, h3⟩ := hx k hlt
          have cE := kE _ v' hv (sn _ (List.getElem_mem hlt)).2
          have cN := kN ne[k].dst (sn _ (List.getElem_mem hlt)).1
          obtain ⟨xa, xc, rfl, -⟩ := Rows.any hv
          have p0 := (hb.cell (p := ⟨g, _, none⟩) hgl).trans (h3 0 _ rfl)
          have p1 := (hb.cell (p := ⟨g, _, none⟩) hgl).trans (h3 1 _ rfl)
          simp only [Nat.add_zero] at p0
          have tw := t.below hb
          rw [all_at fNx ne k hlt] at hq
          have s1 : (k : Int) < (ne.length : Int) := by omega
          have s0 : (0 : Int) ≤ (k : Int) := by omega
          clear h3 hx hv kn kN kE k1 k2 k3
          generalize ne[k] = y at *
          obtain ⟨yd, yc, yl, yo⟩ := y
          simp only at *
          unfold fNx at hq
          simp only at hq
          generalize hf : nmB yd = f1 at *
          generalize hx' : fEx yc = f2 at *
          go_upto_region 12 with (first | (go_at_call 20; (with_reducible refine Calls.mono (cN _ tw) ?_); rintro e w2 ⟨rfl, hb2⟩; have hbM := bel_after hb hb.size hb2; have K2 := K.below hb2; obtain ⟨_, c2, _⟩ := id K2; have q1 := (hb2.cell (p := ⟨g, _, none⟩) (Nat.lt_of_lt_of_le hgl hb.size)).trans p1) | (go_at_call 9; (with_reducible refine Calls.mono (cE _ (by exact hbM)) ?_); rintro e w3 ⟨rfl, hb3⟩; have hbN := bel_after hbM hbM.size hb3; have K3 := K2.below hb3))
          cases f1 with
          | false =>
            rw [Bool.false_and, Bool.false_and] at hq
            subst hq
            go_wp2_with fail
            go_ret
            exact ⟨rfl, hbN⟩
          | true =>
            cases f2 with
            | false =>
              rw [Bool.true_and, Bool.false_and] at hq
              subst hq
              go_wp2_with fail
              go_ret
              exact ⟨rfl, hbN⟩
            | true =>
              rw [Bool.true_and, Bool.true_and] at hq
              go_wp2_with fail
              go_roundw
              case rel => exact ⟨k + 1, by omega, by go_num, hq, K3, hbN⟩
              case measure => simp [intOf]; omega
        case neg =>
          have s1 : ¬ (k : Int) < (ne.length : Int) := by omega
          rw [all_no fNx ne k (by omega), Bool.true_and] at hq
          clear kn sn kN kE
          generalize h1 : brF [] en = f1 at *
          generalize h2 : brF [] du = f2 at *
          generalize h3 : brF [] le = f3 at *
          go_upto_region 15 with (go_at_call 48; (with_reducible refine Calls.mono (k1 _ (by exact hb)) ?_); rintro e w2 ⟨rfl, hb2⟩; have hbM := bel_after hb hb.size hb2; have K2 := K.below hb2)
          obtain ⟨_, c2, _⟩ := id K2
          go_upto_region 16 with (go_at_call 48; (with_reducible refine Calls.mono (k2 _ (by exact hbM)) ?_); rintro e w3 ⟨rfl, hb3⟩; have hbN := bel_after hbM hbM.size hb3; have K3 := K2.below hb3)
          obtain ⟨_, c3, _⟩ := id K3
          go_upto_region 17 with (go_at_call 48; (with_reducible refine Calls.mono (k3 _ (by exact hbN)) ?_); rintro e w4 ⟨rfl, hb4⟩; have hbO := bel_after hbN hbN.size hb4)
          subst hq
          cases f1 <;> cases f2 <;> (go_wp2_with fail; go_ret; exact ⟨rfl, hbO⟩)
end Go.Proofs.YthjdflcakngpiaaDoor
