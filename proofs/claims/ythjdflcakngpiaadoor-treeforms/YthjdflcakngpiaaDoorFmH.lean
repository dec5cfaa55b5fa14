import Derived.Test.YthjdflcakngpiaaDoorFmG
namespace Go.Proofs.YthjdflcakngpiaaDoor
open Go.RowKit
set_option linter.unusedVariables false

set_option maxRecDepth 100000 in
set_option maxHeartbeats 4000000 in
theorem stage_any (kd l0 c0 : Int) (nm wi : ByteArray) (so n0 n1 n2 : Int) (v vg ve vd vl vn : Value) (w : World) (x : Sg) (S : Nat → Prop) (hG : SgR S w ⟨vg, ve, vd, vl, vn⟩ x) (hs : SmG x) (t : Tb w) :
    Calls Tryd.prog 31 #[.agg #[.int .i64 kd, .int .i64 l0, .int .i64 c0, .string nm, .string wi, .int .i64 so, .int .i32 n0, .int .i32 n1, .int .i32 n2, v, vg, ve, vd, vl, vn]] w fun e w' => e = .returned (.bool (if kd = 9 then fSg x else eSg x)) ∧ Below w.heap.size w w' := by
  obtain ⟨gr, en, du, le, ne⟩ := x
  obtain ⟨hg, he, hd, hl, hn⟩ := hG
  obtain ⟨sg, se, sd, sl, sn⟩ := hs
  simp only at hg he hd hl hn sg se sd sl sn
  have kN := fun (s : ByteArray) (hs : Sm s) (X : World) (tX : Tb X) => isName_any s X hs tX
  have kE := fun (xe : List Nd) (v' : Value) (hv : Exs S w v' xe) (hse : SmE xe) (X : World) (hX : Below w.heap.size w X) => expr_any xe v' X (hv.nds.1.below hX) (by obtain ⟨_, _, _, q, _⟩ := Rows.any hv; exact q) hse (t.below hX)
  have k1 := fun (X : World) (hX : Below w.heap.size w X) => list_any en ve S X (he.below hX) se (t.below hX)
  have k2 := fun (X : World) (hX : Below w.heap.size w X) => list_any du vd S X (hd.below hX) sd (t.below hX)
  have k3 := fun (X : World) (hX : Below w.heap.size w X) => list_any le vl S X (hl.below hX) sl (t.below hX)
  obtain ⟨ga, gc, rfl, lgr, kg⟩ := Rows.any hg
  obtain ⟨ea, ec, rfl, -, -⟩ := Rows.any he
  obtain ⟨da, dc, rfl, -, -⟩ := Rows.any hd
  obtain ⟨la, lc, rfl, -, -⟩ := Rows.any hl
  obtain ⟨na, nc, rfl, lne, kn⟩ := Rows.any hn
  have b0 : Below w.heap.size w ((w.alloc (.cells #[.int .i64 kd, .int .i64 l0, .int .i64 c0, .string nm, .string wi, .int .i64 so, .int .i32 n0, .int .i32 n1, .int .i32 n2, v, .slice ga gr.length gc, .slice ea en.length ec, .slice da du.length dc, .slice la le.length lc, .slice na ne.length nc] 53)).alloc (.cells #[.slice ga gr.length gc, .slice ea en.length ec, .slice da du.length dc, .slice la le.length lc, .slice na ne.length nc] 51)) := ((Below.refl _ _).alloc (Nat.le_refl _) _).alloc (by simp) _
  have K0 : Has ((w.alloc (.cells #[.int .i64 kd, .int .i64 l0, .int .i64 c0, .string nm, .string wi, .int .i64 so, .int .i32 n0, .int .i32 n1, .int .i32 n2, v, .slice ga gr.length gc, .slice ea en.length ec, .slice da du.length dc, .slice la le.length lc, .slice na ne.length nc] 53)).alloc (.cells #[.slice ga gr.length gc, .slice ea en.length ec, .slice da du.length dc, .slice la le.length lc, .slice na ne.length nc] 51)) (w.heap.size + 1) #[.slice ga gr.length gc, .slice ea en.length ec, .slice da du.length dc, .slice la le.length lc, .slice na ne.length nc] := Has.new _ _ _ (by simp)
  by_cases k9 : kd = 9
  case neg =>
    have E9 : (kd == 9) = false := by simpa using k9
    have E9' : (kd != 9) = true := by simpa using k9
    rw [if_neg k9]
    clear kN kE k1 k2 k3 kg kn hg he hd hl hn
    by_cases zg : gr.length = 0
    case neg =>
      have Zg : ((gr.length : Int) == 0) = false := by simp; intro e; rw [e] at zg; exact zg rfl
      have hF : eSg ⟨gr, en, du, le, ne⟩ = false := by show eSg ⟨gr, en, du, le, ne⟩ = false; unfold eSg; rw [decide_eq_false zg]; rfl
      rw [hF]
      go_enter Tryd.func31, Tryd.ntmps31
      go_wp2_with fail
      go_ret
      exact ⟨rfl, by exact ((Below.refl _ _).alloc (Nat.le_refl _) _).alloc (by simp) _⟩
    have Zg : ((gr.length : Int) == 0) = true := by simp; exact List.length_eq_zero_iff.1 zg
    by_cases ze : en.length = 0
    case neg =>
      have Ze : ((en.length : Int) == 0) = false := by simp; intro e; rw [e] at ze; exact ze rfl
      have hF : eSg ⟨gr, en, du, le, ne⟩ = false := by show eSg ⟨gr, en, du, le, ne⟩ = false; unfold eSg; rw [decide_eq_true zg, decide_eq_false ze]; rfl
      rw [hF]
      go_enter Tryd.func31, Tryd.ntmps31
      go_wp2_with fail
      go_ret
      exact ⟨rfl, by exact ((Below.refl _ _).alloc (Nat.le_refl _) _).alloc (by simp) _⟩
    have Ze : ((en.length : Int) == 0) = true := by simp; exact List.length_eq_zero_iff.1 ze
    by_cases zd : du.length = 0
    case neg =>
      have Zd : ((du.length : Int) == 0) = false := by simp; intro e; rw [e] at zd; exact zd rfl
      have hF : eSg ⟨gr, en, du, le, ne⟩ = false := by show eSg ⟨gr, en, du, le, ne⟩ = false; unfold eSg; rw [decide_eq_true zg, decide_eq_true ze, decide_eq_false zd]; rfl
      rw [hF]
      go_enter Tryd.func31, Tryd.ntmps31
      go_wp2_with fail
      go_ret
      exact ⟨rfl, by exact ((Below.refl _ _).alloc (Nat.le_refl _) _).alloc (by simp) _⟩
    have Zd : ((du.length : Int) == 0) = true := by simp; exact List.length_eq_zero_iff.1 zd
    by_cases zl : le.length = 0
    case neg =>
      have Zl : ((le.length : Int) == 0) = false := by simp; intro e; rw [e] at zl; exact zl rfl
      have hF : eSg ⟨gr, en, du, le, ne⟩ = false := by show eSg ⟨gr, en, du, le, ne⟩ = false; unfold eSg; rw [decide_eq_true zg, decide_eq_true ze, decide_eq_true zd, decide_eq_false zl]; rfl
      rw [hF]
      go_enter Tryd.func31, Tryd.ntmps31
      go_wp2_with fail
      go_ret
      exact ⟨rfl, by exact ((Below.refl _ _).alloc (Nat.le_refl _) _).alloc (by simp) _⟩
    have Zl : ((le.length : Int) == 0) = true := by simp; exact List.length_eq_zero_iff.1 zl
    by_cases zn : ne.length = 0
    case neg =>
      have Zn : ((ne.length : Int) == 0) = false := by simp; intro e; rw [e] at zn; exact zn rfl
      have hF : eSg ⟨gr, en, du, le, ne⟩ = false := by show eSg ⟨gr, en, du, le, ne⟩ = false; unfold eSg; rw [decide_eq_true zg, decide_eq_true ze, decide_eq_true zd, decide_eq_true zl, decide_eq_false zn]; rfl
      rw [hF]
      go_enter Tryd.func31, Tryd.ntmps31
      go_wp2_with fail
      go_ret
      exact ⟨rfl, by exact ((Below.refl _ _).alloc (Nat.le_refl _) _).alloc (by simp) _⟩
    have Zn : ((ne.length : Int) == 0) = true := by simp; exact List.length_eq_zero_iff.1 zn
    have hF : eSg ⟨gr, en, du, le, ne⟩ = true := by show eSg ⟨gr, en, du, le, ne⟩ = true; unfold eSg; rw [decide_eq_true zg, decide_eq_true ze, decide_eq_true zd, decide_eq_true zl, decide_eq_true zn]; rfl
    rw [hF]
    go_enter Tryd.func31, Tryd.ntmps31
    go_wp2_with fail
    go_ret
    exact ⟨rfl, by exact ((Below.refl _ _).alloc (Nat.le_refl _) _).alloc (by simp) _⟩
  subst k9
  rw [if_pos rfl]
  generalize hA : fSg ⟨gr, en, du, le, ne⟩ = A
  have hA0 : ((gr.drop 0).all nmB && (ne.all fNx && (brF [] en && (brF [] du && brF [] le)))) = A := hA
  clear hA hg he hd hl hn
  go_enter Tryd.func31, Tryd.ntmps31
  go_upto_region 4 with fail
  generalize ((w.alloc (.cells #[.int .i64 9, .int .i64 l0, .int .i64 c0, .string nm, .string wi, .int .i64 so, .int .i32 n0, .int .i32 n1, .int .i32 n2, v, .slice ga gr.length gc, .slice ea en.length ec, .slice da du.length dc, .slice la le.length lc, .slice na ne.length nc] 53)).alloc (.cells #[.slice ga gr.length gc, .slice ea en.length ec, .slice da du.length dc, .slice la le.length lc, .slice na ne.length nc] 51)) = W0 at *
  obtain ⟨_, c0', _⟩ := id K0
  go_wp2_with fail
  go_loopw [44] (fun u wr => ∃ k : Nat, k ≤ gr.length ∧ u = .int .i64 (k : Int) ∧ Hid (((gr.drop k).all nmB && (ne.all fNx && (brF [] en && (brF [] du && brF [] le)))) = A) ∧ Hid (Has wr (w.heap.size + 1) #[.slice ga gr.length gc, .slice ea en.length ec, .slice da du.length dc, .slice la le.length lc, .slice na ne.length nc]) ∧ Hid (Below w.heap.size w wr)) (fun u _ => gr.length - (intOf u).toNat)
  case atStart => exact ⟨0, by omega, rfl, hA0, K0, b0⟩
  case round =>
    clear hA0 K0 b0 c0'
    obtain ⟨k, hkl, rfl, hq', K', hb'⟩ := hrel
    have hq := hq'.out
    have K := K'.out
    have hb := hb'.out
    clear hq' K' hb'
    by_cases hlt : k < gr.length
    case pos =>
      obtain ⟨g, o, rfl, _, hgl, hx⟩ := kg.resolve_left (by intro e; rw [e] at hlt; simp at hlt)
      obtain ⟨cs, _, hcs, h3⟩ := hx k hlt
      have hcs' : cs = [.string gr[k]] := hcs
      subst hcs'
      have p0 := (hb.cell (p := ⟨g, _, none⟩) hgl).trans (h3 0 _ rfl)
      simp only [Nat.add_zero, Nat.mul_one] at p0
      have cN := kN gr[k] (sg _ (List.getElem_mem hlt))
      have tw := t.below hb
      rw [all_at nmB gr k hlt] at hq
      have s1 : (k : Int) < (gr.length : Int) := by omega
      have s0 : (0 : Int) ≤ (k : Int) := by omega
      clear h3 hx hcs kg kN kE k1 k2 k3 kn
      generalize gr[k] = y at *
      cases hf : nmB y with
      | true =>
        rw [hf] at hq cN
        rw [Bool.true_and] at hq
        go_wp2_with (go_at_call 16; (with_reducible refine Calls.mono (cN _ tw) ?_); rintro e w2 ⟨rfl, hb2⟩; have hbM := bel_after hb hb.size hb2; have K2 := K.below hb2)
        go_roundw
        case rel => exact ⟨k + 1, by omega, by go_num, hq, K2, hbM⟩
        case measure => simp [intOf]; omega
      | false =>
        rw [hf] at hq cN
        rw [Bool.false_and, Bool.false_and] at hq
        subst hq
        go_wp2_with (go_at_call 16; (with_reducible refine Calls.mono (cN _ tw) ?_); rintro e w2 ⟨rfl, hb2⟩; have hbM := bel_after hb hb.size hb2)
        go_ret
        exact ⟨rfl, hbM⟩
    case neg =>
      have s1 : ¬ (k : Int) < (gr.length : Int) := by omega
      rw [all_no nmB gr k (by omega), Bool.true_and] at hq
      have hq0 : ((ne.drop 0).all fNx && (brF [] en && (brF [] du && brF [] le))) = A := hq
      clear hq kg sg
      obtain ⟨_, c1', _⟩ := id K
      go_wp2_with fail
      go_loopw [55] (fun u wr => ∃ k : Nat, k ≤ ne.length ∧ u = .int .i64 (k : Int) ∧ Hid (((ne.drop k).all fNx && (brF [] en && (brF [] du && brF [] le))) = A) ∧ Hid (Has wr (w.heap.size + 1) #[.slice ga gr.length gc, .slice ea en.length ec, .slice da du.length dc, .slice la le.length lc, .slice na ne.length nc]) ∧ Hid (Below w.heap.size w wr)) (fun u _ => ne.length - (intOf u).toNat)
      case atStart => exact ⟨0, by omega, rfl, hq0, K, hb⟩
      case round =>
        clear hq0 K hb c1' hlt hkl s1
        obtain ⟨k, hkl, rfl, hq', K', hb'⟩ := hrel
        have hq := hq'.out
        have K := K'.out
        have hb := hb'.out
        clear hq' K' hb'
        by_cases hlt : k < ne.length
        case pos =>
          obtain ⟨g, o, rfl, _, hgl, hx⟩ := kn.resolve_left (by intro e; rw [e] at hlt; simp at hlt)
          obtain ⟨cs, _, ⟨v', rfl, hv⟩, h3⟩ := hx k hlt
          have cE := kE _ v' hv (sn _ (List.getElem_mem hlt)).2
          have cN := kN ne[k].dst (sn _ (List.getElem_mem hlt)).1
          obtain ⟨xa, xc, rfl, -⟩ := Rows.any hv
          have p0 := (hb.cell (p := ⟨g, _, none⟩) hgl).trans (h3 0 _ rfl)
          have p1 := (hb.cell (p := ⟨g, _, none⟩) hgl).trans (h3 1 _ rfl)
          have p2 := (hb.cell (p := ⟨g, _, none⟩) hgl).trans (h3 2 _ rfl)
          have p3 := (hb.cell (p := ⟨g, _, none⟩) hgl).trans (h3 3 _ rfl)
          simp only [Nat.add_zero] at p0
          have tw := t.below hb
          rw [all_at fNx ne k hlt] at hq
          have s1 : (k : Int) < (ne.length : Int) := by omega
          have s0 : (0 : Int) ≤ (k : Int) := by omega
          clear h3 hx hv kn kN kE k1 k2 k3
          generalize ne[k] = y at *
          obtain ⟨yd, yc, yl, yo⟩ := y
          simp only at *
          unfold fNx at hq
          simp only at hq
          have hbA := hb.alloc hb.size (.cells #[.string yd, .slice xa yc.length xc, .int .i64 yl, .int .i64 yo] 56)
          cases hf : nmB yd with
          | false =>
            rw [hf] at hq cN
            rw [Bool.false_and, Bool.false_and] at hq
            subst hq
            go_wp2_with (go_at_call 16; (with_reducible refine Calls.mono (cN _ (tw.alloc _)) ?_); rintro e w2 ⟨rfl, hb2⟩; have hbM := bel_after hbA hbA.size hb2)
            go_ret
            exact ⟨rfl, hbM⟩
          | true =>
            rw [hf] at hq cN
            rw [Bool.true_and] at hq
            cases hx' : fEx yc with
            | false =>
              rw [hx'] at hq cE
              rw [Bool.false_and] at hq
              subst hq
              go_wp2_with (first | (go_at_call 16; (with_reducible refine Calls.mono (cN _ (tw.alloc _)) ?_); rintro e w2 ⟨rfl, hb2⟩; have hbM := bel_after hbA hbA.size hb2; have K1 := Has.below (Has.new wr _ 56 rfl) hb2; obtain ⟨_, c1, _⟩ := id K1) | (go_at_call 7; (with_reducible refine Calls.mono (cE _ (by exact hbM)) ?_); rintro e w3 ⟨rfl, hb3⟩; have hbN := bel_after hbM hbM.size hb3))
              go_ret
              exact ⟨rfl, hbN⟩
            | true =>
              rw [hx'] at hq cE
              rw [Bool.true_and] at hq
              go_wp2_with (first | (go_at_call 16; (with_reducible refine Calls.mono (cN _ (tw.alloc _)) ?_); rintro e w2 ⟨rfl, hb2⟩; have hbM := bel_after hbA hbA.size hb2; have K1 := Has.below (Has.new wr _ 56 rfl) hb2; obtain ⟨_, c1, _⟩ := id K1; have K2 := (K.alloc _).below hb2) | (go_at_call 7; (with_reducible refine Calls.mono (cE _ (by exact hbM)) ?_); rintro e w3 ⟨rfl, hb3⟩; have hbN := bel_after hbM hbM.size hb3; have K3 := K2.below hb3))
              go_roundw
              case rel => exact ⟨k + 1, by omega, by go_num, hq, K3, hbN⟩
              case measure => simp [intOf]; omega
        case neg =>
          have s1 : ¬ (k : Int) < (ne.length : Int) := by omega
          rw [all_no fNx ne k (by omega), Bool.true_and] at hq
          clear kn sn kN kE
          obtain ⟨_, c1, _⟩ := id K
          cases h1 : brF [] en with
          | false =>
            rw [h1] at hq k1
            rw [Bool.false_and] at hq
            subst hq
            go_wp2_with (go_at_call 44; (with_reducible refine Calls.mono (k1 _ (by exact hb)) ?_); rintro e w2 ⟨rfl, hb2⟩; have hbM := bel_after hb hb.size hb2)
            go_ret
            exact ⟨rfl, hbM⟩
          | true =>
            rw [h1] at hq k1
            rw [Bool.true_and] at hq
            cases h2 : brF [] du with
            | false =>
              rw [h2] at hq k2
              rw [Bool.false_and] at hq
              subst hq
              go_wp2_with (first | (go_at_call 44; (with_reducible refine Calls.mono (k1 _ (by exact hb)) ?_); rintro e w2 ⟨rfl, hb2⟩; have hbM := bel_after hb hb.size hb2; have K2 := K.below hb2; obtain ⟨_, c2, _⟩ := id K2) | (go_at_call 44; (with_reducible refine Calls.mono (k2 _ (by exact hbM)) ?_); rintro e w3 ⟨rfl, hb3⟩; have hbN := bel_after hbM hbM.size hb3))
              go_ret
              exact ⟨rfl, hbN⟩
            | true =>
              rw [h2] at hq k2
              rw [Bool.true_and] at hq
              rw [hq] at k3
              go_upto_region 16 with fail
              go_wp2_with (first | (go_at_call 44; (with_reducible refine Calls.mono (k1 _ (by exact hb)) ?_); rintro e w2 ⟨rfl, hb2⟩; have hbM := bel_after hb hb.size hb2; have K2 := K.below hb2; obtain ⟨_, c2, _⟩ := id K2; clear k1) | (go_at_call 44; (with_reducible refine Calls.mono (k2 _ (by exact hbM)) ?_); rintro e w3 ⟨rfl, hb3⟩; have hbN := bel_after hbM hbM.size hb3; have K3 := K2.below hb3; obtain ⟨_, c3, _⟩ := id K3; clear k2) | (go_at_call 44; (with_reducible refine Calls.mono (k3 _ (by exact hbN)) ?_); rintro e w4 ⟨rfl, hb4⟩; have hbO := bel_after hbN hbN.size hb4))
              go_ret
              exact ⟨rfl, hbO⟩
end Go.Proofs.YthjdflcakngpiaaDoor
