import Derived.Test.YtbfojlfdiallnaaAppB
import Derived.Deep.RegionHeld3
namespace Go.Proofs.Ytbfojlfdiallnaa
open Go.RowKit
set_option linter.unusedVariables false

theorem own_form {w : World} {base e size n : Nat} {v : Value} {xs : List Value} (h : w.ownsRow base e size v n xs) : ∃ a c, v = .slice a n c := by
  rcases h.2 with ⟨h0, h1⟩ | ⟨g, cap, cur, h1, _⟩
  · exact ⟨none, 0, by rw [h0, h1]⟩
  · exact ⟨_, _, h1⟩
theorem nin3 (w : World) : ¬ (fun b => w.heap.size + 3 ≤ b) (w.heap.size + 1 + 1) := by
  intro h; have h' : w.heap.size + 3 ≤ w.heap.size + 1 + 1 := h; omega
theorem own_keep {w w' : World} {base e size n : Nat} {v : Value} {xs : List Value} (h : w.ownsRow base e size v n xs) (hk : ∀ g, v.ownBlock = some g → w'.heap[g]? = w.heap[g]?) : w'.ownsRow base e size v n xs := by
  refine ⟨h.1, ?_⟩
  rcases h.2 with h0 | ⟨g, cap, cur, h1, h2, h3, h4⟩
  · exact .inl h0
  · exact .inr ⟨g, cap, cur, h1, h2, (hk g (by rw [h1]; rfl)).trans h3, h4⟩
theorem refBareList_sts (L : List St) (u : Value) (S1 : Nat → Prop) (w : World) (h1 : Sts S1 w u L) :
    Calls Try.prog 50 #[u] w fun e w' => (∃ v', e = .returned v' ∧ Sts (fun b => w.heap.size ≤ b) w' v' (L.map bareSt)) ∧ Below w.heap.size w w' :=
  (refBareList_any L u S1 w h1).mono fun e w' ⟨⟨v', he, ho⟩, hb⟩ => ⟨⟨v', he, ho.rows (fun _ _ h => h.mv (Mv.weak fun b _ hb => hb.1)) (by rw [List.length_map]; exact Rows.le h1)⟩, hb⟩

set_option maxRecDepth 100000 in
set_option maxHeartbeats 2000000 in
theorem refBareStage_any (x : Sg) (s : SgV) (S1 : Nat → Prop) (w : World) (h : SgR S1 w s x) :
    Calls Try.prog 33 #[.agg #[s.green, s.enter, s.during, s.leave, s.nexts]] w fun e w' => (∃ s' : SgV, e = .returned (.agg #[s'.green, s'.enter, s'.during, s'.leave, s'.nexts]) ∧ SgR (fun b => w.heap.size ≤ b) w' s' (bareSg x)) ∧ Below w.heap.size w w' := by
  obtain ⟨h1, h2, h3, h4, h5⟩ := h
  obtain ⟨s0, s1, s2, s3, s4⟩ := s
  simp only at *
  have hE := fun (W : World) (hW : Below w.heap.size w W) => refBareList_sts _ _ S1 W (h2.below hW)
  have hD := fun (W : World) (hW : Below w.heap.size w W) => refBareList_sts _ _ S1 W (h3.below hW)
  have hL := fun (W : World) (hW : Below w.heap.size w W) => refBareList_sts _ _ S1 W (h4.below hW)
  obtain ⟨ga, gc, rfl, gl, gk⟩ := Rows.any h1
  obtain ⟨ea, ec, rfl, el, ek⟩ := Rows.any h2
  obtain ⟨da, dc, rfl, dl, dk⟩ := Rows.any h3
  obtain ⟨la, lc, rfl, ll, lk⟩ := Rows.any h4
  obtain ⟨na, nc, rfl, nl, nk⟩ := Rows.any h5
  clear h1 h2 h3 h4 h5
  obtain ⟨i0, hi, hi0, hi1, hi2⟩ := info_parts info9
  go_enter Try.func33, Try.ntmps33
  go_wp2
  have H1 : Has (((w.alloc (.cells #[.slice ga x.green.length gc, .slice ea x.enter.length ec, .slice da x.during.length dc, .slice la x.leave.length lc, .slice na x.nexts.length nc] 68)).alloc (.cells #[.slice none 0 0, .slice none 0 0, .slice none 0 0, .slice none 0 0, .slice none 0 0] 68)).alloc (.cells #[.slice none 0 0, .slice none 0 0, .slice none 0 0, .slice none 0 0, .slice none 0 0] 68)) w.heap.size #[.slice ga x.green.length gc, .slice ea x.enter.length ec, .slice da x.during.length dc, .slice la x.leave.length lc, .slice na x.nexts.length nc] := ((Has.new _ _ _ rfl).alloc _).alloc _
  have H2 : Has (((w.alloc (.cells #[.slice ga x.green.length gc, .slice ea x.enter.length ec, .slice da x.during.length dc, .slice la x.leave.length lc, .slice na x.nexts.length nc] 68)).alloc (.cells #[.slice none 0 0, .slice none 0 0, .slice none 0 0, .slice none 0 0, .slice none 0 0] 68)).alloc (.cells #[.slice none 0 0, .slice none 0 0, .slice none 0 0, .slice none 0 0, .slice none 0 0] 68)) (w.heap.size + 1) #[.slice none 0 0, .slice none 0 0, .slice none 0 0, .slice none 0 0, .slice none 0 0] := (Has.new _ _ _ (by simp)).alloc _
  have H3 : Has (((w.alloc (.cells #[.slice ga x.green.length gc, .slice ea x.enter.length ec, .slice da x.during.length dc, .slice la x.leave.length lc, .slice na x.nexts.length nc] 68)).alloc (.cells #[.slice none 0 0, .slice none 0 0, .slice none 0 0, .slice none 0 0, .slice none 0 0] 68)).alloc (.cells #[.slice none 0 0, .slice none 0 0, .slice none 0 0, .slice none 0 0, .slice none 0 0] 68)) (w.heap.size + 1 + 1) #[.slice none 0 0, .slice none 0 0, .slice none 0 0, .slice none 0 0, .slice none 0 0] := Has.new _ _ _ (by simp)
  have HB : Below w.heap.size w (((w.alloc (.cells #[.slice ga x.green.length gc, .slice ea x.enter.length ec, .slice da x.during.length dc, .slice la x.leave.length lc, .slice na x.nexts.length nc] 68)).alloc (.cells #[.slice none 0 0, .slice none 0 0, .slice none 0 0, .slice none 0 0, .slice none 0 0] 68)).alloc (.cells #[.slice none 0 0, .slice none 0 0, .slice none 0 0, .slice none 0 0, .slice none 0 0] 68)) := (((Below.refl _ _).alloc (Nat.le_refl _) _).alloc (by simp) _).alloc (by simp; omega) _
  generalize (((w.alloc (.cells #[.slice ga x.green.length gc, .slice ea x.enter.length ec, .slice da x.during.length dc, .slice la x.leave.length lc, .slice na x.nexts.length nc] 68)).alloc (.cells #[.slice none 0 0, .slice none 0 0, .slice none 0 0, .slice none 0 0, .slice none 0 0] 68)).alloc (.cells #[.slice none 0 0, .slice none 0 0, .slice none 0 0, .slice none 0 0, .slice none 0 0] 68)) = W0 at *
  go_loopw [4] (fun t4 wr => ∃ (k : Nat) (v0 : Value), k ≤ x.green.length ∧ t4 = .int .i64 (k : Int) ∧ Hid (wr.ownsRow (w.heap.size + 3) 9 1 v0 k (cellsT (x.green.take k))) ∧ Hid (Has wr w.heap.size #[.slice ga x.green.length gc, .slice ea x.enter.length ec, .slice da x.during.length dc, .slice la x.leave.length lc, .slice na x.nexts.length nc]) ∧ Hid (Has wr (w.heap.size + 1) #[.slice none 0 0, .slice none 0 0, .slice none 0 0, .slice none 0 0, .slice none 0 0]) ∧ Hid (Has wr (w.heap.size + 1 + 1) #[v0, .slice none 0 0, .slice none 0 0, .slice none 0 0, .slice none 0 0]) ∧ Below w.heap.size w wr) (fun t _ => x.green.length - (intOf t).toNat)
  case atStart => exact ⟨0, _, by omega, rfl, World.ownsRow_nil _ _ _ _, H1, H2, H3, HB⟩
  case round =>
    obtain ⟨k, v0, hk, rfl, own, J1, J2, J3, hb⟩ := hrel
    obtain ⟨z1, f1, _⟩ := id J1.out
    obtain ⟨z2, f2, _⟩ := id J2.out
    obtain ⟨z3, f3, f4⟩ := id J3.out
    by_cases hlt : k < x.green.length
    · obtain ⟨g1, o1, rfl, _, hg1, P1⟩ := gk.resolve_left (by intro e; rw [e] at hlt; simp at hlt)
      obtain ⟨cs1, _, rfl, p⟩ := P1 k hlt
      have p0 := (hb.cell (p := ⟨g1, _, none⟩) hg1).trans (p 0 _ rfl)
      have t1 : (k : Int) < (x.green.length : Int) := by omega
      have t0 : (0 : Int) ≤ (k : Int) := by omega
      have t2 : k + 1 ≤ x.green.length := hlt
      simp only [Nat.add_zero, Nat.mul_one] at p0
      have pw := p 0 _ rfl
      simp only [Nat.add_zero, Nat.mul_one] at pw
      clear p P1 gk H1 H2 H3 HB hE hD hL ek dk lk nk
      have hx : x.green.take (k + 1) = x.green.take k ++ [x.green[k]] := take_push hlt
      generalize x.green[k] = a at *
      go_wp2
      go_region_law ((refine step_append_lies _ rfl _ _ 64 rfl (w.heap.size + 3) 9 i0 _ 1 16 Try.underlying64 hi hi0 hi1 hi2 rfl (by decide) v0 k (cellsT (x.green.take k)) rfl (own.out.drew.alloc _) ⟨wr.heap.size, 0, none⟩ 1 1 [.string a] rfl rfl (cells_at (W := wr.drew) rfl _ _) (all_one rfl) (by decide) (by unfold maxLen; omega) (by omega) (by simp; omega) _ rfl ?_; intro g' c' w4 own' hg' hat' hlt4; have M1 := ((J1.out.drew).alloc _).blk hg'.size (hg'.block _ (by simp; omega) (by intro e; have := (own_lt own.out _ e.symm).1; omega)); have M2 := ((J2.out.drew).alloc _).blk hg'.size (hg'.block _ (by simp; omega) (by intro e; have := (own_lt own.out _ e.symm).1; omega)); have M3 := ((J3.out.drew).alloc _).blk hg'.size (hg'.block _ (by simp; omega) (by intro e; have := (own_lt own.out _ e.symm).1; omega)); have HB4 : Below w.heap.size w w4 := grown_bel ((hb.drew).alloc hb.size _) hg' (Nat.le_refl _) (fun j hj => (by have := (own_lt own.out j hj).1; omega)); have p4 := (HB4.cell (p := ⟨g1, _, none⟩) hg1).trans pw; obtain ⟨y1, y2, y3⟩ := id M1; obtain ⟨y4, y5, y6⟩ := id M3))
      all_goals
        go_wp2
        go_roundw
        case rel =>
          exact ⟨k + 1, _, by omega, by go_num, by
            show World.ownsRow _ _ _ _ _ _ _
            rw [hx]
            have hc : cellsT (x.green.take k ++ [a]) = cellsT (x.green.take k) ++ [.string a] := by simp [cellsT]
            rw [hc]
            exact own_keep own' (fun g hg => by
              have hg2 : g = g' := by injection hg with h; exact h.symm
              subst hg2
              exact Below.heap_setCell _ _ _ _ (by
                show g ≠ w.heap.size + 1 + 1
                rcases hat' with h | h
                · have := (own_lt own.out _ h).1; omega
                · simp at h; omega)), M1.far (by omega) _, M2.far (by omega) _, M3.set 0 (by simp) _, HB4.setCell (p := ⟨w.heap.size + 1 + 1, 0, none⟩) (by simp; omega) _⟩
        case measure => simp [intOf]; omega
    · have t1 : ¬ (k : Int) < (x.green.length : Int) := by omega
      obtain rfl : k = x.green.length := by omega
      have own0 := own.out
      rw [List.take_length] at own0
      obtain ⟨g0a, g0c, rfl⟩ := own_form own0
      have r1 : Txs (fun b => w.heap.size + 3 ≤ b) wr (.slice g0a x.green.length g0c) x.green := Txs.of_own own0 (fun b h => h) gl
      have K1 := J1.out
      have K2 := J2.out
      have K3 := J3.out
      clear own own0 J1 J2 J3 H1 H2 H3 HB gk ek dk lk
      go_wp2_with (first
        | (go_at_call 50; (with_reducible refine Calls.mono (hE _ (by exact hb)) ?_); rintro e w1 ⟨⟨v2, rfl, r0⟩, hb1⟩; have r2 := r0.mv (S' := fun b => w.heap.size + 3 ≤ b) (Mv.weak fun b _ hbb => (Nat.le_trans (show w.heap.size + 3 ≤ _ from z3) hbb)); clear r0; have q1 := r2; obtain ⟨e0a, e0c, rfl, -, -⟩ := Rows.any q1; clear q1; simp only [List.length_map] at r2; replace r1 := r1.below hb1; replace K1 := K1.below hb1; replace K2 := K2.below hb1; replace K3 := K3.below hb1; have HB1 : Below w.heap.size w w1 := bel_after hb hb.size hb1; obtain ⟨a1, a2, a3⟩ := id K1; obtain ⟨a4, a5, a6⟩ := id K3; clear hE hb1 hb z1 f1 z2 f2 z3 f3 f4)
        | (go_at_call 50; (with_reducible refine Calls.mono (hD _ (by exact HB1.setCell (p := ⟨w.heap.size + 1 + 1, 1, none⟩) (by simp; omega) _)) ?_); rintro e w2 ⟨⟨v3, rfl, r0⟩, hb2⟩; have r3 := r0.mv (S' := fun b => w.heap.size + 3 ≤ b) (Mv.weak fun b _ hbb => (Nat.le_trans (show w.heap.size + 3 ≤ _ by simp [World.setCell]; omega) hbb)); clear r0; have q1 := r3; obtain ⟨d0a, d0c, rfl, -, -⟩ := Rows.any q1; clear q1; simp only [List.length_map] at r3; replace r1 := (r1.mv (Mv.set (g := w.heap.size + 1 + 1) (o := 1) (nin3 w))).below hb2; replace r2 := (r2.mv (Mv.set (g := w.heap.size + 1 + 1) (o := 1) (nin3 w))).below hb2; replace K1 := (K1.far (c := w.heap.size + 1 + 1) (i := 1) (by omega) _).below hb2; replace K2 := (K2.far (c := w.heap.size + 1 + 1) (i := 1) (by omega) _).below hb2; replace K3 := (K3.set 1 (by simp) _).below hb2; have HB2 : Below w.heap.size w w2 := bel_after (HB1.setCell (p := ⟨w.heap.size + 1 + 1, 1, none⟩) (by simp; omega) _) (by simp [World.setCell]; have := HB1.size; omega) hb2; obtain ⟨b1, b2, b3⟩ := id K1; obtain ⟨b4, b5, b6⟩ := id K3; clear hD hb2 HB1 a1 a2 a3 a4 a5 a6)
        | (go_at_call 50; (with_reducible refine Calls.mono (hL _ (by exact HB2.setCell (p := ⟨w.heap.size + 1 + 1, 2, none⟩) (by simp; omega) _)) ?_); rintro e w3 ⟨⟨v4, rfl, r0⟩, hb3⟩; have r4 := r0.mv (S' := fun b => w.heap.size + 3 ≤ b) (Mv.weak fun b _ hbb => (Nat.le_trans (show w.heap.size + 3 ≤ _ by simp [World.setCell]; omega) hbb)); clear r0; have q1 := r4; obtain ⟨l0a, l0c, rfl, -, -⟩ := Rows.any q1; clear q1; simp only [List.length_map] at r4; replace r1 := (r1.mv (Mv.set (g := w.heap.size + 1 + 1) (o := 2) (nin3 w))).below hb3; replace r2 := (r2.mv (Mv.set (g := w.heap.size + 1 + 1) (o := 2) (nin3 w))).below hb3; replace r3 := (r3.mv (Mv.set (g := w.heap.size + 1 + 1) (o := 2) (nin3 w))).below hb3; replace K1 := (K1.far (c := w.heap.size + 1 + 1) (i := 2) (by omega) _).below hb3; replace K2 := (K2.far (c := w.heap.size + 1 + 1) (i := 2) (by omega) _).below hb3; replace K3 := (K3.set 2 (by simp) _).below hb3; have HB3 : Below w.heap.size w w3 := bel_after (HB2.setCell (p := ⟨w.heap.size + 1 + 1, 2, none⟩) (by simp; omega) _) (by simp [World.setCell]; have := HB2.size; omega) hb3; obtain ⟨c1, c2, c3⟩ := id K1; obtain ⟨c4, c5, c6⟩ := id K3; clear hL hb3 HB2 b1 b2 b3 b4 b5 b6))
      have N3 : Has (w3.setCell ⟨w.heap.size + 1 + 1, 3, none⟩ (.slice l0a x.leave.length l0c)) (w.heap.size + 1 + 1) #[.slice g0a x.green.length g0c, .slice e0a x.enter.length e0c, .slice d0a x.during.length d0c, .slice l0a x.leave.length l0c, .slice none 0 0] := by simpa using K3.set 3 (by simp) (.slice l0a x.leave.length l0c)
      have N1 := K1.far (c := w.heap.size + 1 + 1) (i := 3) (by omega) (.slice l0a x.leave.length l0c)
      have N2 := K2.far (c := w.heap.size + 1 + 1) (i := 3) (by omega) (.slice l0a x.leave.length l0c)
      have MV0 : Mv (fun b => w.heap.size + 3 ≤ b) w3 (Sx (w.heap.size + 3) (.slice none 0 0)) (w3.setCell ⟨w.heap.size + 1 + 1, 3, none⟩ (.slice l0a x.leave.length l0c)) := (Mv.set (nin3 w)).trans (Mv.weak fun b _ h => ⟨h, by simp [Value.ownBlock]⟩)
      have RR : Txs (Sx (w.heap.size + 3) (.slice none 0 0)) (w3.setCell ⟨w.heap.size + 1 + 1, 3, none⟩ (.slice l0a x.leave.length l0c)) (.slice g0a x.green.length g0c) x.green ∧ Sts (Sx (w.heap.size + 3) (.slice none 0 0)) (w3.setCell ⟨w.heap.size + 1 + 1, 3, none⟩ (.slice l0a x.leave.length l0c)) (.slice e0a x.enter.length e0c) (x.enter.map bareSt) ∧ Sts (Sx (w.heap.size + 3) (.slice none 0 0)) (w3.setCell ⟨w.heap.size + 1 + 1, 3, none⟩ (.slice l0a x.leave.length l0c)) (.slice d0a x.during.length d0c) (x.during.map bareSt) ∧ Sts (Sx (w.heap.size + 3) (.slice none 0 0)) (w3.setCell ⟨w.heap.size + 1 + 1, 3, none⟩ (.slice l0a x.leave.length l0c)) (.slice l0a x.leave.length l0c) (x.leave.map bareSt) := ⟨r1.mv MV0, r2.mv MV0, r3.mv MV0, r4.mv MV0⟩
      have HBV : Below w.heap.size w (w3.setCell ⟨w.heap.size + 1 + 1, 3, none⟩ (.slice l0a x.leave.length l0c)) := HB3.setCell (p := ⟨w.heap.size + 1 + 1, 3, none⟩) (by simp; omega) _
      clear K1 K2 K3 c1 c2 c3 c4 c5 c6 r1 r2 r3 r4 MV0 HB3
      generalize w3.setCell ⟨w.heap.size + 1 + 1, 3, none⟩ (.slice l0a x.leave.length l0c) = V at *
      obtain ⟨i3, hj, hj0, hj1, hj2⟩ := info_parts info73
      clear hi hi0 hi1 hi2 t1
      go_loopw [5] (fun t5 wr => ∃ (n : Nat) (v5 : Value) (xs : List Value), n ≤ x.nexts.length ∧ t5 = .int .i64 (n : Int) ∧ Hid (wr.ownsRow (w.heap.size + 3) 73 4 v5 n xs) ∧ Hid (Els 4 NxR (Sx (w.heap.size + 3) v5) wr xs ((x.nexts.map bareNx).take n)) ∧ Hid (Has wr w.heap.size #[.slice ga x.green.length gc, .slice ea x.enter.length ec, .slice da x.during.length dc, .slice la x.leave.length lc, .slice na x.nexts.length nc]) ∧ Hid (Has wr (w.heap.size + 1) #[.slice none 0 0, .slice none 0 0, .slice none 0 0, .slice none 0 0, .slice none 0 0]) ∧ Hid (Has wr (w.heap.size + 1 + 1) #[.slice g0a x.green.length g0c, .slice e0a x.enter.length e0c, .slice d0a x.during.length d0c, .slice l0a x.leave.length l0c, v5]) ∧ Hid (Txs (Sx (w.heap.size + 3) v5) wr (.slice g0a x.green.length g0c) x.green ∧ Sts (Sx (w.heap.size + 3) v5) wr (.slice e0a x.enter.length e0c) (x.enter.map bareSt) ∧ Sts (Sx (w.heap.size + 3) v5) wr (.slice d0a x.during.length d0c) (x.during.map bareSt) ∧ Sts (Sx (w.heap.size + 3) v5) wr (.slice l0a x.leave.length l0c) (x.leave.map bareSt)) ∧ Below w.heap.size w wr) (fun t _ => x.nexts.length - (intOf t).toNat)
      case atStart => exact ⟨0, _, [], by omega, rfl, World.ownsRow_nil _ _ _ _, Els.nil _ _ _ _, N1, N2, N3, RR, HBV⟩
      case round =>
        clear N1 N2 N3 RR HBV
        obtain ⟨n, v5, xs, hn, rfl, own, els, J1, J2, J3, RR, hb⟩ := hrel
        obtain ⟨z1, f1, _⟩ := id J1.out
        obtain ⟨z2, f2, f2'⟩ := id J2.out
        obtain ⟨z3, f3, f4⟩ := id J3.out
        by_cases hlt : n < x.nexts.length
        · obtain ⟨g1, o1, rfl, _, hg1, P1⟩ := nk.resolve_left (by intro e; rw [e] at hlt; simp at hlt)
          obtain ⟨cs1, _, ⟨v, rfl, vN⟩, p⟩ := P1 n hlt
          have hF := fun (W : World) (hW : Below w.heap.size w W) => refBareExpr_exs x.nexts[n].cnd _ S1 W (vN.below hW)
          obtain ⟨va, vc, rfl, -, -⟩ := Rows.any vN
          have pw0 := p 0 _ rfl
          have pw1 := p 1 _ rfl
          have p0 := (hb.cell (p := ⟨g1, _, none⟩) hg1).trans pw0
          have p1 := (hb.cell (p := ⟨g1, _, none⟩) hg1).trans pw1
          have t1 : (n : Int) < (x.nexts.length : Int) := by omega
          have t0 : (0 : Int) ≤ (n : Int) := by omega
          have t2 : n + 1 ≤ x.nexts.length := hlt
          have hlt' : n < (x.nexts.map bareNx).length := by simpa using hlt
          have hfx : (x.nexts.map bareNx)[n]'hlt' = bareNx x.nexts[n] := by simp
          have hx : (x.nexts.map bareNx).take (n + 1) = (x.nexts.map bareNx).take n ++ [(x.nexts.map bareNx)[n]'hlt'] := take_push hlt'
          simp only [Nat.add_zero] at p0 pw0
          clear p P1 nk vN
          rw [hfx] at hx
          clear hfx
          generalize x.nexts[n] = y at *
          go_wp2_with (go_at_call 32; (with_reducible refine Calls.mono (hF _ (by exact hb)) ?_); rintro e w1 ⟨⟨v', rfl, r0⟩, hb1⟩; have q1 := r0; obtain ⟨ra, rc, rfl, -, -⟩ := Rows.any q1; clear q1; simp only [List.length_map] at r0; have HB1 : Below w.heap.size w w1 := bel_after hb hb.size hb1; have own1 := own_bel own.out hb1; have M1 := J1.out.below hb1; have M2 := J2.out.below hb1; have M3 := J3.out.below hb1; obtain ⟨y1, y2, y3⟩ := id M1; obtain ⟨y4, y5, y6⟩ := id M3; have pp := (HB1.cell (p := ⟨g1, _, none⟩) hg1).trans pw0; clear hF)
          go_region_law ((refine step_append_lies _ rfl _ _ 66 rfl (w.heap.size + 3) 73 i3 _ 4 56 Try.underlying66 hj hj0 hj1 hj2 rfl (by decide) v5 n xs rfl (own1.drew.alloc _) ⟨w1.heap.size, 0, none⟩ 1 1 [.string y.dst, .slice ra y.cnd.length rc, .int .i64 0, .int .i64 0] rfl rfl (cells_at (W := w1.drew) rfl _ _) (all_one rfl) (by decide) (by unfold maxLen; omega) (by omega) (by simp; omega) _ rfl ?_; intro g' c' w4 own' hg' hat' hlt4; have L1 := ((M1.drew).alloc _).blk hg'.size (hg'.block _ (by simp; omega) (by intro e; have := (own_lt own1 _ e.symm).1; omega)); have L2 := ((M2.drew).alloc _).blk hg'.size (hg'.block _ (by simp; omega) (by intro e; have := (own_lt own1 _ e.symm).1; omega)); have L3 := ((M3.drew).alloc _).blk hg'.size (hg'.block _ (by simp; omega) (by intro e; have := (own_lt own1 _ e.symm).1; omega)); have HB4 : Below w.heap.size w w4 := grown_bel ((HB1.drew).alloc HB1.size _) hg' (Nat.le_refl _) (fun j hj => (by have := (own_lt own1 j hj).1; omega)); obtain ⟨x1, x2, x3⟩ := id L1; obtain ⟨x4, x5, x6⟩ := id L3))
          all_goals
            go_wp2
            go_roundw
            case rel =>
              have MVa : Mv (Sx (w.heap.size + 3) v5) w1 (Sx (w.heap.size + 3) (.slice (some ⟨g', 0, none⟩) (n + 1) c')) w4 := (Mv.below (((Below.refl _ _).drew).alloc (Nat.le_refl _) _)).trans (Mv.app hg' (hat'.imp id (fun h => Nat.le_of_eq h.symm)))
              have MVs : Mv (Sx (w.heap.size + 3) (.slice (some ⟨g', 0, none⟩) (n + 1) c')) w4 (Sx (w.heap.size + 3) (.slice (some ⟨g', 0, none⟩) (n + 1) c')) (w4.setCell ⟨w.heap.size + 1 + 1, 4, none⟩ (.slice (some ⟨g', 0, none⟩) (n + 1) c')) := Mv.set (fun h => absurd h.1 (by omega))
              have MVr : Mv (Sx (w.heap.size + 3) v5) wr (Sx (w.heap.size + 3) (.slice (some ⟨g', 0, none⟩) (n + 1) c')) (w4.setCell ⟨w.heap.size + 1 + 1, 4, none⟩ (.slice (some ⟨g', 0, none⟩) (n + 1) c')) := ((Mv.below hb1).trans MVa).trans MVs
              have r5 := r0.mv (((Mv.weak (S' := Sx (w.heap.size + 3) v5) fun b _ (hbb : wr.heap.size ≤ b) => ⟨by omega, by intro e; have := (own_lt own.out b e).2; omega⟩).trans MVa).trans MVs)
              exact ⟨n + 1, _, _, by omega, by go_num, own_keep own' (fun g hg => by
                have hg2 : g = g' := by injection hg with h; exact h.symm
                subst hg2
                exact Below.heap_setCell _ _ _ _ (by
                  show g ≠ w.heap.size + 1 + 1
                  rcases hat' with h | h
                  · have := (own_lt own1 _ h).1; omega
                  · simp at h; omega)), by
                    show Els _ _ _ _ _ _
                    rw [hx]
                    exact Els.push (mx := 0) (Els.mv (mx := 0) els.out (fun _ _ h => h.mv MVr)) rfl ⟨_, rfl, r5⟩, L1.far (by omega) _, L2.far (by omega) _, L3.set 4 (by simp) _, ⟨RR.out.1.mv MVr, RR.out.2.1.mv MVr, RR.out.2.2.1.mv MVr, RR.out.2.2.2.mv MVr⟩, HB4.setCell (p := ⟨w.heap.size + 1 + 1, 4, none⟩) (by simp; omega) _⟩
            case measure => simp [intOf]; omega
        · have t1 : ¬ (n : Int) < (x.nexts.length : Int) := by omega
          obtain rfl : n = x.nexts.length := by omega
          have own0 := own.out
          have els0 := els.out
          rw [List.take_of_length_le (by simp)] at els0
          obtain ⟨n0a, n0c, rfl⟩ := own_form own0
          obtain ⟨r1, r2, r3, r4⟩ := RR.out
          clear nk own els J1 J2 J3 RR
          go_wp2
          have MVf : Mv (Sx (w.heap.size + 3) (.slice n0a x.nexts.length n0c)) wr (fun b => w.heap.size ≤ b) (setCells wr (w.heap.size + 1) 0 [.slice g0a x.green.length g0c, .slice e0a x.enter.length e0c, .slice d0a x.during.length d0c, .slice l0a x.leave.length l0c, .slice n0a x.nexts.length n0c]) := (Mv.cells (fun h => absurd h.1 (by omega)) _ _ _).trans (Mv.weak fun b _ h => (by have := h.1; omega : w.heap.size ≤ b))
          have r5 : Nxs (fun b => w.heap.size + 3 ≤ b) wr (.slice n0a x.nexts.length n0c) (x.nexts.map bareNx) := Own.rows ⟨_, by rw [List.length_map]; exact own0, els0⟩ (fun _ _ h => h.mv (Mv.weak fun b _ h => h.1)) (by rw [List.length_map]; exact nl)
          have MVg : Mv (fun b => w.heap.size + 3 ≤ b) wr (fun b => w.heap.size ≤ b) (setCells wr (w.heap.size + 1) 0 [.slice g0a x.green.length g0c, .slice e0a x.enter.length e0c, .slice d0a x.during.length d0c, .slice l0a x.leave.length l0c, .slice n0a x.nexts.length n0c]) := (Mv.cells (S := fun b => w.heap.size + 3 ≤ b) (by intro h; have h' : w.heap.size + 3 ≤ w.heap.size + 1 := h; omega) _ _ _).trans (Mv.weak fun b _ (h : w.heap.size + 3 ≤ b) => (by omega : w.heap.size ≤ b))
          refine bodyPost_ret (v := .agg #[.slice g0a x.green.length g0c, .slice e0a x.enter.length e0c, .slice d0a x.during.length d0c, .slice l0a x.leave.length l0c, .slice n0a x.nexts.length n0c]) (by simp [results, Try.results33, go_sem, f2]) rfl ⟨⟨⟨_, _, _, _, _⟩, rfl, r1.mv MVf, r2.mv MVf, r3.mv MVf, r4.mv MVf, r5.mv MVg⟩, below_cells (by omega) [.slice g0a x.green.length g0c, .slice e0a x.enter.length e0c, .slice d0a x.during.length d0c, .slice l0a x.leave.length l0c, .slice n0a x.nexts.length n0c] wr 0 hb⟩
end Go.Proofs.Ytbfojlfdiallnaa
