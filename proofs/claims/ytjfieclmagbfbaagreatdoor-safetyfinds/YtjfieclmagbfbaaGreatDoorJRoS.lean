import Derived.Test.YtjfieclmagbfbaaGreatDoorJHs
import Derived.Laws.BitsAllLaws
set_option linter.unusedSimpArgs false
set_option linter.unusedVariables false
set_option maxRecDepth 100000
set_option maxHeartbeats 8000000
namespace Go.Proofs.YtjfieclmagbfbaaGreatDoor
open Go.RowKit
structure FP (w V : World) (rb : Nat) (fa : Option Addr) (fc : Nat) (F : List Fd) (W : World) : Prop where
 hb : Below w.heap.size w W
 on : Only (fun q => q = rb) V W
 box : Has W rb #[.slice fa F.length fc]
 own : W.ownsRow V.heap.size 70 4 (.slice fa F.length fc) F.length (zAc Fd.cs F)
 ge : w.heap.size ≤ rb
 gv : w.heap.size ≤ V.heap.size
 ne : (Value.slice fa F.length fc).ownBlock ≠ some rb
 le : F.length ≤ 64
theorem FP.below {w V W W' : World} {rb : Nat} {fa : Option Addr} {fc : Nat} {F : List Fd} (h : FP w V rb fa fc F W) (hb : Below W.heap.size W W') : FP w V rb fa fc F W' :=
 ⟨zAa h.hb h.hb.size hb, h.on.below hb, h.box.below hb, zAe h.own hb, h.ge, h.gv, h.ne, h.le⟩
theorem FP.at_ {w V W : World} {rb b i : Nat} {fa : Option Addr} {fc : Nat} {F : List Fd} (h : FP w V rb fa fc F W) (hb : b < V.heap.size) (hne : b ≠ rb) : W.cell? ⟨b, i, none⟩ = V.cell? ⟨b, i, none⟩ := by
 unfold World.cell?
 rw [h.on.block b hb hne]
theorem zAs (w V W : World) (rb : Nat) (fa : Option Addr) (fc : Nat) (F : List Fd) (c s a b : Int) (h : FP w V rb fa fc F W) :
  Calls Tryz.prog 72 #[.pointer (some ⟨rb, 0, none⟩), .int .i64 c, .int .i64 s, .int .i64 a, .int .i64 b] W fun e W' => e = .returned (.tuple #[]) ∧ ∃ fa' fc', FP w V rb fa' fc' (addF F ⟨c, s, a, b⟩) W' ∧ TellS rb (.slice fa F.length fc) (.slice fa' (addF F ⟨c, s, a, b⟩).length fc') W W' := by
 obtain ⟨ti, hi, hi0, hi1, hi2⟩ := info_parts info70
 have c14 := h.box.2.1 0
 have f14 := h.box.2.2 0
 have l14 : rb < W.heap.size := h.box.1
 have hle := h.le
 have hne := h.ne
 have hge := h.ge
 have hz := h.on.size
 have hgv := h.gv
 by_cases hl : F.length < 64
 ·have t1 : (F.length : Int) < 64 := by omega
  have eF : addF F ⟨c, s, a, b⟩ = F ++ [⟨c, s, a, b⟩] := by unfold addF; rw [if_pos hl]
  rw [eF]; have hb1 : Below W.heap.size W (W.alloc (.cells #[.int .i64 c, .int .i64 s, .int .i64 a, .int .i64 b] 70)) := bel1 _; have h1 := h.below hb1; go_enter Tryz.func72, Tryz.ntmps72
  go_wp2_with (at_builtin; (refine zAd _ rfl _ _ 33 rfl V.heap.size 70 ti _ 4 32 Tryz.underlying33 hi hi0 hi1 hi2 rfl (by decide) (.slice fa F.length fc) F.length (zAc Fd.cs F) rfl h1.own ⟨W.heap.size, 0, none⟩ 1 1 [.int .i64 c, .int .i64 s, .int .i64 a, .int .i64 b] rfl rfl (zBa (W := W) rfl _ _) (zAz rfl) (by decide) (by unfold maxLen; omega) (by omega) (Nat.le_trans hz hb1.size) ?_); intro g7 k7 w7 o7 gr7 at7 _ hc7; have n7 : some rb ≠ (Value.slice fa F.length fc).ownBlock := fun e => hne e.symm; have B7 : Has w7 rb _ := h1.box.blk gr7.size (gr7.block _ h1.box.1 n7); have c7 : w7.cell? ⟨rb, 0, none⟩ = some (.slice fa F.length fc) := (by rw [B7.2.1 0]; rfl); have f7 := B7.2.2 0; have l7 := B7.1)
  have h7 : Below w.heap.size w w7 := zAn h1.hb gr7 (Nat.le_refl _) (fun q hq => Nat.le_trans hgv (zAg h1.own q hq).1); have B8 := B7.set 0 (by simp) (.slice (some ⟨g7, 0, none⟩) (F.length + 1) k7); have hg7 : g7 ≠ rb := by
   rcases at7 with e | e
   ·intro e2; subst e2; exact n7 e.symm
   ·have := h1.box.1; omega
  go_end0
  refine ⟨rfl, some ⟨g7, 0, none⟩, k7, ⟨?_, ?_, ?_, ?_, hge, hgv, ?_, ?_⟩, ⟨?_, ?_⟩⟩
  ·exact h7.setCell (p := ⟨rb, 0, none⟩) hge _
  ·refine ⟨gr7.os.trans h1.on.os, gr7.tape.trans h1.on.tape, gr7.output.trans h1.on.output, by simpa [World.setCell] using Nat.le_trans h1.on.size gr7.size, fun q hq hn => ?_⟩
   rw [Below.heap_setCell _ _ _ _ hn]; exact (gr7.block q (Nat.lt_of_lt_of_le hq h1.on.size) (fun e => by have := (zAg h1.own q e.symm).1; omega)).trans (h1.on.block q hq hn)
  ·have e : (F ++ [(⟨c, s, a, b⟩ : Fd)]).length = F.length + 1 := by simp
   rw [e]
   simpa using B8
  ·have e : (F ++ [(⟨c, s, a, b⟩ : Fd)]).length = F.length + 1 := by simp
   rw [e, show zAc Fd.cs (F ++ [⟨c, s, a, b⟩]) = zAc Fd.cs F ++ [.int .i64 c, .int .i64 s, .int .i64 a, .int .i64 b] from by rw [zBe]; simp [zAc, Fd.cs]]; refine ⟨o7.1, ?_⟩; rcases o7.2 with h0 | ⟨g, cap, cur, q1, q2, q3, q4⟩
   ·exact .inl h0
   ·refine .inr ⟨g, cap, cur, q1, q2, ?_, q4⟩
    have e3 : g = g7 := by injection q1 with q _ _; injection q with q; injection q with q; exact q.symm
    rw [Below.heap_setCell _ _ _ _ (by rw [e3]; exact hg7)]; exact q3
  ·intro e; injection e with e; exact hg7 e
  ·simp; omega
  ·refine (Only.of_below (S := _) hb1).trans ⟨gr7.os, gr7.tape, gr7.output, by simpa [World.setCell] using gr7.size, fun q hq hn => ?_⟩
   rw [Below.heap_setCell _ _ _ _ (fun e => hn (.inl e))]; exact gr7.block q hq (fun e => hn (.inr e.symm))
  ·intro q hq
   have e : g7 = q := by injection hq
   subst e; rcases at7 with e | e
   ·exact .inl e
   ·exact .inr (Nat.le_trans hb1.size e)
 ·have t1 : ¬ (F.length : Int) < 64 := by omega
  rw [addF_full _ (by omega)]; go_enter Tryz.func72, Tryz.ntmps72
  go_wp2_with fail
  go_end0
  exact ⟨rfl, fa, fc, h, TellS.refl _ _ (Below.refl _ _)⟩
theorem groupsR_any (G : List Gp) (C : List Cf) (ga ca : Option Addr) (gc cc : Nat) (fa : Option Addr) (fc : Nat) (F : List Fd) (w V W : World) (rb : Nat) (h : FP w V rb fa fc F W) (hG : Fl 5 Gp.cs w (.slice ga G.length gc) G) (lG : G.length ≤ 2932031007317) (hs : ∀ g ∈ G, 1 ≤ g.sort ∧ g.sort ≤ 2) :
  Calls Tryz.prog 46 #[.pointer (some ⟨rb, 0, none⟩), .agg #[.slice ga G.length gc, .slice ca C.length cc]] W fun e W' => e = .returned (.tuple #[]) ∧ ∃ fa' fc', FP w V rb fa' fc' (addL F (lnF 0 G)) W' := by
 obtain ⟨_, _, e1, kG⟩ := hG.any
 injection e1 with e1 _ e2
 subst e1
 subst e2
 clear hG
 have h1 := h.below (bel1 (.cells #[.slice ga G.length gc, .slice ca C.length cc] 25))
 have N1 : Has (W.alloc (.cells #[.slice ga G.length gc, .slice ca C.length cc] 25)) W.heap.size #[.slice ga G.length gc, .slice ca C.length cc] := Has.new _ _ _ rfl
 have hn1 : ∀ q, (Value.slice fa F.length fc).ownBlock = some q → q ≠ W.heap.size := fun q hq => by have := (zAg h.own q hq).2; omega
 have hnr : W.heap.size ≠ rb := by have := h.box.1; omega
 generalize hA : addL F (lnF 0 G) = A
 go_enter Tryz.func46, Tryz.ntmps46
 go_wp2_with fail
 generalize (W.alloc (.cells #[.slice ga G.length gc, .slice ca C.length cc] 25)) = W1 at *
 clear h
 generalize W.heap.size = nb at *
 go_loopw [4] (fun u wr => ∃ (k : Nat) (fa0 : Option Addr) (fc0 : Nat) (F0 : List Fd), k ≤ G.length ∧ u = .int .i64 (k : Int) ∧ Hid (addL F0 (lnF k (G.drop k)) = A) ∧ Hid (FP w V rb fa0 fc0 F0 wr) ∧ Hid (Has wr nb #[.slice ga G.length gc, .slice ca C.length cc]) ∧ Hid (∀ q, (Value.slice fa0 F0.length fc0).ownBlock = some q → q ≠ nb)) (fun u _ => G.length - (intOf u).toNat)
 case atStart => exact ⟨0, fa, fc, F, by omega, rfl, hA, h1, N1, hn1⟩
 case round =>
  clear hA h1 N1 hn1; obtain ⟨k, fa0, fc0, F0, hk, rfl, hq', hr', N', hn'⟩ := hrel; have hq := hq'.out; have hr0 := hr'.out; have N0 := N'.out; have hn0 : ∀ q, (Value.slice fa0 F0.length fc0).ownBlock = some q → q ≠ nb := hn'.out; clear hq' hr' N' hn'; obtain ⟨_, c1, _⟩ := id N0
  by_cases hlt : k < G.length
  case neg =>
   have t1 : ¬ (k : Int) < (G.length : Int) := by omega
   rw [lnF_end _ _ (by omega), zAf] at hq; subst hq
   go_wp2_with fail
   go_end0
   exact ⟨rfl, fa0, fc0, hr0⟩
  case pos =>
   obtain ⟨g1, o1, rfl, hg1, P1⟩ := kG.resolve_left (by intro e; rw [e] at hlt; simp at hlt); have p0 := (hr0.hb.cell (p := ⟨g1, _, none⟩) hg1).trans (P1 k hlt 0 _ rfl); have p1 := (hr0.hb.cell (p := ⟨g1, _, none⟩) hg1).trans (P1 k hlt 1 _ rfl); have p2 := (hr0.hb.cell (p := ⟨g1, _, none⟩) hg1).trans (P1 k hlt 2 _ rfl); have p3 := (hr0.hb.cell (p := ⟨g1, _, none⟩) hg1).trans (P1 k hlt 3 _ rfl); have p4 := (hr0.hb.cell (p := ⟨g1, _, none⟩) hg1).trans (P1 k hlt 4 _ rfl); simp only [Nat.add_zero] at p0; have hso := hs _ (List.getElem_mem hlt); rw [lnF_drop G k hlt, zBh] at hq; unfold lnX at hq; have t1 : (k : Int) < (G.length : Int) := by omega
   have t0 : (0 : Int) ≤ (k : Int) := by omega
   have t2 : k + 1 ≤ G.length := hlt; generalize hg : G[k] = gg at *; generalize gg.name = x0 at *; generalize gg.sort = x1 at *; generalize gg.min = x2 at *; generalize gg.amber = x3 at *; generalize gg.lead = x4 at *; clear P1 kG hs hg; have hr1 := hr0.below (bel1 (.cells #[.string x0, .int .i64 x1, .int .i64 x2, .int .i64 x3, .int .i64 x4] 73)); have B1 : Has (wr.alloc (.cells #[.string x0, .int .i64 x1, .int .i64 x2, .int .i64 x3, .int .i64 x4] 73)) wr.heap.size #[.string x0, .int .i64 x1, .int .i64 x2, .int .i64 x3, .int .i64 x4] := Has.new _ _ _ rfl; have N1 := N0.alloc (.cells #[.string x0, .int .i64 x1, .int .i64 x2, .int .i64 x3, .int .i64 x4] 73); have hm1 : wr.heap.size ≠ rb := by have := hr0.box.1; omega
   have hn : ∀ q, (Value.slice fa0 F0.length fc0).ownBlock = some q → q ≠ wr.heap.size ∧ q ≠ nb := fun q hq2 => ⟨by have := (zAg hr0.own q hq2).2; omega, hn0 q hq2⟩
   have hz1 : wr.heap.size + 1 ≤ (wr.alloc (.cells #[.string x0, .int .i64 x1, .int .i64 x2, .int .i64 x3, .int .i64 x4] 73)).heap.size := by simp
   have hzn : nb < wr.heap.size := N0.1; rw [zBh, zBh] at hq; obtain ⟨_, b1, _⟩ := id B1; clear hr0 N0 hn0; obtain ⟨hs1, hs2⟩ := hso
   by_cases h2 : x1 = 2
   case pos =>
    subst h2; simp only [show ndM (Int.toNat 2) = 4 from rfl, show ndA (Int.toNat 2) = 0 from rfl] at hq
    by_cases c0 : x2 < 4
    case pos =>
     by_cases c1 : x3 < 0
     case pos =>
      by_cases c2 : 0 < x4
      case pos =>
       rw [if_pos c0, zAj] at hq; rw [if_pos c1, zAj] at hq; rw [if_pos c2, zAj] at hq
       go_wp2_with (first | (go_at_call 72; (with_reducible refine Calls.mono (zAs w V _ rb _ _ F0 62 (-1) (k : Int) (-1) hr1) ?_); rintro e w2 ⟨rfl, fa2, fc2, hr2, ts2⟩; have B1 := ts2.has B1 hm1 (fun e => (hn _ e).1 rfl); have N1 := ts2.has N1 hnr (fun e => (hn _ e).2 rfl); have hn := ts2.far hn (fun q hq2 => (by have := hz1; omega)); have hz2 := Nat.le_trans hz1 ts2.only.size; generalize addF F0 ⟨62, -1, (k : Int), -1⟩ = F2 at *; clear b1; obtain ⟨_, b1, _⟩ := id B1) | (go_at_call 72; (with_reducible refine Calls.mono (zAs w V _ rb _ _ F2 63 (-1) (k : Int) (-1) hr2) ?_); rintro e w3 ⟨rfl, fa3, fc3, hr3, ts3⟩; have B1 := ts3.has B1 hm1 (fun e => (hn _ e).1 rfl); have N1 := ts3.has N1 hnr (fun e => (hn _ e).2 rfl); have hn := ts3.far hn (fun q hq2 => (by have := hz2; omega)); have hz3 := Nat.le_trans hz2 ts3.only.size; generalize addF F2 ⟨63, -1, (k : Int), -1⟩ = F3 at *; clear b1; obtain ⟨_, b1, _⟩ := id B1) | (go_at_call 72; (with_reducible refine Calls.mono (zAs w V _ rb _ _ F3 64 (-1) (k : Int) (-1) hr3) ?_); rintro e w4 ⟨rfl, fa4, fc4, hr4, ts4⟩; have B1 := ts4.has B1 hm1 (fun e => (hn _ e).1 rfl); have N1 := ts4.has N1 hnr (fun e => (hn _ e).2 rfl); have hn := ts4.far hn (fun q hq2 => (by have := hz3; omega)); have hz4 := Nat.le_trans hz3 ts4.only.size; generalize addF F3 ⟨64, -1, (k : Int), -1⟩ = F4 at *; clear b1; obtain ⟨_, b1, _⟩ := id B1))
       go_roundw
       case rel => exact ⟨k + 1, _, _, _, by omega, by go_num, hq, hr4, N1, fun q hq2 => (hn q hq2).2⟩
       case measure => simp [intOf]; omega
      case neg =>
       rw [if_pos c0, zAj] at hq; rw [if_pos c1, zAj] at hq; rw [if_neg c2, zAf] at hq
       go_wp2_with (first | (go_at_call 72; (with_reducible refine Calls.mono (zAs w V _ rb _ _ F0 62 (-1) (k : Int) (-1) hr1) ?_); rintro e w2 ⟨rfl, fa2, fc2, hr2, ts2⟩; have B1 := ts2.has B1 hm1 (fun e => (hn _ e).1 rfl); have N1 := ts2.has N1 hnr (fun e => (hn _ e).2 rfl); have hn := ts2.far hn (fun q hq2 => (by have := hz1; omega)); have hz2 := Nat.le_trans hz1 ts2.only.size; generalize addF F0 ⟨62, -1, (k : Int), -1⟩ = F2 at *; clear b1; obtain ⟨_, b1, _⟩ := id B1) | (go_at_call 72; (with_reducible refine Calls.mono (zAs w V _ rb _ _ F2 63 (-1) (k : Int) (-1) hr2) ?_); rintro e w3 ⟨rfl, fa3, fc3, hr3, ts3⟩; have B1 := ts3.has B1 hm1 (fun e => (hn _ e).1 rfl); have N1 := ts3.has N1 hnr (fun e => (hn _ e).2 rfl); have hn := ts3.far hn (fun q hq2 => (by have := hz2; omega)); have hz3 := Nat.le_trans hz2 ts3.only.size; generalize addF F2 ⟨63, -1, (k : Int), -1⟩ = F3 at *; clear b1; obtain ⟨_, b1, _⟩ := id B1))
       go_roundw
       case rel => exact ⟨k + 1, _, _, _, by omega, by go_num, hq, hr3, N1, fun q hq2 => (hn q hq2).2⟩
       case measure => simp [intOf]; omega
     case neg =>
      by_cases c2 : 0 < x4
      case pos =>
       rw [if_pos c0, zAj] at hq; rw [if_neg c1, zAf] at hq; rw [if_pos c2, zAj] at hq
       go_wp2_with (first | (go_at_call 72; (with_reducible refine Calls.mono (zAs w V _ rb _ _ F0 62 (-1) (k : Int) (-1) hr1) ?_); rintro e w2 ⟨rfl, fa2, fc2, hr2, ts2⟩; have B1 := ts2.has B1 hm1 (fun e => (hn _ e).1 rfl); have N1 := ts2.has N1 hnr (fun e => (hn _ e).2 rfl); have hn := ts2.far hn (fun q hq2 => (by have := hz1; omega)); have hz2 := Nat.le_trans hz1 ts2.only.size; generalize addF F0 ⟨62, -1, (k : Int), -1⟩ = F2 at *; clear b1; obtain ⟨_, b1, _⟩ := id B1) | (go_at_call 72; (with_reducible refine Calls.mono (zAs w V _ rb _ _ F2 64 (-1) (k : Int) (-1) hr2) ?_); rintro e w3 ⟨rfl, fa3, fc3, hr3, ts3⟩; have B1 := ts3.has B1 hm1 (fun e => (hn _ e).1 rfl); have N1 := ts3.has N1 hnr (fun e => (hn _ e).2 rfl); have hn := ts3.far hn (fun q hq2 => (by have := hz2; omega)); have hz3 := Nat.le_trans hz2 ts3.only.size; generalize addF F2 ⟨64, -1, (k : Int), -1⟩ = F3 at *; clear b1; obtain ⟨_, b1, _⟩ := id B1))
       go_roundw
       case rel => exact ⟨k + 1, _, _, _, by omega, by go_num, hq, hr3, N1, fun q hq2 => (hn q hq2).2⟩
       case measure => simp [intOf]; omega
      case neg =>
       rw [if_pos c0, zAj] at hq; rw [if_neg c1, zAf] at hq; rw [if_neg c2, zAf] at hq
       go_wp2_with ((go_at_call 72; (with_reducible refine Calls.mono (zAs w V _ rb _ _ F0 62 (-1) (k : Int) (-1) hr1) ?_); rintro e w2 ⟨rfl, fa2, fc2, hr2, ts2⟩; have B1 := ts2.has B1 hm1 (fun e => (hn _ e).1 rfl); have N1 := ts2.has N1 hnr (fun e => (hn _ e).2 rfl); have hn := ts2.far hn (fun q hq2 => (by have := hz1; omega)); have hz2 := Nat.le_trans hz1 ts2.only.size; generalize addF F0 ⟨62, -1, (k : Int), -1⟩ = F2 at *; clear b1; obtain ⟨_, b1, _⟩ := id B1))
       go_roundw
       case rel => exact ⟨k + 1, _, _, _, by omega, by go_num, hq, hr2, N1, fun q hq2 => (hn q hq2).2⟩
       case measure => simp [intOf]; omega
    case neg =>
     by_cases c1 : x3 < 0
     case pos =>
      by_cases c2 : 0 < x4
      case pos =>
       rw [if_neg c0, zAf] at hq; rw [if_pos c1, zAj] at hq; rw [if_pos c2, zAj] at hq
       go_wp2_with (first | (go_at_call 72; (with_reducible refine Calls.mono (zAs w V _ rb _ _ F0 63 (-1) (k : Int) (-1) hr1) ?_); rintro e w2 ⟨rfl, fa2, fc2, hr2, ts2⟩; have B1 := ts2.has B1 hm1 (fun e => (hn _ e).1 rfl); have N1 := ts2.has N1 hnr (fun e => (hn _ e).2 rfl); have hn := ts2.far hn (fun q hq2 => (by have := hz1; omega)); have hz2 := Nat.le_trans hz1 ts2.only.size; generalize addF F0 ⟨63, -1, (k : Int), -1⟩ = F2 at *; clear b1; obtain ⟨_, b1, _⟩ := id B1) | (go_at_call 72; (with_reducible refine Calls.mono (zAs w V _ rb _ _ F2 64 (-1) (k : Int) (-1) hr2) ?_); rintro e w3 ⟨rfl, fa3, fc3, hr3, ts3⟩; have B1 := ts3.has B1 hm1 (fun e => (hn _ e).1 rfl); have N1 := ts3.has N1 hnr (fun e => (hn _ e).2 rfl); have hn := ts3.far hn (fun q hq2 => (by have := hz2; omega)); have hz3 := Nat.le_trans hz2 ts3.only.size; generalize addF F2 ⟨64, -1, (k : Int), -1⟩ = F3 at *; clear b1; obtain ⟨_, b1, _⟩ := id B1))
       go_roundw
       case rel => exact ⟨k + 1, _, _, _, by omega, by go_num, hq, hr3, N1, fun q hq2 => (hn q hq2).2⟩
       case measure => simp [intOf]; omega
      case neg =>
       rw [if_neg c0, zAf] at hq; rw [if_pos c1, zAj] at hq; rw [if_neg c2, zAf] at hq
       go_wp2_with ((go_at_call 72; (with_reducible refine Calls.mono (zAs w V _ rb _ _ F0 63 (-1) (k : Int) (-1) hr1) ?_); rintro e w2 ⟨rfl, fa2, fc2, hr2, ts2⟩; have B1 := ts2.has B1 hm1 (fun e => (hn _ e).1 rfl); have N1 := ts2.has N1 hnr (fun e => (hn _ e).2 rfl); have hn := ts2.far hn (fun q hq2 => (by have := hz1; omega)); have hz2 := Nat.le_trans hz1 ts2.only.size; generalize addF F0 ⟨63, -1, (k : Int), -1⟩ = F2 at *; clear b1; obtain ⟨_, b1, _⟩ := id B1))
       go_roundw
       case rel => exact ⟨k + 1, _, _, _, by omega, by go_num, hq, hr2, N1, fun q hq2 => (hn q hq2).2⟩
       case measure => simp [intOf]; omega
     case neg =>
      by_cases c2 : 0 < x4
      case pos =>
       rw [if_neg c0, zAf] at hq; rw [if_neg c1, zAf] at hq; rw [if_pos c2, zAj] at hq
       go_wp2_with ((go_at_call 72; (with_reducible refine Calls.mono (zAs w V _ rb _ _ F0 64 (-1) (k : Int) (-1) hr1) ?_); rintro e w2 ⟨rfl, fa2, fc2, hr2, ts2⟩; have B1 := ts2.has B1 hm1 (fun e => (hn _ e).1 rfl); have N1 := ts2.has N1 hnr (fun e => (hn _ e).2 rfl); have hn := ts2.far hn (fun q hq2 => (by have := hz1; omega)); have hz2 := Nat.le_trans hz1 ts2.only.size; generalize addF F0 ⟨64, -1, (k : Int), -1⟩ = F2 at *; clear b1; obtain ⟨_, b1, _⟩ := id B1))
       go_roundw
       case rel => exact ⟨k + 1, _, _, _, by omega, by go_num, hq, hr2, N1, fun q hq2 => (hn q hq2).2⟩
       case measure => simp [intOf]; omega
      case neg =>
       rw [if_neg c0, zAf] at hq; rw [if_neg c1, zAf] at hq; rw [if_neg c2, zAf] at hq
       go_wp2_with (fail)
       go_roundw
       case rel => exact ⟨k + 1, _, _, _, by omega, by go_num, hq, hr1, N1, fun q hq2 => (hn q hq2).2⟩
       case measure => simp [intOf]; omega
   case neg =>
    obtain rfl : x1 = 1 := by omega
    simp only [show ndM (Int.toNat 1) = 5 from rfl, show ndA (Int.toNat 1) = 3 from rfl] at hq
    by_cases c0 : x2 < 5
    case pos =>
     by_cases c1 : x3 < 3
     case pos =>
      by_cases c2 : 3 < x4
      case pos =>
       rw [if_pos c0, zAj] at hq; rw [if_pos c1, zAj] at hq; rw [if_pos c2, zAj] at hq
       go_wp2_with (first | (go_at_call 72; (with_reducible refine Calls.mono (zAs w V _ rb _ _ F0 62 (-1) (k : Int) (-1) hr1) ?_); rintro e w2 ⟨rfl, fa2, fc2, hr2, ts2⟩; have B1 := ts2.has B1 hm1 (fun e => (hn _ e).1 rfl); have N1 := ts2.has N1 hnr (fun e => (hn _ e).2 rfl); have hn := ts2.far hn (fun q hq2 => (by have := hz1; omega)); have hz2 := Nat.le_trans hz1 ts2.only.size; generalize addF F0 ⟨62, -1, (k : Int), -1⟩ = F2 at *; clear b1; obtain ⟨_, b1, _⟩ := id B1) | (go_at_call 72; (with_reducible refine Calls.mono (zAs w V _ rb _ _ F2 63 (-1) (k : Int) (-1) hr2) ?_); rintro e w3 ⟨rfl, fa3, fc3, hr3, ts3⟩; have B1 := ts3.has B1 hm1 (fun e => (hn _ e).1 rfl); have N1 := ts3.has N1 hnr (fun e => (hn _ e).2 rfl); have hn := ts3.far hn (fun q hq2 => (by have := hz2; omega)); have hz3 := Nat.le_trans hz2 ts3.only.size; generalize addF F2 ⟨63, -1, (k : Int), -1⟩ = F3 at *; clear b1; obtain ⟨_, b1, _⟩ := id B1) | (go_at_call 72; (with_reducible refine Calls.mono (zAs w V _ rb _ _ F3 64 (-1) (k : Int) (-1) hr3) ?_); rintro e w4 ⟨rfl, fa4, fc4, hr4, ts4⟩; have B1 := ts4.has B1 hm1 (fun e => (hn _ e).1 rfl); have N1 := ts4.has N1 hnr (fun e => (hn _ e).2 rfl); have hn := ts4.far hn (fun q hq2 => (by have := hz3; omega)); have hz4 := Nat.le_trans hz3 ts4.only.size; generalize addF F3 ⟨64, -1, (k : Int), -1⟩ = F4 at *; clear b1; obtain ⟨_, b1, _⟩ := id B1))
       go_roundw
       case rel => exact ⟨k + 1, _, _, _, by omega, by go_num, hq, hr4, N1, fun q hq2 => (hn q hq2).2⟩
       case measure => simp [intOf]; omega
      case neg =>
       rw [if_pos c0, zAj] at hq; rw [if_pos c1, zAj] at hq; rw [if_neg c2, zAf] at hq
       go_wp2_with (first | (go_at_call 72; (with_reducible refine Calls.mono (zAs w V _ rb _ _ F0 62 (-1) (k : Int) (-1) hr1) ?_); rintro e w2 ⟨rfl, fa2, fc2, hr2, ts2⟩; have B1 := ts2.has B1 hm1 (fun e => (hn _ e).1 rfl); have N1 := ts2.has N1 hnr (fun e => (hn _ e).2 rfl); have hn := ts2.far hn (fun q hq2 => (by have := hz1; omega)); have hz2 := Nat.le_trans hz1 ts2.only.size; generalize addF F0 ⟨62, -1, (k : Int), -1⟩ = F2 at *; clear b1; obtain ⟨_, b1, _⟩ := id B1) | (go_at_call 72; (with_reducible refine Calls.mono (zAs w V _ rb _ _ F2 63 (-1) (k : Int) (-1) hr2) ?_); rintro e w3 ⟨rfl, fa3, fc3, hr3, ts3⟩; have B1 := ts3.has B1 hm1 (fun e => (hn _ e).1 rfl); have N1 := ts3.has N1 hnr (fun e => (hn _ e).2 rfl); have hn := ts3.far hn (fun q hq2 => (by have := hz2; omega)); have hz3 := Nat.le_trans hz2 ts3.only.size; generalize addF F2 ⟨63, -1, (k : Int), -1⟩ = F3 at *; clear b1; obtain ⟨_, b1, _⟩ := id B1))
       go_roundw
       case rel => exact ⟨k + 1, _, _, _, by omega, by go_num, hq, hr3, N1, fun q hq2 => (hn q hq2).2⟩
       case measure => simp [intOf]; omega
     case neg =>
      by_cases c2 : 3 < x4
      case pos =>
       rw [if_pos c0, zAj] at hq; rw [if_neg c1, zAf] at hq; rw [if_pos c2, zAj] at hq
       go_wp2_with (first | (go_at_call 72; (with_reducible refine Calls.mono (zAs w V _ rb _ _ F0 62 (-1) (k : Int) (-1) hr1) ?_); rintro e w2 ⟨rfl, fa2, fc2, hr2, ts2⟩; have B1 := ts2.has B1 hm1 (fun e => (hn _ e).1 rfl); have N1 := ts2.has N1 hnr (fun e => (hn _ e).2 rfl); have hn := ts2.far hn (fun q hq2 => (by have := hz1; omega)); have hz2 := Nat.le_trans hz1 ts2.only.size; generalize addF F0 ⟨62, -1, (k : Int), -1⟩ = F2 at *; clear b1; obtain ⟨_, b1, _⟩ := id B1) | (go_at_call 72; (with_reducible refine Calls.mono (zAs w V _ rb _ _ F2 64 (-1) (k : Int) (-1) hr2) ?_); rintro e w3 ⟨rfl, fa3, fc3, hr3, ts3⟩; have B1 := ts3.has B1 hm1 (fun e => (hn _ e).1 rfl); have N1 := ts3.has N1 hnr (fun e => (hn _ e).2 rfl); have hn := ts3.far hn (fun q hq2 => (by have := hz2; omega)); have hz3 := Nat.le_trans hz2 ts3.only.size; generalize addF F2 ⟨64, -1, (k : Int), -1⟩ = F3 at *; clear b1; obtain ⟨_, b1, _⟩ := id B1))
       go_roundw
       case rel => exact ⟨k + 1, _, _, _, by omega, by go_num, hq, hr3, N1, fun q hq2 => (hn q hq2).2⟩
       case measure => simp [intOf]; omega
      case neg =>
       rw [if_pos c0, zAj] at hq; rw [if_neg c1, zAf] at hq; rw [if_neg c2, zAf] at hq
       go_wp2_with ((go_at_call 72; (with_reducible refine Calls.mono (zAs w V _ rb _ _ F0 62 (-1) (k : Int) (-1) hr1) ?_); rintro e w2 ⟨rfl, fa2, fc2, hr2, ts2⟩; have B1 := ts2.has B1 hm1 (fun e => (hn _ e).1 rfl); have N1 := ts2.has N1 hnr (fun e => (hn _ e).2 rfl); have hn := ts2.far hn (fun q hq2 => (by have := hz1; omega)); have hz2 := Nat.le_trans hz1 ts2.only.size; generalize addF F0 ⟨62, -1, (k : Int), -1⟩ = F2 at *; clear b1; obtain ⟨_, b1, _⟩ := id B1))
       go_roundw
       case rel => exact ⟨k + 1, _, _, _, by omega, by go_num, hq, hr2, N1, fun q hq2 => (hn q hq2).2⟩
       case measure => simp [intOf]; omega
    case neg =>
     by_cases c1 : x3 < 3
     case pos =>
      by_cases c2 : 3 < x4
      case pos =>
       rw [if_neg c0, zAf] at hq; rw [if_pos c1, zAj] at hq; rw [if_pos c2, zAj] at hq
       go_wp2_with (first | (go_at_call 72; (with_reducible refine Calls.mono (zAs w V _ rb _ _ F0 63 (-1) (k : Int) (-1) hr1) ?_); rintro e w2 ⟨rfl, fa2, fc2, hr2, ts2⟩; have B1 := ts2.has B1 hm1 (fun e => (hn _ e).1 rfl); have N1 := ts2.has N1 hnr (fun e => (hn _ e).2 rfl); have hn := ts2.far hn (fun q hq2 => (by have := hz1; omega)); have hz2 := Nat.le_trans hz1 ts2.only.size; generalize addF F0 ⟨63, -1, (k : Int), -1⟩ = F2 at *; clear b1; obtain ⟨_, b1, _⟩ := id B1) | (go_at_call 72; (with_reducible refine Calls.mono (zAs w V _ rb _ _ F2 64 (-1) (k : Int) (-1) hr2) ?_); rintro e w3 ⟨rfl, fa3, fc3, hr3, ts3⟩; have B1 := ts3.has B1 hm1 (fun e => (hn _ e).1 rfl); have N1 := ts3.has N1 hnr (fun e => (hn _ e).2 rfl); have hn := ts3.far hn (fun q hq2 => (by have := hz2; omega)); have hz3 := Nat.le_trans hz2 ts3.only.size; generalize addF F2 ⟨64, -1, (k : Int), -1⟩ = F3 at *; clear b1; obtain ⟨_, b1, _⟩ := id B1))
       go_roundw
       case rel => exact ⟨k + 1, _, _, _, by omega, by go_num, hq, hr3, N1, fun q hq2 => (hn q hq2).2⟩
       case measure => simp [intOf]; omega
      case neg =>
       rw [if_neg c0, zAf] at hq; rw [if_pos c1, zAj] at hq; rw [if_neg c2, zAf] at hq
       go_wp2_with ((go_at_call 72; (with_reducible refine Calls.mono (zAs w V _ rb _ _ F0 63 (-1) (k : Int) (-1) hr1) ?_); rintro e w2 ⟨rfl, fa2, fc2, hr2, ts2⟩; have B1 := ts2.has B1 hm1 (fun e => (hn _ e).1 rfl); have N1 := ts2.has N1 hnr (fun e => (hn _ e).2 rfl); have hn := ts2.far hn (fun q hq2 => (by have := hz1; omega)); have hz2 := Nat.le_trans hz1 ts2.only.size; generalize addF F0 ⟨63, -1, (k : Int), -1⟩ = F2 at *; clear b1; obtain ⟨_, b1, _⟩ := id B1))
       go_roundw
       case rel => exact ⟨k + 1, _, _, _, by omega, by go_num, hq, hr2, N1, fun q hq2 => (hn q hq2).2⟩
       case measure => simp [intOf]; omega
     case neg =>
      by_cases c2 : 3 < x4
      case pos =>
       rw [if_neg c0, zAf] at hq; rw [if_neg c1, zAf] at hq; rw [if_pos c2, zAj] at hq
       go_wp2_with ((go_at_call 72; (with_reducible refine Calls.mono (zAs w V _ rb _ _ F0 64 (-1) (k : Int) (-1) hr1) ?_); rintro e w2 ⟨rfl, fa2, fc2, hr2, ts2⟩; have B1 := ts2.has B1 hm1 (fun e => (hn _ e).1 rfl); have N1 := ts2.has N1 hnr (fun e => (hn _ e).2 rfl); have hn := ts2.far hn (fun q hq2 => (by have := hz1; omega)); have hz2 := Nat.le_trans hz1 ts2.only.size; generalize addF F0 ⟨64, -1, (k : Int), -1⟩ = F2 at *; clear b1; obtain ⟨_, b1, _⟩ := id B1))
       go_roundw
       case rel => exact ⟨k + 1, _, _, _, by omega, by go_num, hq, hr2, N1, fun q hq2 => (hn q hq2).2⟩
       case measure => simp [intOf]; omega
      case neg =>
       rw [if_neg c0, zAf] at hq; rw [if_neg c1, zAf] at hq; rw [if_neg c2, zAf] at hq
       go_wp2_with (fail)
       go_roundw
       case rel => exact ⟨k + 1, _, _, _, by omega, by go_num, hq, hr1, N1, fun q hq2 => (hn q hq2).2⟩
       case measure => simp [intOf]; omega
theorem hasN_andNot (F T : Nat) (g : Int) (hT : T < 18446744073709551616) : hasN (F &&& (18446744073709551615 - T)) g = (hasN F g && !hasN T g) := by
 unfold hasN
 by_cases h0 : 0 ≤ g
 ·by_cases h1 : g < 64
  ·have e : (18446744073709551615 - T).testBit g.toNat = !T.testBit g.toNat := by
    have := Nat.testBit_two_pow_sub_succ (x := T) (n := 64) (by simpa using hT) g.toNat; have e2 : 2 ^ 64 - (T + 1) = 18446744073709551615 - T := by omega
    rw [e2] at this; rw [this]; have h2 : g.toNat < 64 := by omega
    simp [h2]
   rw [Nat.testBit_and, e]; simp [h0, h1]
  ·simp [h1]
 ·simp [h0]
def zBw (F T : Nat) (k : Nat) : Bool := hasN F (k : Int) && !hasN T (k : Int)
theorem grid_min {G : List Gp} {C : List Cf} (h : zBg G C = true) (k : Nat) (hk : k < G.length) : 1 ≤ G[k].min ∧ G[k].min ≤ 3600 ∧ 0 ≤ G[k].amber ∧ G[k].amber ≤ 60 ∧ 0 ≤ G[k].lead ∧ G[k].lead ≤ 60 := by
 simp [zBg] at h
 have := h.2.1 G[k] (List.getElem_mem hk)
 simp [gpB, zDa, zDx] at this
 omega
theorem zBy {B : Nat} {S : Nat → Prop} {a w w' : World} (h : Below B a w) (ho : Only S w w') (hB : B ≤ a.heap.size) (hS : ∀ k, k < B → ¬ S k) : Below B a w' :=
 ⟨ho.os.trans h.os, ho.tape.trans h.tape, ho.output.trans h.output, Nat.le_trans h.size ho.size, fun k hk => (ho.block k (by have := h.size; omega) (hS k hk)).trans (h.block k hk)⟩
theorem bel3o {w : World} {o1 o2 o3 : Obj} : Below w.heap.size w (((w.alloc o1).alloc o2).alloc o3) := (belA).alloc (by simp; omega) _
theorem belD1 {w : World} {o1 : Obj} : Below w.heap.size w (w.alloc o1).drew := (zBz).drew
theorem belD2 {w : World} {o1 o2 : Obj} : Below w.heap.size w ((w.alloc o1).alloc o2).drew := (belA).drew
theorem belD3 {w : World} {o1 o2 o3 : Obj} : Below w.heap.size w (((w.alloc o1).alloc o2).alloc o3).drew := (bel3o).drew
abbrev marksG : List Value := [.string ⟨#[]⟩, .int .i64 0, .int .i64 77, .int .i64 0, .int .i64 0, .string ⟨#[]⟩, .int .i64 0, .int .i64 77, .int .i64 0, .int .i64 0]
abbrev marksC : List Value := [.int .i64 0, .int .i64 0, .int .i64 77, .int .i64 0, .int .i64 0, .int .i64 0, .int .i64 77, .int .i64 0]
theorem newsOf {X : World} {b : Nat} {xs : List Value} (h : Has X b xs.toArray) : ∀ j u, xs[j]? = some u → X.cell? ((⟨b, 0, none⟩ : Addr).add j) = some u := by
 intro j u hu
 rw [Go.WideShapes.add_plain, Nat.zero_add, h.2.1 j]
 simpa using hu
structure RS (w : World) (N : Nat) (bx : Array Value) (v1 v2 : Value) (G : List Gp) (C : List Cf) (X : World) : Prop where
 hb : Below w.heap.size w X
 B0 : Has X w.heap.size bx
 R1 : Has X (w.heap.size + 1) #[.slice none 0 0, .slice none 0 0]
 R2 : Has X (w.heap.size + 2) #[.slice none 0 0, .slice none 0 0, .slice none 0 0, .slice none 0 0]
 Q : Has X N #[v1, v2]
 o1 : X.ownsRow (w.heap.size + 3) 73 5 v1 G.length (zAc Gp.cs G)
 o2 : X.ownsRow (w.heap.size + 3) 75 4 v2 C.length (zAc Cf.cs C)
 b1 : ∀ q, v1.ownBlock = some q → q < N
 b2 : ∀ q, v2.ownBlock = some q → q < N
 ne : ∀ q, v1.ownBlock = some q → v2.ownBlock ≠ some q
 z : w.heap.size + 3 ≤ N ∧ N < X.heap.size
structure RS1 (w : World) (N : Nat) (bx : Array Value) (v1 v2 : Value) (G : List Gp) (C : List Cf) (g1 d1 : Nat) (X : World) : Prop where
 hb : Below w.heap.size w X
 B0 : Has X w.heap.size bx
 R1 : Has X (w.heap.size + 1) #[.slice none 0 0, .slice none 0 0]
 R2 : Has X (w.heap.size + 2) #[.slice none 0 0, .slice none 0 0, .slice none 0 0, .slice none 0 0]
 Q : Has X N #[v1, v2]
 nG : X.ownsRow (w.heap.size + 3) 73 5 (.slice (some ⟨g1, 0, none⟩) (G.length + 2) d1) (G.length + 2) (zAc Gp.cs G ++ marksG)
 o2 : X.ownsRow (w.heap.size + 3) 75 4 v2 C.length (zAc Cf.cs C)
 b2 : ∀ q, v2.ownBlock = some q → q < N ∧ q ≠ g1
 z : w.heap.size + 3 ≤ N ∧ N < X.heap.size
 lg : w.heap.size + 3 ≤ g1 ∧ g1 < X.heap.size ∧ g1 ≠ N
structure RS2 (w : World) (N : Nat) (bx : Array Value) (v1 v2 : Value) (G : List Gp) (C : List Cf) (g1 d1 g2 d2 : Nat) (X : World) : Prop where
 hb : Below w.heap.size w X
 B0 : Has X w.heap.size bx
 R1 : Has X (w.heap.size + 1) #[.slice none 0 0, .slice none 0 0]
 R2 : Has X (w.heap.size + 2) #[.slice none 0 0, .slice none 0 0, .slice none 0 0, .slice none 0 0]
 Q : Has X N #[v1, v2]
 nG : X.ownsRow (w.heap.size + 3) 73 5 (.slice (some ⟨g1, 0, none⟩) (G.length + 2) d1) (G.length + 2) (zAc Gp.cs G ++ marksG)
 nC : X.ownsRow (w.heap.size + 3) 75 4 (.slice (some ⟨g2, 0, none⟩) (C.length + 2) d2) (C.length + 2) (zAc Cf.cs C ++ marksC)
 z : w.heap.size + 3 ≤ N ∧ N < X.heap.size
 lg : w.heap.size + 3 ≤ g1 ∧ g1 < X.heap.size ∧ g1 ≠ N
 lc : w.heap.size + 3 ≤ g2 ∧ g2 < X.heap.size ∧ g2 ≠ N
theorem RS.below {w : World} {N : Nat} {bx : Array Value} {v1 v2 : Value} {G : List Gp} {C : List Cf} {X Y : World} (h : RS w N bx v1 v2 G C X) (hb : Below X.heap.size X Y) : RS w N bx v1 v2 G C Y :=
 ⟨zAa h.hb h.hb.size hb, h.B0.below hb, h.R1.below hb, h.R2.below hb, h.Q.below hb, zAe h.o1 hb, zAe h.o2 hb, h.b1, h.b2, h.ne, h.z.1, Nat.lt_of_lt_of_le h.z.2 hb.size⟩
theorem RS1.below {w : World} {N : Nat} {bx : Array Value} {v1 v2 : Value} {G : List Gp} {C : List Cf} {g1 d1 : Nat} {X Y : World} (h : RS1 w N bx v1 v2 G C g1 d1 X) (hb : Below X.heap.size X Y) : RS1 w N bx v1 v2 G C g1 d1 Y :=
 ⟨zAa h.hb h.hb.size hb, h.B0.below hb, h.R1.below hb, h.R2.below hb, h.Q.below hb, zAe h.nG hb, zAe h.o2 hb, h.b2, ⟨h.z.1, Nat.lt_of_lt_of_le h.z.2 hb.size⟩, h.lg.1, Nat.lt_of_lt_of_le h.lg.2.1 hb.size, h.lg.2.2⟩
theorem RS2.only {w : World} {N : Nat} {bx : Array Value} {v1 v2 : Value} {G : List Gp} {C : List Cf} {g1 d1 g2 d2 r : Nat} {X Y : World} (h : RS2 w N bx v1 v2 G C g1 d1 g2 d2 X) (ho : Only (fun q => q = r) X Y) (h0 : w.heap.size + 3 ≤ r) (h1 : r ≠ N) (h2 : g1 ≠ r) (h3 : g2 ≠ r) : RS2 w N bx v1 v2 G C g1 d1 g2 d2 Y := by
 have z := h.z
 exact ⟨zBy h.hb ho (Nat.le_refl _) (fun k hk e => by omega), h.B0.only ho (by omega), h.R1.only ho (by omega), h.R2.only ho (by omega), h.Q.only ho (by omega), zBf h.nG ho (fun q hq e => by have e' : g1 = q := (by injection hq); omega), zBf h.nC ho (fun q hq e => by have e' : g2 = q := (by injection hq); omega), ⟨z.1, Nat.lt_of_lt_of_le z.2 ho.size⟩, ⟨h.lg.1, Nat.lt_of_lt_of_le h.lg.2.1 ho.size, h.lg.2.2⟩, h.lc.1, Nat.lt_of_lt_of_le h.lc.2.1 ho.size, h.lc.2.2⟩
theorem RS2.below {w : World} {N : Nat} {bx : Array Value} {v1 v2 : Value} {G : List Gp} {C : List Cf} {g1 d1 g2 d2 : Nat} {X Y : World} (h : RS2 w N bx v1 v2 G C g1 d1 g2 d2 X) (hb : Below X.heap.size X Y) : RS2 w N bx v1 v2 G C g1 d1 g2 d2 Y :=
 ⟨zAa h.hb h.hb.size hb, h.B0.below hb, h.R1.below hb, h.R2.below hb, h.Q.below hb, zAe h.nG hb, zAe h.nC hb, ⟨h.z.1, Nat.lt_of_lt_of_le h.z.2 hb.size⟩, ⟨h.lg.1, Nat.lt_of_lt_of_le h.lg.2.1 hb.size, h.lg.2.2⟩, h.lc.1, Nat.lt_of_lt_of_le h.lc.2.1 hb.size, h.lc.2.2⟩
structure Kp (N : Nat) (X Y : World) : Prop where
 size : X.heap.size ≤ Y.heap.size
 block : ∀ b, N < b → b < X.heap.size → Y.heap[b]? = X.heap[b]?
theorem Has.kp {N b : Nat} {X Y : World} {vs : Array Value} (h : Has X b vs) (k : Kp N X Y) (hN : N < b) : Has Y b vs := h.blk k.size (k.block b hN h.1)
theorem step_G {w X : World} {N : Nat} {bx : Array Value} {v2 : Value} {G : List Gp} {C : List Cf} {a1 : Option Addr} {c1 : Nat} {ops : Array Oper} {o : Oper} {a : Act} {K : Act → World → Prop} {Q' : Exit → Act → World → Prop} {E : Prop}
  (hR : RS w N bx (.slice a1 G.length c1) v2 G C X) (lG : G.length ≤ 2932031007317) (hgd : o.guard = none) (s x : Operand) (ho : o.op = .call { callee := .builtin .append, args := #[s, x], argTypes := #[22, 22] }) (hs : a.eval s = .slice a1 G.length c1) (b : Nat) (hx : a.eval x = .slice (some ⟨b, 0, none⟩) 2 2) (hM : Has X b marksG.toArray)
  (h : ∀ g1 d1 Y, RS1 w N bx (.slice a1 G.length c1) v2 G C g1 d1 Y → Kp N X Y → (g1 < N ∨ X.heap.size ≤ g1) → K (a.put o.dst (.slice (some ⟨g1, 0, none⟩) (G.length + 2) d1)) Y) :
  if Region.wanted o (yielded ops a.tmps) = true then Oper.wp Tryz.prog o a X K Q' else E := by
 obtain ⟨i44, hi, hi0, hi1, hi2⟩ := info_parts info44
 have z := hR.z
 refine step_append_lies X hgd s x 22 ho (w.heap.size + 3) 73 i44 _ 5 48 Tryz.underlying22 hi hi0 hi1 hi2 rfl (by decide) (.slice a1 G.length c1) G.length (zAc Gp.cs G) hs hR.o1 ⟨b, 0, none⟩ 2 2 marksG hx rfl (newsOf hM) (zAz rfl) (by decide) (by unfold maxLen; omega) (by omega) (by omega) _ rfl ?_
 intro g1 d1 Y nG hg hat hlt
 have O : Only (fun q => (Value.slice a1 G.length c1).ownBlock = some q) X Y := zDf (Only.refl _ _) hg (fun k hk => .inl hk)
 have b1 := hR.b1
 have c1' : ∀ q, (Value.slice a1 G.length c1).ownBlock = some q → w.heap.size + 3 ≤ q ∧ q < N := fun q hq => ⟨(zAg hR.o1 q hq).1, b1 q hq⟩
 have fr : g1 < N ∨ X.heap.size ≤ g1 := hat.imp (fun h => (c1' _ h).2) (fun h => by omega)
 have lg := zAg nG g1 rfl
 refine h g1 d1 Y ⟨zBy hR.hb O (Nat.le_refl _) (fun q hq hs => by have := c1' q hs; omega), hR.B0.only O (fun hs => by have := c1' _ hs; omega), hR.R1.only O (fun hs => by have := c1' _ hs; omega), hR.R2.only O (fun hs => by have := c1' _ hs; omega), hR.Q.only O (fun hs => by have := c1' _ hs; omega), nG, zBf hR.o2 O (fun q hq hs => hR.ne q hs hq), fun q hq => ⟨hR.b2 q hq, fun e => ?_⟩, ⟨z.1, Nat.lt_of_lt_of_le z.2 O.size⟩, lg.1, lg.2, by omega⟩ ⟨O.size, fun q h1 h2 => O.block q h2 (fun hs => by have := c1' q hs; omega)⟩ fr
 subst e
 rcases hat with h | h
 ·exact hR.ne _ h hq
 ·have := hR.b2 _ hq; omega
theorem step_C {w X : World} {N : Nat} {bx : Array Value} {v1 : Value} {G : List Gp} {C : List Cf} {a2 : Option Addr} {c2 g1 d1 : Nat} {ops : Array Oper} {o : Oper} {a : Act} {K : Act → World → Prop} {Q' : Exit → Act → World → Prop} {E : Prop}
  (hR : RS1 w N bx v1 (.slice a2 C.length c2) G C g1 d1 X) (lC : C.length ≤ 4398046511000) (hgd : o.guard = none) (s x : Operand) (ho : o.op = .call { callee := .builtin .append, args := #[s, x], argTypes := #[23, 23] }) (hs : a.eval s = .slice a2 C.length c2) (b : Nat) (hx : a.eval x = .slice (some ⟨b, 0, none⟩) 2 2) (hM : Has X b marksC.toArray)
  (h : ∀ g2 d2 Y, RS2 w N bx v1 (.slice a2 C.length c2) G C g1 d1 g2 d2 Y → Kp N X Y → (g2 < N ∨ X.heap.size ≤ g2) → K (a.put o.dst (.slice (some ⟨g2, 0, none⟩) (C.length + 2) d2)) Y) :
  if Region.wanted o (yielded ops a.tmps) = true then Oper.wp Tryz.prog o a X K Q' else E := by
 obtain ⟨i47, hi, hi0, hi1, hi2⟩ := info_parts info47
 have z := hR.z
 refine step_append_lies X hgd s x 23 ho (w.heap.size + 3) 75 i47 _ 4 32 Tryz.underlying23 hi hi0 hi1 hi2 rfl (by decide) (.slice a2 C.length c2) C.length (zAc Cf.cs C) hs hR.o2 ⟨b, 0, none⟩ 2 2 marksC hx rfl (newsOf hM) (zAz rfl) (by decide) (by unfold maxLen; omega) (by omega) (by omega) _ rfl ?_
 intro g2 d2 Y nC hg hat hlt
 have O : Only (fun q => (Value.slice a2 C.length c2).ownBlock = some q) X Y := zDf (Only.refl _ _) hg (fun k hk => .inl hk)
 have c2' : ∀ q, (Value.slice a2 C.length c2).ownBlock = some q → w.heap.size + 3 ≤ q ∧ q < N ∧ q ≠ g1 := fun q hq => ⟨(zAg hR.o2 q hq).1, hR.b2 q hq⟩
 have fr : g2 < N ∨ X.heap.size ≤ g2 := hat.imp (fun h => (c2' _ h).2.1) (fun h => by omega)
 have lc := zAg nC g2 rfl
 have lg := hR.lg
 exact h g2 d2 Y ⟨zBy hR.hb O (Nat.le_refl _) (fun q hq hs => by have := c2' q hs; omega), hR.B0.only O (fun hs => by have := c2' _ hs; omega), hR.R1.only O (fun hs => by have := c2' _ hs; omega), hR.R2.only O (fun hs => by have := c2' _ hs; omega), hR.Q.only O (fun hs => by have := c2' _ hs; omega), zBf hR.nG O (fun q hq hs => by have e : g1 = q := (by injection hq); have := c2' q hs; omega), nC, ⟨z.1, Nat.lt_of_lt_of_le z.2 O.size⟩, ⟨lg.1, Nat.lt_of_lt_of_le lg.2.1 O.size, lg.2.2⟩, lc.1, lc.2, by omega⟩ ⟨O.size, fun q h1 h2 => O.block q h2 (fun hs => by have := c2' q hs; omega)⟩ fr
end Go.Proofs.YtjfieclmagbfbaaGreatDoor
