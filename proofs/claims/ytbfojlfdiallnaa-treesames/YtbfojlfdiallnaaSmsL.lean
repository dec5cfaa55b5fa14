import Derived.Test.YtbfojlfdiallnaaSamG
import Derived.Test.YtbfojlfdiallnaaSarD
import Derived.Test.YtbfojlfdiallnaaLawB
import Derived.Test.YtbfojlfdiallnaaBarH
import Derived.Test.YtbfojlfdiallnaaAppE
import Derived.Test.YtbfojlfdiallnaaKpt
import Derived.Deep.RegionHeld3
namespace Go.Proofs.Ytbfojlfdiallnaa
open Go.RowKit
set_option linter.unusedVariables false

theorem RmR.mv {S S' : Nat → Prop} {w w' : World} {b : Nat} {vD vE vG vL vN : Value} {E G N Ls : List Nat} (h : RmR S w b vD vE vG vL vN E G N Ls) (hb : Below w.heap.size w w') (hS : ∀ k, k < w.heap.size → S k → S' k) : RmR S' w' b vD vE vG vL vN E G N Ls := by
  have hm : Mv S w S' w' := ⟨hb.size, fun k hk hs => ⟨hb.block k hk, hS k hk hs⟩⟩
  exact ⟨h.has.below hb, h.lenG, h.lenN, Rows.mv h.rE hm (fun _ _ x => MkR.mv x hm), Rows.mv h.rG hm (fun _ _ x => MkR.mv x hm), Rows.mv h.rN hm (fun _ _ x => MkR.mv x hm), Rows.mv h.rL hm (fun _ _ x => MkR.mv x hm), h.rD.imp fun _ x => MkR.mv x hm⟩
/-- The room, whatever lies in it. -/
def RmX (w : World) (b : Nat) : Prop := ∃ vD vE vG vL vN E G N Ls, RmR (fun _ => True) w b vD vE vG vL vN E G N Ls
theorem RmX.below {w w' : World} {b : Nat} (h : RmX w b) (hb : Below w.heap.size w w') : RmX w' b := by
  obtain ⟨vD, vE, vG, vL, vN, E, G, N, Ls, h⟩ := h
  exact ⟨vD, vE, vG, vL, vN, E, G, N, Ls, h.mv hb (fun _ _ _ => trivial)⟩
theorem kept_x (w : World) (b : Nat) (h : RmX w b) : Calls Try.prog 17 #[.pointer (some ⟨b, 0, none⟩)] w fun e w' => e = .returned (.bool true) ∧ Below w.heap.size w w' := by
  obtain ⟨vD, vE, vG, vL, vN, E, G, N, Ls, h⟩ := h
  exact kept_any _ _ _ _ _ _ _ _ _ _ _ _ h
/-- What roomyPlan answers. -/
def RoomyOk : Prop := ∀ (p : Pl) (u : Value) (S1 : Nat → Prop) (w : World), PlR S1 w u p → Calls Try.prog 12 #[u] w fun e w' => (∃ vd b, e = .returned (.tuple #[.agg #[.string p.name, vd], .pointer (some ⟨b, 0, none⟩)]) ∧ Dcs (fun _ => True) w' vd p.decls ∧ RmX w' b) ∧ Below w.heap.size w w'
theorem Dcs.any {S : Nat → Prop} {w : World} {v : Value} {L : List Dc} (h : Dcs S w v L) : Dcs (fun _ => True) w v L := h.mv (Mv.weak fun _ _ _ => trivial)

set_option maxRecDepth 100000 in
set_option maxHeartbeats 4000000 in
theorem sames (hR : RoomyOk) (p q : Pl) (u1 u2 : Value) (S1 S2 : Nat → Prop) (w : World) (h1 : PlR S1 w u1 p) (h2 : PlR S2 w u2 q) :
    Calls Try.prog 5 #[u1, u2] w fun e w' => e = .returned (.bool true) ∧ Below w.heap.size w w' := by
  have hR1 := fun (W : World) (hW : Below w.heap.size w W) => hR p u1 S1 W (h1.below hW)
  have hR2 := fun (W : World) (hW : Below w.heap.size w W) => hR q u2 S2 W (h2.below hW)
  have sm1 : samePl p (barePl p) = true := same_barePl p
  obtain ⟨d1, rfl, pP⟩ := h1
  obtain ⟨d2, rfl, pQ⟩ := h2
  obtain ⟨pn, P⟩ := p
  obtain ⟨qn, Q⟩ := q
  simp only at *
  have hs : ∀ (W : World) (v1 v2 : Value), Dcs (fun _ => True) W v1 P → Dcs (fun _ => True) W v2 Q → Calls Try.prog 18 #[.agg #[.string pn, v1], .agg #[.string qn, v2]] W fun e w' => e = .returned (.bool (samePl ⟨pn, P⟩ ⟨qn, Q⟩)) ∧ Below W.heap.size W w' := fun W v1 v2 a b => same_any ⟨pn, P⟩ ⟨qn, Q⟩ _ _ _ _ W ⟨v1, rfl, a⟩ ⟨v2, rfl, b⟩
  have hs' : ∀ (W : World) (v1 v2 : Value), Dcs (fun _ => True) W v1 P → Dcs (fun _ => True) W v2 Q → Calls Try.prog 18 #[.agg #[.string qn, v2], .agg #[.string pn, v1]] W fun e w' => e = .returned (.bool (samePl ⟨pn, P⟩ ⟨qn, Q⟩)) ∧ Below W.heap.size W w' := fun W v1 v2 a b => by
    rw [samePl_comm]; exact same_any ⟨qn, Q⟩ ⟨pn, P⟩ _ _ _ _ W ⟨v2, rfl, b⟩ ⟨v1, rfl, a⟩
  have hr : ∀ (W : World) (v1 v2 : Value), Dcs S1 W v1 P → Dcs S2 W v2 Q → Calls Try.prog 19 #[.agg #[.string pn, v1], .agg #[.string qn, v2]] W fun e w' => e = .returned (.bool (samePl ⟨pn, P⟩ ⟨qn, Q⟩)) ∧ Below W.heap.size W w' := fun W v1 v2 a b => refSame_any ⟨pn, P⟩ ⟨qn, Q⟩ _ _ _ _ W ⟨v1, rfl, a⟩ ⟨v2, rfl, b⟩
  have hp1 : ∀ (W : World) (v1 v2 : Value), Dcs (fun _ => True) W v1 P → Dcs S1 W v2 P → Calls Try.prog 14 #[.agg #[.string pn, v1], .agg #[.string pn, v2]] W fun e w' => e = .returned (.bool true) ∧ Below W.heap.size W w' := fun W v1 v2 a b => lawPlan_any ⟨pn, P⟩ _ _ _ _ W ⟨v1, rfl, a⟩ ⟨v2, rfl, b⟩
  have hp2 : ∀ (W : World) (v1 v2 : Value), Dcs (fun _ => True) W v1 Q → Dcs S2 W v2 Q → Calls Try.prog 14 #[.agg #[.string qn, v1], .agg #[.string qn, v2]] W fun e w' => e = .returned (.bool true) ∧ Below W.heap.size W w' := fun W v1 v2 a b => lawPlan_any ⟨qn, Q⟩ _ _ _ _ W ⟨v1, rfl, a⟩ ⟨v2, rfl, b⟩
  have hbr : ∀ (W : World) (v1 : Value), Dcs S1 W v1 P → Calls Try.prog 15 #[.agg #[.string pn, v1]] W fun e w' => (∃ u', e = .returned u' ∧ PlR (fun b => W.heap.size ≤ b) w' u' (barePl ⟨pn, P⟩)) ∧ Below W.heap.size W w' := fun W v1 a => refBare_any ⟨pn, P⟩ _ _ W ⟨v1, rfl, a⟩
  have hbt : ∀ (W : World) (v1 : Value), Dcs S1 W v1 P → Calls Try.prog 13 #[.agg #[.string pn, v1]] W fun e w' => (∃ u', e = .returned u' ∧ PlR (fun b => W.heap.size ≤ b) w' u' (barePl ⟨pn, P⟩)) ∧ Below W.heap.size W w' := fun W v1 a => bare_any ⟨pn, P⟩ _ _ W ⟨v1, rfl, a⟩
  have hsb : ∀ (W : World) (v1 u' : Value) (S' : Nat → Prop), Dcs S1 W v1 P → PlR S' W u' (barePl ⟨pn, P⟩) → Calls Try.prog 18 #[.agg #[.string pn, v1], u'] W fun e w' => e = .returned (.bool true) ∧ Below W.heap.size W w' := fun W v1 u' S' a b => by
    have := same_any ⟨pn, P⟩ (barePl ⟨pn, P⟩) _ u' _ S' W ⟨v1, rfl, a⟩ b
    rw [sm1] at this; exact this
  clear hR
  obtain ⟨pa, pc, rfl, -, -⟩ := Rows.any pP
  obtain ⟨qa, qc, rfl, -, -⟩ := Rows.any pQ
  generalize samePl ⟨pn, P⟩ ⟨qn, Q⟩ = A at *
  go_enter Try.func5, Try.ntmps5
  go_wp2_with (first
    | (go_at_call 12; (with_reducible refine Calls.mono (hR1 _ (by exact ((Below.refl _ _).alloc (Nat.le_refl _) _).alloc (by simp) _)) ?_); rintro e w1 ⟨⟨xd, bx, rfl, pX, rX⟩, hb1⟩; have q := pX; obtain ⟨xa, xc, rfl, -, -⟩ := Rows.any q; clear q; have K1 : Has w1 w.heap.size #[.string pn, .slice pa P.length pc] := ((Has.new w _ _ rfl).alloc _).below hb1; have K2 : Has w1 (w.heap.size + 1) #[.string qn, .slice qa Q.length qc] := (Has.new (w.alloc _) _ _ (by simp)).below hb1; have HB1 : Below w.heap.size w w1 := bel_after (((Below.refl _ _).alloc (Nat.le_refl _) _).alloc (by simp) _) (by simp; omega) hb1; replace pP := pP.below HB1; replace pQ := pQ.below HB1; obtain ⟨_, m1, _⟩ := id K1; obtain ⟨_, m2, _⟩ := id K2; clear hR1 hb1)
    | (go_at_call 12; (with_reducible refine Calls.mono (hR2 _ (by exact HB1.alloc HB1.size _)) ?_); rintro e w2 ⟨⟨yd, by', rfl, pY, rY⟩, hb2⟩; have q := pY; obtain ⟨ya, yc, rfl, -, -⟩ := Rows.any q; clear q; have BA := (Below.refl w1.heap.size w1).alloc (Nat.le_refl _) (.cells #[.string pn, .slice xa P.length xc] 30); have K3 : Has w2 w1.heap.size #[.string pn, .slice xa P.length xc] := (Has.new w1 _ _ rfl).below hb2; replace K1 := (K1.below BA).below hb2; replace K2 := (K2.below BA).below hb2; replace pP := (pP.below BA).below hb2; replace pQ := (pQ.below BA).below hb2; replace pX := (pX.below BA).below hb2; replace rX := (rX.below BA).below hb2; have HB2 : Below w.heap.size w w2 := bel_after (HB1.alloc HB1.size _) (by simp; have := HB1.size; omega) hb2; have zz := K3.1; obtain ⟨_, m3, _⟩ := id K1; obtain ⟨_, m4, _⟩ := id K2; obtain ⟨_, m5, _⟩ := id K3; clear hR2 hb2 m1 m2 BA)
    | (go_at_call 18; have BA := (Below.refl w2.heap.size w2).alloc (Nat.le_refl _) (.cells #[.string qn, .slice ya Q.length yc] 30); have K4 : Has (w2.alloc (.cells #[.string qn, .slice ya Q.length yc] 30)) w2.heap.size #[.string qn, .slice ya Q.length yc] := Has.new w2 _ _ rfl; replace K1 := K1.below BA; replace K2 := K2.below BA; replace K3 := K3.below BA; replace pP := pP.below BA; replace pQ := pQ.below BA; replace pX := pX.below BA; replace pY := pY.below BA; replace rX := rX.below BA; replace rY := rY.below BA; have HB3 : Below w.heap.size w (w2.alloc (.cells #[.string qn, .slice ya Q.length yc] 30)) := HB2.alloc HB2.size _; (with_reducible refine Calls.mono (hs _ _ _ pX pY) ?_); rintro e w4 ⟨rfl, hb4⟩; (try (replace pP := pP.below hb4)); (try (replace pQ := pQ.below hb4)); (try (replace pX := pX.below hb4)); (try (replace pY := pY.below hb4)); (try (replace rX := rX.below hb4)); (try (replace rY := rY.below hb4)); (try (replace K1 := K1.below hb4)); (try (replace K2 := K2.below hb4)); (try (replace K3 := K3.below hb4)); (try (replace K4 := K4.below hb4)); have HB4 : Below w.heap.size w w4 := bel_after HB3 HB3.size hb4; obtain ⟨_, a4, _⟩ := id K1; obtain ⟨_, b4, _⟩ := id K2; obtain ⟨_, c4, _⟩ := id K3; obtain ⟨_, d4, _⟩ := id K4; clear hb4 BA HB3 m3 m4 m5 hs)
    | (go_at_call 18; (with_reducible refine Calls.mono (hs' _ _ _ pX pY) ?_); rintro e w5 ⟨rfl, hb5⟩; (try (replace pP := pP.below hb5)); (try (replace pQ := pQ.below hb5)); (try (replace pX := pX.below hb5)); (try (replace pY := pY.below hb5)); (try (replace rX := rX.below hb5)); (try (replace rY := rY.below hb5)); (try (replace K1 := K1.below hb5)); (try (replace K2 := K2.below hb5)); (try (replace K3 := K3.below hb5)); (try (replace K4 := K4.below hb5)); have HB5 : Below w.heap.size w w5 := bel_after HB4 HB4.size hb5; clear hs'; obtain ⟨_, a5, _⟩ := id K1; obtain ⟨_, b5, _⟩ := id K2; obtain ⟨_, c5, _⟩ := id K3; obtain ⟨_, d5, _⟩ := id K4; clear hb5 a4 b4 c4 d4 HB4)
    | (go_at_call 19; (with_reducible refine Calls.mono (hr _ _ _ pP pQ) ?_); rintro e w6 ⟨rfl, hb6⟩; (try (replace pP := pP.below hb6)); (try (replace pQ := pQ.below hb6)); (try (replace pX := pX.below hb6)); (try (replace pY := pY.below hb6)); (try (replace rX := rX.below hb6)); (try (replace rY := rY.below hb6)); (try (replace K1 := K1.below hb6)); (try (replace K2 := K2.below hb6)); (try (replace K3 := K3.below hb6)); (try (replace K4 := K4.below hb6)); have HB6 : Below w.heap.size w w6 := bel_after HB5 HB5.size hb6; clear hr; obtain ⟨_, a6, _⟩ := id K1; obtain ⟨_, b6, _⟩ := id K2; obtain ⟨_, c6, _⟩ := id K3; obtain ⟨_, d6, _⟩ := id K4; clear hb6 a5 b5 c5 d5 HB5)
    | (go_at_call 14; (with_reducible refine Calls.mono (hp1 _ _ _ pX pP) ?_); rintro e w7 ⟨rfl, hb7⟩; (try (replace pP := pP.below hb7)); (try (replace pQ := pQ.below hb7)); (try (replace pX := pX.below hb7)); (try (replace pY := pY.below hb7)); (try (replace rX := rX.below hb7)); (try (replace rY := rY.below hb7)); (try (replace K1 := K1.below hb7)); (try (replace K2 := K2.below hb7)); (try (replace K3 := K3.below hb7)); (try (replace K4 := K4.below hb7)); have HB7 : Below w.heap.size w w7 := bel_after HB6 HB6.size hb7; clear hp1; obtain ⟨_, a7, _⟩ := id K1; obtain ⟨_, b7, _⟩ := id K2; obtain ⟨_, c7, _⟩ := id K3; obtain ⟨_, d7, _⟩ := id K4; clear hb7 a6 b6 c6 d6 HB6)
    | (go_at_call 14; (with_reducible refine Calls.mono (hp2 _ _ _ pY pQ) ?_); rintro e w8 ⟨rfl, hb8⟩; (try (replace pP := pP.below hb8)); (try (replace pQ := pQ.below hb8)); (try (replace pX := pX.below hb8)); (try (replace pY := pY.below hb8)); (try (replace rX := rX.below hb8)); (try (replace rY := rY.below hb8)); (try (replace K1 := K1.below hb8)); (try (replace K2 := K2.below hb8)); (try (replace K3 := K3.below hb8)); (try (replace K4 := K4.below hb8)); have HB8 : Below w.heap.size w w8 := bel_after HB7 HB7.size hb8; clear hp2; obtain ⟨_, a8, _⟩ := id K1; obtain ⟨_, b8, _⟩ := id K2; obtain ⟨_, c8, _⟩ := id K3; obtain ⟨_, d8, _⟩ := id K4; clear hb8 a7 b7 c7 d7 HB7)
    | (go_at_call 17; (with_reducible refine Calls.mono (kept_x _ _ rX) ?_); rintro e w9 ⟨rfl, hb9⟩; (try (replace pP := pP.below hb9)); (try (replace pQ := pQ.below hb9)); (try (replace pX := pX.below hb9)); (try (replace pY := pY.below hb9)); (try (replace rX := rX.below hb9)); (try (replace rY := rY.below hb9)); (try (replace K1 := K1.below hb9)); (try (replace K2 := K2.below hb9)); (try (replace K3 := K3.below hb9)); (try (replace K4 := K4.below hb9)); have HB9 : Below w.heap.size w w9 := bel_after HB8 HB8.size hb9; clear rX; obtain ⟨_, a9, _⟩ := id K1; obtain ⟨_, b9, _⟩ := id K2; obtain ⟨_, c9, _⟩ := id K3; obtain ⟨_, d9, _⟩ := id K4; clear hb9 a8 b8 c8 d8 HB8)
    | (go_at_call 17; (with_reducible refine Calls.mono (kept_x _ _ rY) ?_); rintro e w10 ⟨rfl, hb10⟩; (try (replace pP := pP.below hb10)); (try (replace pQ := pQ.below hb10)); (try (replace pX := pX.below hb10)); (try (replace pY := pY.below hb10)); (try (replace rX := rX.below hb10)); (try (replace rY := rY.below hb10)); (try (replace K1 := K1.below hb10)); (try (replace K2 := K2.below hb10)); (try (replace K3 := K3.below hb10)); (try (replace K4 := K4.below hb10)); have HB10 : Below w.heap.size w w10 := bel_after HB9 HB9.size hb10; clear rY; obtain ⟨_, a10, _⟩ := id K1; obtain ⟨_, b10, _⟩ := id K2; obtain ⟨_, c10, _⟩ := id K3; obtain ⟨_, d10, _⟩ := id K4; clear hb10 a9 b9 c9 d9 HB9))
  have pPd : Dcs S1 w10.drew (.slice pa P.length pc) P := pP.below ((Below.refl _ _).drew)
  have K1d : Has w10.drew w.heap.size #[.string pn, .slice pa P.length pc] := K1
  have HBd : Below w.heap.size w w10.drew := HB10.drew
  have j0 := a10 0
  have j1 := a10 1
  clear pP pQ pX pY K2 K3 K4 b10 c10 d10
  go_region_held3 (fun w' => w'.cell? ⟨w.heap.size, 0, none⟩ = some (.string pn) ∧ w'.cell? ⟨w.heap.size, 1, none⟩ = some (.slice pa P.length pc)) (first | exact ⟨(Has.mk0 (by assumption)).1, (Has.mk0 (by assumption)).2⟩ | go_keep) (first
    | (go_at_call 15; (with_reducible refine Calls.mono (hbr _ _ (by assumption)) ?_); rintro e w11 ⟨⟨u', rfl, pB⟩, hb11⟩; have pP11 : Dcs S1 w11 (.slice pa P.length pc) P := Dcs.below (by assumption) hb11; have K111 : Has w11 w.heap.size #[.string pn, .slice pa P.length pc] := Has.below (by assumption) hb11; have HB11 : Below w.heap.size w w11 := bel_after (by assumption) (Below.size (B := w.heap.size) (by assumption)) hb11; clear hb11 pPd K1d HBd hbr a10 j0 j1 K1 HB10)
    | (go_at_call 13; (with_reducible refine Calls.mono (hbt _ _ (by assumption)) ?_); rintro e w13 ⟨⟨u'', rfl, pB'⟩, hb13⟩; have pP13 : Dcs S1 w13 (.slice pa P.length pc) P := Dcs.below (by assumption) hb13; have K113 : Has w13 w.heap.size #[.string pn, .slice pa P.length pc] := Has.below (by assumption) hb13; have HB13 : Below w.heap.size w w13 := bel_after (by assumption) (Below.size (B := w.heap.size) (by assumption)) hb13; clear hb13 hbt)
    | (go_at_call 18; (with_reducible refine Calls.mono (hsb _ _ _ _ (by assumption) pB) ?_); rintro e w12 ⟨rfl, hb12⟩; have pP12 : Dcs S1 w12 (.slice pa P.length pc) P := Dcs.below (by assumption) hb12; have K112 : Has w12 w.heap.size #[.string pn, .slice pa P.length pc] := Has.below (by assumption) hb12; have HB12 : Below w.heap.size w w12 := bel_after (by assumption) (Below.size (B := w.heap.size) (by assumption)) hb12; clear hb12 pB)
    | (go_at_call 18; (with_reducible refine Calls.mono (hsb _ _ _ _ (by assumption) pB') ?_); rintro e w14 ⟨rfl, hb14⟩; have pP14 : Dcs S1 w14 (.slice pa P.length pc) P := Dcs.below (by assumption) hb14; have K114 : Has w14 w.heap.size #[.string pn, .slice pa P.length pc] := Has.below (by assumption) hb14; have HB14 : Below w.heap.size w w14 := bel_after (by assumption) (Below.size (B := w.heap.size) (by assumption)) hb14; clear hb14 pB'))
  all_goals go_wp2
  all_goals (go_ret; exact ⟨rfl, by assumption⟩)
end Go.Proofs.Ytbfojlfdiallnaa
