import Derived.Test.YthjdflcakngpiaaDoorLawA
namespace Go.Proofs.YthjdflcakngpiaaDoor
open Go.RowKit
set_option linter.unusedVariables false
attribute [local go_sem] eq63

set_option maxRecDepth 100000 in
set_option maxHeartbeats 8000000 in
theorem lawPlan_any (p : Pl) (u1 u2 : Value) (S1 S2 : Nat → Prop) (w : World) (h1 : PlR S1 w u1 p) (h2 : PlR S2 w u2 p) :
    Calls Tryd.prog 10 #[u1, u2] w fun e w' => e = .returned (.bool true) ∧ Below w.heap.size w w' := by
  obtain ⟨d1, rfl, h1⟩ := h1
  obtain ⟨d2, rfl, h2⟩ := h2
  obtain ⟨pn, L⟩ := p
  simp only at *
  obtain ⟨a1, c1, rfl, l1, k1⟩ := Rows.any h1
  obtain ⟨a2, c2, rfl, l2, k2⟩ := Rows.any h2
  clear h1 h2
  go_enter Tryd.func10, Tryd.ntmps10
  go_wp2
  have H1 : Has ((w.alloc (.cells #[.string pn, .slice a1 L.length c1] 24)).alloc (.cells #[.string pn, .slice a2 L.length c2] 24)) w.heap.size #[.string pn, .slice a1 L.length c1] := (Has.new _ _ _ rfl).alloc _
  have H2 : Has ((w.alloc (.cells #[.string pn, .slice a1 L.length c1] 24)).alloc (.cells #[.string pn, .slice a2 L.length c2] 24)) (w.heap.size + 1) #[.string pn, .slice a2 L.length c2] := Has.new _ _ _ (by simp)
  have HB : Below w.heap.size w ((w.alloc (.cells #[.string pn, .slice a1 L.length c1] 24)).alloc (.cells #[.string pn, .slice a2 L.length c2] 24)) := ((Below.refl _ _).alloc (Nat.le_refl _) _).alloc (by simp) _
  generalize ((w.alloc (.cells #[.string pn, .slice a1 L.length c1] 24)).alloc (.cells #[.string pn, .slice a2 L.length c2] 24)) = W0 at *
  go_loopw [5] (fun t wr => ∃ k : Nat, k ≤ L.length ∧ t = .int .i64 (k : Int) ∧ Below W0.heap.size W0 wr) (fun t _ => L.length - (intOf t).toNat)
  case atStart => exact ⟨0, by omega, rfl, Below.refl _ _⟩
  case round =>
    obtain ⟨k, hk, rfl, HBW⟩ := hrel
    have HBr : Below w.heap.size w wr := HB.trans (HBW.mono HB.size)
    have K1 := H1.below HBW
    have K2 := H2.below HBW
    obtain ⟨_, i1, _⟩ := id K1
    obtain ⟨_, i2, _⟩ := id K2
    by_cases hlt : k < L.length
    · obtain ⟨g1, o1, rfl, _, hg1, P1⟩ := k1.resolve_left (by intro e; rw [e] at hlt; simp at hlt)
      obtain ⟨g2, o2, rfl, _, hg2, P2⟩ := k2.resolve_left (by intro e; rw [e] at hlt; simp at hlt)
      obtain ⟨cs1, _, ⟨v1, ⟨s10, s11, s12, s13, s14⟩, rfl, vN1, sN1⟩, p⟩ := P1 k hlt
      obtain ⟨cs2, _, ⟨v2, ⟨s20, s21, s22, s23, s24⟩, rfl, vN2, sN2⟩, r⟩ := P2 k hlt
      have hE := fun (W : World) (hW : Below w.heap.size w W) => lawNodes_any _ _ _ S1 S2 W (vN1.below hW) (vN2.below hW)
      have hG := fun (W : World) (hW : Below w.heap.size w W) => lawStage_any _ ⟨s10, s11, s12, s13, s14⟩ ⟨s20, s21, s22, s23, s24⟩ S1 S2 W (sN1.below hW) (sN2.below hW)
      obtain ⟨_, _, rfl, -, -⟩ := Rows.any vN1
      obtain ⟨_, _, rfl, -, -⟩ := Rows.any sN1.1
      obtain ⟨_, _, rfl, -, -⟩ := Rows.any sN1.2.1
      obtain ⟨_, _, rfl, -, -⟩ := Rows.any sN1.2.2.1
      obtain ⟨_, _, rfl, -, -⟩ := Rows.any sN1.2.2.2.1
      obtain ⟨_, _, rfl, -, -⟩ := Rows.any sN1.2.2.2.2
      obtain ⟨_, _, rfl, -, -⟩ := Rows.any vN2
      obtain ⟨_, _, rfl, -, -⟩ := Rows.any sN2.1
      obtain ⟨_, _, rfl, -, -⟩ := Rows.any sN2.2.1
      obtain ⟨_, _, rfl, -, -⟩ := Rows.any sN2.2.2.1
      obtain ⟨_, _, rfl, -, -⟩ := Rows.any sN2.2.2.2.1
      obtain ⟨_, _, rfl, -, -⟩ := Rows.any sN2.2.2.2.2
      have p0 := (HBr.cell (p := ⟨g1, _, none⟩) hg1).trans (p 0 _ rfl)
      have r0 := (HBr.cell (p := ⟨g2, _, none⟩) hg2).trans (r 0 _ rfl)
      have p1 := (HBr.cell (p := ⟨g1, _, none⟩) hg1).trans (p 1 _ rfl)
      have r1 := (HBr.cell (p := ⟨g2, _, none⟩) hg2).trans (r 1 _ rfl)
      have p2 := (HBr.cell (p := ⟨g1, _, none⟩) hg1).trans (p 2 _ rfl)
      have r2 := (HBr.cell (p := ⟨g2, _, none⟩) hg2).trans (r 2 _ rfl)
      have p3 := (HBr.cell (p := ⟨g1, _, none⟩) hg1).trans (p 3 _ rfl)
      have r3 := (HBr.cell (p := ⟨g2, _, none⟩) hg2).trans (r 3 _ rfl)
      have p4 := (HBr.cell (p := ⟨g1, _, none⟩) hg1).trans (p 4 _ rfl)
      have r4 := (HBr.cell (p := ⟨g2, _, none⟩) hg2).trans (r 4 _ rfl)
      have p5 := (HBr.cell (p := ⟨g1, _, none⟩) hg1).trans (p 5 _ rfl)
      have r5 := (HBr.cell (p := ⟨g2, _, none⟩) hg2).trans (r 5 _ rfl)
      have p6 := (HBr.cell (p := ⟨g1, _, none⟩) hg1).trans (p 6 _ rfl)
      have r6 := (HBr.cell (p := ⟨g2, _, none⟩) hg2).trans (r 6 _ rfl)
      have p7 := (HBr.cell (p := ⟨g1, _, none⟩) hg1).trans (p 7 _ rfl)
      have r7 := (HBr.cell (p := ⟨g2, _, none⟩) hg2).trans (r 7 _ rfl)
      have p8 := (HBr.cell (p := ⟨g1, _, none⟩) hg1).trans (p 8 _ rfl)
      have r8 := (HBr.cell (p := ⟨g2, _, none⟩) hg2).trans (r 8 _ rfl)
      have p9 := (HBr.cell (p := ⟨g1, _, none⟩) hg1).trans (p 9 _ rfl)
      have r9 := (HBr.cell (p := ⟨g2, _, none⟩) hg2).trans (r 9 _ rfl)
      have p10 := (HBr.cell (p := ⟨g1, _, none⟩) hg1).trans (p 10 _ rfl)
      have r10 := (HBr.cell (p := ⟨g2, _, none⟩) hg2).trans (r 10 _ rfl)
      have p11 := (HBr.cell (p := ⟨g1, _, none⟩) hg1).trans (p 11 _ rfl)
      have r11 := (HBr.cell (p := ⟨g2, _, none⟩) hg2).trans (r 11 _ rfl)
      have p12 := (HBr.cell (p := ⟨g1, _, none⟩) hg1).trans (p 12 _ rfl)
      have r12 := (HBr.cell (p := ⟨g2, _, none⟩) hg2).trans (r 12 _ rfl)
      have p13 := (HBr.cell (p := ⟨g1, _, none⟩) hg1).trans (p 13 _ rfl)
      have r13 := (HBr.cell (p := ⟨g2, _, none⟩) hg2).trans (r 13 _ rfl)
      have p14 := (HBr.cell (p := ⟨g1, _, none⟩) hg1).trans (p 14 _ rfl)
      have r14 := (HBr.cell (p := ⟨g2, _, none⟩) hg2).trans (r 14 _ rfl)
      have t1 : (k : Int) < (L.length : Int) := by omega
      have t0 : (0 : Int) ≤ (k : Int) := by omega
      have t2 : k + 1 ≤ L.length := hlt
      have q1 : g1 < wr.heap.size := Nat.lt_of_lt_of_le hg1 HBr.size
      have q2 : g2 < wr.heap.size := Nat.lt_of_lt_of_le hg2 HBr.size
      have q2' : ¬ g2 = wr.heap.size := by omega
      have z0 : w.heap.size < wr.heap.size := K1.1
      have z1 : w.heap.size + 1 < wr.heap.size := K2.1
      have z0' : ¬ w.heap.size = wr.heap.size := by omega
      have z1' : ¬ w.heap.size + 1 = wr.heap.size := by omega
      clear p r P1 P2 vN1 vN2 sN1 sN2 k1 k2
      simp only [Nat.add_zero] at p0 r0
      generalize L[k] = x at *
      obtain ⟨xk, xl, xc, xn, xw, xs, x0, x1, x2, xe, xg⟩ := x
      simp only at *
      go_wp2_with (first
        | (go_at_call 12; (with_reducible refine Calls.mono (hE _ (by exact (HBr.alloc HBr.size _).alloc (by simp; have := HBr.size; omega) _)) ?_); rintro e w1 ⟨rfl, hb1⟩; have HB1 : Below w.heap.size w w1 := bel_after ((HBr.alloc HBr.size _).alloc (by simp; have := HBr.size; omega) _) (by simp; have := HBr.size; omega) hb1; have J1 := ((Has.new wr _ _ rfl).alloc _).below hb1; have M1 : Has w1 (wr.heap.size + 1) _ := (Has.new (wr.alloc _) _ _ (by simp)).below hb1; obtain ⟨_, j1, _⟩ := id J1; obtain ⟨_, m1, _⟩ := id M1; have HV1 : Below W0.heap.size W0 w1 := bel_after ((HBW.alloc HBW.size _).alloc (by simp; have := HBW.size; omega) _) (by simp; have := HBW.size; omega) hb1)
        | (go_at_call 24; (with_reducible refine Calls.mono (hG _ (by exact HB1)) ?_); rintro e w2 ⟨rfl, hb2⟩; have HV2 : Below W0.heap.size W0 w2 := bel_after HV1 HV1.size hb2))
      go_roundw
      case rel => exact ⟨k + 1, by omega, by go_num, HV2⟩
      case measure => simp [intOf]; omega
    · have t1 : ¬ (k : Int) < (L.length : Int) := by omega
      clear k1 k2
      go_wp2
      go_ret
      exact ⟨rfl, HBr⟩
end Go.Proofs.YthjdflcakngpiaaDoor
