import Derived.Test.YthjdflcakngpiaaDoorApA
import Derived.Test.YthjdflcakngpiaaDoorArr
namespace Go.Proofs.YthjdflcakngpiaaDoor
open Go.RowKit
set_option linter.unusedVariables false

theorem lawNodes_any (L : List Nd) (v1 v2 : Value) (S1 S2 : Nat → Prop) (w : World) (h1 : Exs S1 w v1 L) (h2 : Exs S2 w v2 L) :
    Calls Tryd.prog 12 #[v1, v2] w fun e w' => e = .returned (.bool true) ∧ Below w.heap.size w w' :=
  (nodes_same L v1 v2 w h1.nds.1 h2.nds.1 (by have := Rows.le h1; omega)).mono fun e w' ⟨h, n, hn⟩ => ⟨h, by rw [hn]; exact below_drewN w n⟩

set_option maxRecDepth 100000 in
set_option maxHeartbeats 8000000 in
theorem lawList_any (L : List St) (u1 u2 : Value) (S1 S2 : Nat → Prop) (w : World) (h1 : Sts S1 w u1 L) (h2 : Sts S2 w u2 L) :
    Calls Tryd.prog 42 #[u1, u2] w fun e w' => e = .returned (.bool true) ∧ Below w.heap.size w w' := by
  obtain ⟨a1, c1, rfl, hlen, k1⟩ := Rows.any h1
  obtain ⟨a2, c2, rfl, _, k2⟩ := Rows.any h2
  clear h1 h2
  go_enter Tryd.func42, Tryd.ntmps42
  go_wp2
  go_loopw [5] (fun t wr => ∃ k : Nat, k ≤ L.length ∧ t = .int .i64 (k : Int) ∧ Below w.heap.size w wr) (fun t _ => L.length - (intOf t).toNat)
  case atStart => exact ⟨0, by omega, rfl, Below.refl _ _⟩
  case round =>
    obtain ⟨k, hk, rfl, hb⟩ := hrel
    by_cases hlt : k < L.length
    · obtain ⟨g1, o1, rfl, _, hg1, P1⟩ := k1.resolve_left (by intro e; rw [e] at hlt; simp at hlt)
      obtain ⟨g2, o2, rfl, _, hg2, P2⟩ := k2.resolve_left (by intro e; rw [e] at hlt; simp at hlt)
      obtain ⟨cs1, _, ⟨v1, rfl, vN1⟩, p⟩ := P1 k hlt
      obtain ⟨cs2, _, ⟨v2, rfl, vN2⟩, r⟩ := P2 k hlt
      have hN := fun (W : World) (hW : Below w.heap.size w W) => lawNodes_any _ _ _ S1 S2 W (vN1.below hW) (vN2.below hW)
      obtain ⟨_, _, rfl, -, -⟩ := Rows.any vN1
      obtain ⟨_, _, rfl, -, -⟩ := Rows.any vN2
      have p0 := (hb.cell (p := ⟨g1, _, none⟩) hg1).trans (p 0 _ rfl)
      have r0 := (hb.cell (p := ⟨g2, _, none⟩) hg2).trans (r 0 _ rfl)
      have p1 := (hb.cell (p := ⟨g1, _, none⟩) hg1).trans (p 1 _ rfl)
      have r1 := (hb.cell (p := ⟨g2, _, none⟩) hg2).trans (r 1 _ rfl)
      have p2 := (hb.cell (p := ⟨g1, _, none⟩) hg1).trans (p 2 _ rfl)
      have r2 := (hb.cell (p := ⟨g2, _, none⟩) hg2).trans (r 2 _ rfl)
      have p3 := (hb.cell (p := ⟨g1, _, none⟩) hg1).trans (p 3 _ rfl)
      have r3 := (hb.cell (p := ⟨g2, _, none⟩) hg2).trans (r 3 _ rfl)
      have p4 := (hb.cell (p := ⟨g1, _, none⟩) hg1).trans (p 4 _ rfl)
      have r4 := (hb.cell (p := ⟨g2, _, none⟩) hg2).trans (r 4 _ rfl)
      have p5 := (hb.cell (p := ⟨g1, _, none⟩) hg1).trans (p 5 _ rfl)
      have r5 := (hb.cell (p := ⟨g2, _, none⟩) hg2).trans (r 5 _ rfl)
      have t1 : (k : Int) < (L.length : Int) := by omega
      have t0 : (0 : Int) ≤ (k : Int) := by omega
      have t2 : k + 1 ≤ L.length := hlt
      have q2 : g2 < wr.heap.size := Nat.lt_of_lt_of_le hg2 hb.size
      have q2' : ¬ g2 = wr.heap.size := by omega
      clear p r P1 P2 vN1 vN2 k1 k2
      simp only [Nat.add_zero] at p0 r0
      generalize L[k] = x at *
      go_wp2_with (go_at_call 12; (with_reducible refine Calls.mono (hN _ (by exact (hb.alloc hb.size _).alloc (by simp; have := hb.size; omega) _)) ?_); rintro e w1 ⟨rfl, hb1⟩; have HB1 : Below w.heap.size w w1 := bel_after ((hb.alloc hb.size _).alloc (by simp; have := hb.size; omega) _) (by simp; have := hb.size; omega) hb1)
      go_roundw
      case rel => exact ⟨k + 1, by omega, by go_num, HB1⟩
      case measure => simp [intOf]; omega
    · have t1 : ¬ (k : Int) < (L.length : Int) := by omega
      clear k1 k2
      go_wp2
      go_ret
      exact ⟨rfl, hb⟩

set_option maxRecDepth 100000 in
set_option maxHeartbeats 8000000 in
theorem lawStage_any (x : Sg) (s1 s2 : SgV) (S1 S2 : Nat → Prop) (w : World) (h1 : SgR S1 w s1 x) (h2 : SgR S2 w s2 x) :
    Calls Tryd.prog 24 #[.agg #[s1.green, s1.enter, s1.during, s1.leave, s1.nexts], .agg #[s2.green, s2.enter, s2.during, s2.leave, s2.nexts]] w fun e w' => e = .returned (.bool true) ∧ Below w.heap.size w w' := by
  obtain ⟨a1, a2, a3, a4, a5⟩ := h1
  obtain ⟨b1, b2, b3, b4, b5⟩ := h2
  have hE := fun (W : World) (hW : Below w.heap.size w W) => lawList_any _ _ _ S1 S2 W (a2.below hW) (b2.below hW)
  have hD := fun (W : World) (hW : Below w.heap.size w W) => lawList_any _ _ _ S1 S2 W (a3.below hW) (b3.below hW)
  have hL := fun (W : World) (hW : Below w.heap.size w W) => lawList_any _ _ _ S1 S2 W (a4.below hW) (b4.below hW)
  obtain ⟨s10, s11, s12, s13, s14⟩ := s1
  obtain ⟨s20, s21, s22, s23, s24⟩ := s2
  simp only at *
  obtain ⟨ga1, gc1, rfl, gl1, gk1⟩ := Rows.any a1
  obtain ⟨ga2, gc2, rfl, gl2, gk2⟩ := Rows.any b1
  obtain ⟨ea1, ec1, rfl, el1, ek1⟩ := Rows.any a2
  obtain ⟨ea2, ec2, rfl, el2, ek2⟩ := Rows.any b2
  obtain ⟨da1, dc1, rfl, dl1, dk1⟩ := Rows.any a3
  obtain ⟨da2, dc2, rfl, dl2, dk2⟩ := Rows.any b3
  obtain ⟨la1, lc1, rfl, ll1, lk1⟩ := Rows.any a4
  obtain ⟨la2, lc2, rfl, ll2, lk2⟩ := Rows.any b4
  obtain ⟨na1, nc1, rfl, nl1, nk1⟩ := Rows.any a5
  obtain ⟨na2, nc2, rfl, nl2, nk2⟩ := Rows.any b5
  clear a1 a2 a3 a4 a5 b1 b2 b3 b4 b5 ek1 ek2 dk1 dk2 lk1 lk2
  go_enter Tryd.func24, Tryd.ntmps24
  go_wp2
  have H1 : Has ((w.alloc (.cells #[.slice ga1 x.green.length gc1, .slice ea1 x.enter.length ec1, .slice da1 x.during.length dc1, .slice la1 x.leave.length lc1, .slice na1 x.nexts.length nc1] 51)).alloc (.cells #[.slice ga2 x.green.length gc2, .slice ea2 x.enter.length ec2, .slice da2 x.during.length dc2, .slice la2 x.leave.length lc2, .slice na2 x.nexts.length nc2] 51)) w.heap.size #[.slice ga1 x.green.length gc1, .slice ea1 x.enter.length ec1, .slice da1 x.during.length dc1, .slice la1 x.leave.length lc1, .slice na1 x.nexts.length nc1] := (Has.new _ _ _ rfl).alloc _
  have H2 : Has ((w.alloc (.cells #[.slice ga1 x.green.length gc1, .slice ea1 x.enter.length ec1, .slice da1 x.during.length dc1, .slice la1 x.leave.length lc1, .slice na1 x.nexts.length nc1] 51)).alloc (.cells #[.slice ga2 x.green.length gc2, .slice ea2 x.enter.length ec2, .slice da2 x.during.length dc2, .slice la2 x.leave.length lc2, .slice na2 x.nexts.length nc2] 51)) (w.heap.size + 1) #[.slice ga2 x.green.length gc2, .slice ea2 x.enter.length ec2, .slice da2 x.during.length dc2, .slice la2 x.leave.length lc2, .slice na2 x.nexts.length nc2] := Has.new _ _ _ (by simp)
  have HB : Below w.heap.size w ((w.alloc (.cells #[.slice ga1 x.green.length gc1, .slice ea1 x.enter.length ec1, .slice da1 x.during.length dc1, .slice la1 x.leave.length lc1, .slice na1 x.nexts.length nc1] 51)).alloc (.cells #[.slice ga2 x.green.length gc2, .slice ea2 x.enter.length ec2, .slice da2 x.during.length dc2, .slice la2 x.leave.length lc2, .slice na2 x.nexts.length nc2] 51)) := ((Below.refl _ _).alloc (Nat.le_refl _) _).alloc (by simp) _
  generalize ((w.alloc (.cells #[.slice ga1 x.green.length gc1, .slice ea1 x.enter.length ec1, .slice da1 x.during.length dc1, .slice la1 x.leave.length lc1, .slice na1 x.nexts.length nc1] 51)).alloc (.cells #[.slice ga2 x.green.length gc2, .slice ea2 x.enter.length ec2, .slice da2 x.during.length dc2, .slice la2 x.leave.length lc2, .slice na2 x.nexts.length nc2] 51)) = W0 at *
  go_loopw [5] (fun t wr => ∃ k : Nat, k ≤ x.green.length ∧ t = .int .i64 (k : Int) ∧ Below W0.heap.size W0 wr) (fun t _ => x.green.length - (intOf t).toNat)
  case atStart => exact ⟨0, by omega, rfl, Below.refl _ _⟩
  case round =>
    obtain ⟨k, hk, rfl, HBW⟩ := hrel
    have HBr : Below w.heap.size w wr := HB.trans (HBW.mono HB.size)
    have K1 := H1.below HBW
    have K2 := H2.below HBW
    obtain ⟨_, i1, _⟩ := id K1
    obtain ⟨_, i2, _⟩ := id K2
    by_cases hlt : k < x.green.length
    · obtain ⟨g1, o1, rfl, _, hg1, P1⟩ := gk1.resolve_left (by intro e; rw [e] at hlt; simp at hlt)
      obtain ⟨g2, o2, rfl, _, hg2, P2⟩ := gk2.resolve_left (by intro e; rw [e] at hlt; simp at hlt)
      obtain ⟨cs1, _, rfl, p⟩ := P1 k hlt
      obtain ⟨cs2, _, rfl, r⟩ := P2 k hlt
      have p0 := (HBr.cell (p := ⟨g1, _, none⟩) hg1).trans (p 0 _ rfl)
      have r0 := (HBr.cell (p := ⟨g2, _, none⟩) hg2).trans (r 0 _ rfl)
      have t1 : (k : Int) < (x.green.length : Int) := by omega
      have t0 : (0 : Int) ≤ (k : Int) := by omega
      have t2 : k + 1 ≤ x.green.length := hlt
      simp only [Nat.add_zero, Nat.mul_one] at p0 r0
      clear p r P1 P2 gk1 gk2
      generalize x.green[k] = a at *
      go_wp2
      go_quiet (fail)
      go_wp2
      go_roundw
      case rel => exact ⟨k + 1, by omega, by go_num, bel_drewN HBW⟩
      case measure => simp [intOf]; omega
    · have t1 : ¬ (k : Int) < (x.green.length : Int) := by omega
      clear gk1 gk2
      go_wp2
      obtain ⟨V, hV⟩ : ∃ V, V = wr := ⟨_, rfl⟩
      subst hV
      go_loopw [6] (fun t wr => ∃ k : Nat, k ≤ x.nexts.length ∧ t = .int .i64 (k : Int) ∧ Below V.heap.size V wr) (fun t _ => x.nexts.length - (intOf t).toNat)
      case atStart => exact ⟨0, by omega, rfl, Below.refl _ _⟩
      case round =>
        obtain ⟨n, hn, rfl, HBV⟩ := hrel
        have HBs : Below w.heap.size w wr := HBr.trans (HBV.mono HBr.size)
        have K3 := K1.below HBV
        have K4 := K2.below HBV
        obtain ⟨_, i3, _⟩ := id K3
        obtain ⟨_, i4, _⟩ := id K4
        by_cases hlt2 : n < x.nexts.length
        · obtain ⟨g1, o1, rfl, _, hg1, P1⟩ := nk1.resolve_left (by intro e; rw [e] at hlt2; simp at hlt2)
          obtain ⟨g2, o2, rfl, _, hg2, P2⟩ := nk2.resolve_left (by intro e; rw [e] at hlt2; simp at hlt2)
          obtain ⟨cs1, _, ⟨v1, rfl, vN1⟩, p⟩ := P1 n hlt2
          obtain ⟨cs2, _, ⟨v2, rfl, vN2⟩, r⟩ := P2 n hlt2
          have hN := fun (W : World) (hW : Below w.heap.size w W) => lawNodes_any _ _ _ S1 S2 W (vN1.below hW) (vN2.below hW)
          obtain ⟨_, _, rfl, -, -⟩ := Rows.any vN1
          obtain ⟨_, _, rfl, -, -⟩ := Rows.any vN2
          have p0 := (HBs.cell (p := ⟨g1, _, none⟩) hg1).trans (p 0 _ rfl)
          have r0 := (HBs.cell (p := ⟨g2, _, none⟩) hg2).trans (r 0 _ rfl)
          have p1 := (HBs.cell (p := ⟨g1, _, none⟩) hg1).trans (p 1 _ rfl)
          have r1 := (HBs.cell (p := ⟨g2, _, none⟩) hg2).trans (r 1 _ rfl)
          have p2 := (HBs.cell (p := ⟨g1, _, none⟩) hg1).trans (p 2 _ rfl)
          have r2 := (HBs.cell (p := ⟨g2, _, none⟩) hg2).trans (r 2 _ rfl)
          have p3 := (HBs.cell (p := ⟨g1, _, none⟩) hg1).trans (p 3 _ rfl)
          have r3 := (HBs.cell (p := ⟨g2, _, none⟩) hg2).trans (r 3 _ rfl)
          have t3 : (n : Int) < (x.nexts.length : Int) := by omega
          have t0 : (0 : Int) ≤ (n : Int) := by omega
          have t2 : n + 1 ≤ x.nexts.length := hlt2
          have q2 : g2 < wr.heap.size := Nat.lt_of_lt_of_le hg2 HBs.size
          have q2' : ¬ g2 = wr.heap.size := by omega
          have z0 : ¬ w.heap.size = wr.heap.size := by have := K3.1; omega
          have z1 : ¬ w.heap.size + 1 = wr.heap.size := by have := K4.1; omega
          have z2 : w.heap.size < wr.heap.size := K3.1
          have z3 : w.heap.size + 1 < wr.heap.size := K4.1
          simp only [Nat.add_zero] at p0 r0
          clear p r P1 P2 nk1 nk2 vN1 vN2
          generalize x.nexts[n] = y at *
          go_wp2_with (go_at_call 12; (with_reducible refine Calls.mono (hN _ (by exact (HBs.alloc HBs.size _).alloc (by simp; have := HBs.size; omega) _)) ?_); rintro e w1 ⟨rfl, hb1⟩; have HB1 : Below V.heap.size V w1 := bel_after ((HBV.alloc HBV.size _).alloc (by simp; have := HBV.size; omega) _) (by simp; have := HBV.size; omega) hb1)
          go_roundw
          case rel => exact ⟨n + 1, by omega, by go_num, HB1⟩
          case measure => simp [intOf]; omega
        · have t3 : ¬ (n : Int) < (x.nexts.length : Int) := by omega
          clear nk1 nk2
          go_wp2_with (first
            | (go_at_call 42; (with_reducible refine Calls.mono (hE _ (by exact HBs)) ?_); rintro e w1 ⟨rfl, hb1⟩; have HB1 : Below w.heap.size w w1 := bel_after HBs HBs.size hb1; have J1 := K3.below hb1; have M1 := K4.below hb1; obtain ⟨_, j1, _⟩ := id J1; obtain ⟨_, m1, _⟩ := id M1)
            | (go_at_call 42; (with_reducible refine Calls.mono (hD _ (by exact HB1)) ?_); rintro e w2 ⟨rfl, hb2⟩; have HB2 : Below w.heap.size w w2 := bel_after HB1 HB1.size hb2; have J2 := J1.below hb2; have M2 := M1.below hb2; obtain ⟨_, j2, _⟩ := id J2; obtain ⟨_, m2, _⟩ := id M2)
            | (go_at_call 42; (with_reducible refine Calls.mono (hL _ (by exact HB2)) ?_); rintro e w3 ⟨rfl, hb3⟩; have HB3 : Below w.heap.size w w3 := bel_after HB2 HB2.size hb3; have J3 := J2.below hb3; have M3 := M2.below hb3; obtain ⟨_, j3, _⟩ := id J3; obtain ⟨_, m3, _⟩ := id M3))
          go_ret
          exact ⟨rfl, HB3⟩
end Go.Proofs.YthjdflcakngpiaaDoor
