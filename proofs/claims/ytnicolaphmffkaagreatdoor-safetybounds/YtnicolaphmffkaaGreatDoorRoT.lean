import Derived.Test.YtnicolaphmffkaaGreatDoorRoS
import Derived.Deep.CutRange
namespace Go.Proofs.YtnicolaphmffkaaGreatDoor
open Go.RowKit
set_option linter.unusedVariables false
set_option linter.unusedSimpArgs false

theorem Has.set4 {w : World} {b : Nat} (h : Has w b #[.slice none 0 0, .slice none 0 0, .slice none 0 0, .slice none 0 0]) (x0 x1 x2 x3 : Value) : Has ((((w.setCell ⟨b, 0, none⟩ x0).setCell ⟨b, 1, none⟩ x1).setCell ⟨b, 2, none⟩ x2).setCell ⟨b, 3, none⟩ x3) b #[x0, x1, x2, x3] := by
 simpa using (((h.set 0 (by simp) x0).set 1 (by simp) x1).set 2 (by simp) x2).set 3 (by simp) x3
theorem own_cap {w : World} {base e size n g c : Nat} {xs : List Value} (h : w.ownsRow base e size (.slice (some ⟨g, 0, none⟩) n c) n xs) (hn : 0 < n) : n ≤ c := by
 obtain ⟨_, _, hv, hc, _⟩ := own_block h hn
 injection hv with _ _ h3
 omega
theorem far4 {w : World} {N b : Nat} {vs : Array Value} {x0 x1 x2 x3 : Value} (h : Has w N vs) (hn : N ≠ b) : Has ((((w.setCell ⟨b, 0, none⟩ x0).setCell ⟨b, 1, none⟩ x1).setCell ⟨b, 2, none⟩ x2).setCell ⟨b, 3, none⟩ x3) N vs := (((h.far hn x0).far hn x1).far hn x2).far hn x3
theorem only4 (w : World) (b : Nat) (x0 x1 x2 x3 : Value) : Only (fun q => q = b) w ((((w.setCell ⟨b, 0, none⟩ x0).setCell ⟨b, 1, none⟩ x1).setCell ⟨b, 2, none⟩ x2).setCell ⟨b, 3, none⟩ x3) :=
 (((only_of_set w b 0 x0).trans (only_of_set _ b 1 x1)).trans (only_of_set _ b 2 x2)).trans (only_of_set _ b 3 x3)
set_option maxRecDepth 100000 in
set_option maxHeartbeats 8000000 in
theorem roomy_any (G : List Gp) (C : List Cf) (vg vc : Value) (w : World) (h1 : Fl 5 Gp.cs w vg G) (h2 : Fl 4 Cf.cs w vc C) (lG : G.length ≤ 2932031007317) (lC : C.length ≤ 4398046511000) :
  Calls Tryz.prog 51 #[.agg #[vg, vc]] w fun e w' => (∃ g1 d1 g2 d2, e = .returned (.tuple #[.agg #[.slice (some ⟨g1, 0, none⟩) G.length d1, .slice (some ⟨g2, 0, none⟩) C.length d2], .agg #[.slice (some ⟨g1, 0, none⟩) (G.length + 2) d1, .slice (some ⟨g2, 0, none⟩) (C.length + 2) d2, .slice none 0 0, .slice none 0 0]]) ∧ w'.ownsRow w.heap.size 90 5 (.slice (some ⟨g1, 0, none⟩) (G.length + 2) d1) (G.length + 2) (cellsF Gp.cs G ++ marksG) ∧ w'.ownsRow w.heap.size 93 4 (.slice (some ⟨g2, 0, none⟩) (C.length + 2) d2) (C.length + 2) (cellsF Cf.cs C ++ marksC)) ∧ Below w.heap.size w w' := by
 have hCp := fun (W : World) (hW : Below w.heap.size w W) => copied_any G C vg vc W (h1.below hW) (h2.below hW) lG lC
 obtain ⟨ga, gc, rfl, -⟩ := h1.any
 obtain ⟨ca, cc, rfl, -⟩ := h2.any
 clear h1 h2
 go_enter Tryz.func51, Tryz.ntmps51
 go_upto_region 2 with ((go_at_call 85; (with_reducible refine Calls.mono (hCp _ (by exact bel3o)) ?_); rintro e w1 ⟨⟨a1, c1, a2, c2, rfl, K⟩, hb1⟩; have z1 : w.heap.size + 3 ≤ w1.heap.size := (by simpa using hb1.size); have B0 : Has w1 w.heap.size #[.slice ga G.length gc, .slice ca C.length cc] := (((Has.new w _ _ rfl).alloc _).alloc _).below hb1; have R1 : Has w1 (w.heap.size + 1) #[.slice none 0 0, .slice none 0 0] := ((Has.new (w.alloc _) _ _ (by simp)).alloc _).below hb1; have R2 : Has w1 (w.heap.size + 2) #[.slice none 0 0, .slice none 0 0, .slice none 0 0, .slice none 0 0] := (Has.new ((w.alloc _).alloc _) _ _ (by simp)).below hb1; have HB : Below w.heap.size w w1 := bel_after bel3o (by simp; omega) hb1; have K' : CpT (w.heap.size + 3) w1 (.slice a1 G.length c1) (.slice a2 C.length c2) G C := (by simpa using K); clear K hb1 hCp))
 obtain ⟨own1, own2, ne⟩ := K'
 have hR : RS w w1.heap.size #[.slice ga G.length gc, .slice ca C.length cc] (.slice a1 G.length c1) (.slice a2 C.length c2) G C (w1.alloc (.cells #[.slice a1 G.length c1, .slice a2 C.length c2] 25)) := ⟨HB.alloc HB.size _, B0.alloc _, R1.alloc _, R2.alloc _, Has.new _ _ _ rfl, own1.alloc _, own2.alloc _, fun q hq => (own_lt own1 q hq).2, fun q hq => (own_lt own2 q hq).2, ne, z1, by simp⟩
 have zWh : Hid ((w1.alloc (.cells #[.slice a1 G.length c1, .slice a2 C.length c2] 25)).heap.size = w1.heap.size + 1) := by show _ = _; simp
 clear own1 own2 ne HB B0 R1 R2
 generalize (w1.alloc (.cells #[.slice a1 G.length c1, .slice a2 C.length c2] 25)) = W1 at *
 have q0 := hR.Q.2.1
 have qlt : w1.heap.size < W1.heap.size := hR.Q.1
 go_cut [5] from 8 to 20 (fun s5 wx => ∃ r g1 d1 g2 d2, s5 = .pointer (some ⟨r, 0, none⟩) ∧ Has wx r #[.slice (some ⟨g1, 0, none⟩) (G.length + 2) d1, .slice (some ⟨g2, 0, none⟩) (C.length + 2) d2, .slice none 0 0, .slice none 0 0] ∧ RS2 w w1.heap.size #[.slice ga G.length gc, .slice ca C.length cc] (.slice a1 G.length c1) (.slice a2 C.length c2) G C g1 d1 g2 d2 wx ∧ r ≠ w1.heap.size ∧ w.heap.size + 3 ≤ r ∧ g1 ≠ r ∧ g2 ≠ r)
 case first =>
  go_region_held3 (fun w' => w'.cell? ⟨w1.heap.size, 0, none⟩ = some (.slice a1 G.length c1) ∧ w'.cell? ⟨w1.heap.size, 1, none⟩ = some (.slice a2 C.length c2)) (first | with_reducible exact has2b hR2.Q | with_reducible exact has2b hR1.Q | with_reducible exact has2b (hR1.Q.alloc _) | with_reducible exact has2b ((hR1.Q.alloc _).alloc _) | with_reducible exact has2b (hR2.Q.alloc _) | with_reducible exact has2b hR.Q | with_reducible exact has2b (hR.Q.drew) | with_reducible exact has2b ((hR.Q.alloc _).drew) | with_reducible exact has2b (((hR.Q.alloc _).alloc _).drew) | with_reducible exact has2b ((((hR.Q.alloc _).alloc _).alloc _).drew) | exact has2b (far4 hR2.Q (by have := zWh.out; have := hR2.z; omega))) (first
   | (refine step_G (RS.below hR (by first | with_reducible exact belD1 | with_reducible exact belD2 | with_reducible exact belD3)) lG rfl _ _ rfl rfl _ rfl (by first | with_reducible exact (Has.new W1 _ _ rfl).drew | with_reducible exact ((Has.new W1 _ _ rfl).alloc _).drew | with_reducible exact (((Has.new W1 _ _ rfl).alloc _).alloc _).drew | with_reducible exact (Has.new (W1.alloc _) _ _ (by simp)).drew | with_reducible exact ((Has.new (W1.alloc _) _ _ (by simp)).alloc _).drew | with_reducible exact (Has.new ((W1.alloc _).alloc _) _ _ (by simp)).drew) ?_; intro g1 d1 w2 hR1 kp1 fr1; have sz1 := kp1.size; (try simp at fr1 sz1); have zz2 : w1.heap.size < w2.heap.size := hR1.z.2; have lg1 := hR1.lg; have q1 := hR1.Q.2.1; (try (have A0 : Has w2 W1.heap.size #[.slice none 0 0, .slice none 0 0, .slice none 0 0, .slice none 0 0] := Has.kp (by first | with_reducible exact (Has.new W1 _ _ rfl).drew | with_reducible exact ((Has.new W1 _ _ rfl).alloc _).drew | with_reducible exact (((Has.new W1 _ _ rfl).alloc _).alloc _).drew) kp1 (by have := zWh.out; omega); obtain ⟨_, s0, f0⟩ := id A0)); (try (have M0 : Has w2 W1.heap.size marksC.toArray := Has.kp (by first | with_reducible exact (Has.new W1 _ _ rfl).drew | with_reducible exact ((Has.new W1 _ _ rfl).alloc _).drew | with_reducible exact (((Has.new W1 _ _ rfl).alloc _).alloc _).drew) kp1 (by have := zWh.out; omega))); (try (have A1 : Has w2 (W1.heap.size + 1) #[.slice none 0 0, .slice none 0 0, .slice none 0 0, .slice none 0 0] := Has.kp (by first | with_reducible exact (Has.new (W1.alloc _) _ _ (by simp)).drew | with_reducible exact ((Has.new (W1.alloc _) _ _ (by simp)).alloc _).drew) kp1 (by have := zWh.out; omega); obtain ⟨_, s1, f1⟩ := id A1)); (try (have M1 : Has w2 (W1.heap.size + 1) marksC.toArray := Has.kp (by first | with_reducible exact (Has.new (W1.alloc _) _ _ (by simp)).drew | with_reducible exact ((Has.new (W1.alloc _) _ _ (by simp)).alloc _).drew) kp1 (by have := zWh.out; omega))); (try (have A2 : Has w2 (W1.heap.size + 1 + 1) #[.slice none 0 0, .slice none 0 0, .slice none 0 0, .slice none 0 0] := Has.kp (by first | with_reducible exact (Has.new ((W1.alloc _).alloc _) _ _ (by simp)).drew) kp1 (by have := zWh.out; omega); obtain ⟨_, s2, f2⟩ := id A2)); (try (have M2 : Has w2 (W1.heap.size + 1 + 1) marksC.toArray := Has.kp (by first | with_reducible exact (Has.new ((W1.alloc _).alloc _) _ _ (by simp)).drew) kp1 (by have := zWh.out; omega))); clear kp1 hR)
   | (refine step_C (by first | with_reducible exact hR1 | with_reducible exact RS1.below hR1 belN1 | with_reducible exact RS1.below hR1 belA) lC rfl _ _ rfl rfl _ rfl (by first | with_reducible exact Has.new w2 _ _ rfl | with_reducible exact (Has.new w2 _ _ rfl).alloc _ | with_reducible exact Has.new (w2.alloc _) _ _ (by simp) | with_reducible exact M0 | with_reducible exact M0.alloc _ | with_reducible exact M1 | with_reducible exact M1.alloc _ | with_reducible exact M2 | with_reducible exact M2.alloc _) ?_; intro g2 d2 w3 hR2 kp2 fr2; have sz2 := kp2.size; (try simp at fr2 sz2); (try (replace A0 : Has w3 W1.heap.size #[.slice none 0 0, .slice none 0 0, .slice none 0 0, .slice none 0 0] := Has.kp (by first | with_reducible exact A0 | with_reducible exact A0.alloc _) kp2 (by have := zWh.out; omega); clear s0 f0; obtain ⟨_, s0, f0⟩ := id A0)); (try (replace A1 : Has w3 (W1.heap.size + 1) #[.slice none 0 0, .slice none 0 0, .slice none 0 0, .slice none 0 0] := Has.kp (by first | with_reducible exact A1 | with_reducible exact A1.alloc _) kp2 (by have := zWh.out; omega); clear s1 f1; obtain ⟨_, s1, f1⟩ := id A1)); (try (replace A2 : Has w3 (W1.heap.size + 1 + 1) #[.slice none 0 0, .slice none 0 0, .slice none 0 0, .slice none 0 0] := Has.kp (by first | with_reducible exact A2 | with_reducible exact A2.alloc _) kp2 (by have := zWh.out; omega); clear s2 f2; obtain ⟨_, s2, f2⟩ := id A2)); (try (have A3 : Has w3 w2.heap.size #[.slice none 0 0, .slice none 0 0, .slice none 0 0, .slice none 0 0] := Has.kp (by first | with_reducible exact Has.new w2 _ _ rfl | with_reducible exact (Has.new w2 _ _ rfl).alloc _) kp2 (by omega); obtain ⟨_, s3, f3⟩ := id A3)); (try (have A4 : Has w3 (w2.heap.size + 1) #[.slice none 0 0, .slice none 0 0, .slice none 0 0, .slice none 0 0] := Has.kp (Has.new (w2.alloc _) _ _ (by simp)) kp2 (by omega); obtain ⟨_, s4, f4⟩ := id A4)); clear kp2 hR1))
  all_goals
   go_wp2_with fail
   go_meet
   case rel =>
    refine ⟨_, g1, d1, g2, d2, rfl, ?_, ?_, ?_, ?_, ?_, ?_⟩
    ·first | with_reducible exact Has.new _ _ _ rfl | with_reducible exact A0.set4 _ _ _ _ | with_reducible exact A1.set4 _ _ _ _ | with_reducible exact A2.set4 _ _ _ _ | with_reducible exact A3.set4 _ _ _ _ | with_reducible exact A4.set4 _ _ _ _
    ·first | with_reducible exact hR2.below belN1 | exact hR2.only (by with_reducible exact only4 _ _ _ _ _ _) (by have := zWh.out; have := hR2.z; have := hR2.lg; have := hR2.lc; omega) (by have := zWh.out; have := hR2.z; have := hR2.lg; have := hR2.lc; omega) (by have := zWh.out; have := hR2.z; have := hR2.lg; have := hR2.lc; omega) (by have := zWh.out; have := hR2.z; have := hR2.lg; have := hR2.lc; omega)
    ·have := zWh.out; have := hR2.z; omega
    ·have := zWh.out; have := hR2.z; omega
    ·have := zWh.out; have := hR2.z; have := hR2.lg; omega
    ·have := zWh.out; have := hR2.z; have := hR2.lc; omega
 case rest =>
  obtain ⟨r, g1, d1, g2, d2, rfl, A, hR2, rN, rw3, r1, r2⟩ := hcut
  have nG := hR2.nG
  have nC := hR2.nC
  have R1 := hR2.R1
  have R2 := hR2.R2
  have hb := hR2.hb
  have lc1 := own_cap nG (by omega)
  have lc2 := own_cap nC (by omega)
  have zz := hR2.z
  have lg := hR2.lg
  have lc := hR2.lc
  obtain ⟨_, x1, x2⟩ := id A
  obtain ⟨_, y1, y2⟩ := id hR2.Q
  obtain ⟨_, t1, t2⟩ := id hR2.B0
  have s0 : (0 : Int) ≤ (G.length : Int) := by omega
  have s1 : (G.length : Int) ≤ (d1 : Int) := by omega
  have s2 : (0 : Int) ≤ (C.length : Int) := by omega
  have s3 : (C.length : Int) ≤ (d2 : Int) := by omega
  have u1 : Has (wc.setCell ⟨w1.heap.size, 0, none⟩ (.slice (some ⟨g1, 0, none⟩) G.length d1)) w1.heap.size #[.slice (some ⟨g1, 0, none⟩) G.length d1, .slice a2 C.length c2] := by simpa using hR2.Q.set 0 (by simp) (.slice (some ⟨g1, 0, none⟩) G.length d1)
  have u2 := A.far (c := w1.heap.size) (i := 0) (by omega) (.slice (some ⟨g1, 0, none⟩) G.length d1)
  have u3 := hR2.B0.far (c := w1.heap.size) (i := 0) (by omega) (.slice (some ⟨g1, 0, none⟩) G.length d1)
  obtain ⟨_, u11, u12⟩ := id u1
  obtain ⟨_, u21, _⟩ := id u2
  obtain ⟨_, u31, _⟩ := id u3
  go_wp2
  have O : Only (fun q => q = w1.heap.size) wc ((wc.setCell ⟨w1.heap.size, 0, none⟩ (.slice (some ⟨g1, 0, none⟩) G.length d1)).setCell ⟨w1.heap.size, 1, none⟩ (.slice (some ⟨g2, 0, none⟩) C.length d2)) := (only_of_set wc w1.heap.size 0 (.slice (some ⟨g1, 0, none⟩) G.length d1)).trans (only_of_set _ w1.heap.size 1 (.slice (some ⟨g2, 0, none⟩) C.length d2))
  have Q4 : Has ((wc.setCell ⟨w1.heap.size, 0, none⟩ (.slice (some ⟨g1, 0, none⟩) G.length d1)).setCell ⟨w1.heap.size, 1, none⟩ (.slice (some ⟨g2, 0, none⟩) C.length d2)) w1.heap.size #[.slice (some ⟨g1, 0, none⟩) G.length d1, .slice (some ⟨g2, 0, none⟩) C.length d2] := by simpa using u1.set 1 (by simp) (.slice (some ⟨g2, 0, none⟩) C.length d2)
  replace A := A.only O (by omega)
  replace R1 := R1.only O (by omega)
  replace R2 := R2.only O (by omega)
  replace nG := own_only2 nG O (fun q hq hs => by have e : g1 = q := (by injection hq); omega)
  replace nC := own_only2 nC O (fun q hq hs => by have e : g2 = q := (by injection hq); omega)
  replace hb := bel_only hb O (Nat.le_refl _) (fun q hq hs => by omega)
  clear hR2 u1 u2 u3 u11 u12 u21 u31 x1 x2 y1 y2 t1 t2 O
  generalize ((wc.setCell ⟨w1.heap.size, 0, none⟩ (.slice (some ⟨g1, 0, none⟩) G.length d1)).setCell ⟨w1.heap.size, 1, none⟩ (.slice (some ⟨g2, 0, none⟩) C.length d2)) = W4 at *
  obtain ⟨_, y1, y2⟩ := id Q4
  obtain ⟨_, x1, x2⟩ := id A
  obtain ⟨_, v1, v2⟩ := id R1
  obtain ⟨_, t1, t2⟩ := id R2
  go_region
  have O1 : Only (fun q => q = w.heap.size + 1) W4 ((W4.setCell ⟨w.heap.size + 1, 0, none⟩ (.slice (some ⟨g1, 0, none⟩) G.length d1)).setCell ⟨w.heap.size + 1, 1, none⟩ (.slice (some ⟨g2, 0, none⟩) C.length d2)) := (only_of_set W4 (w.heap.size + 1) 0 (.slice (some ⟨g1, 0, none⟩) G.length d1)).trans (only_of_set _ (w.heap.size + 1) 1 (.slice (some ⟨g2, 0, none⟩) C.length d2))
  have O2 : Only (fun q => q = w.heap.size + 1 + 1) ((W4.setCell ⟨w.heap.size + 1, 0, none⟩ (.slice (some ⟨g1, 0, none⟩) G.length d1)).setCell ⟨w.heap.size + 1, 1, none⟩ (.slice (some ⟨g2, 0, none⟩) C.length d2)) ((((((W4.setCell ⟨w.heap.size + 1, 0, none⟩ (.slice (some ⟨g1, 0, none⟩) G.length d1)).setCell ⟨w.heap.size + 1, 1, none⟩ (.slice (some ⟨g2, 0, none⟩) C.length d2)).setCell ⟨w.heap.size + 1 + 1, 0, none⟩ (.slice (some ⟨g1, 0, none⟩) (G.length + 2) d1)).setCell ⟨w.heap.size + 1 + 1, 1, none⟩ (.slice (some ⟨g2, 0, none⟩) (C.length + 2) d2)).setCell ⟨w.heap.size + 1 + 1, 2, none⟩ (.slice none 0 0)).setCell ⟨w.heap.size + 1 + 1, 3, none⟩ (.slice none 0 0)) := only4 _ _ _ _ _ _
  have K1 : Has ((W4.setCell ⟨w.heap.size + 1, 0, none⟩ (.slice (some ⟨g1, 0, none⟩) G.length d1)).setCell ⟨w.heap.size + 1, 1, none⟩ (.slice (some ⟨g2, 0, none⟩) C.length d2)) (w.heap.size + 1) #[.slice (some ⟨g1, 0, none⟩) G.length d1, .slice (some ⟨g2, 0, none⟩) C.length d2] := by simpa using (R1.set 0 (by simp) (.slice (some ⟨g1, 0, none⟩) G.length d1)).set 1 (by simp) (.slice (some ⟨g2, 0, none⟩) C.length d2)
  have K2 : Has ((((((W4.setCell ⟨w.heap.size + 1, 0, none⟩ (.slice (some ⟨g1, 0, none⟩) G.length d1)).setCell ⟨w.heap.size + 1, 1, none⟩ (.slice (some ⟨g2, 0, none⟩) C.length d2)).setCell ⟨w.heap.size + 1 + 1, 0, none⟩ (.slice (some ⟨g1, 0, none⟩) (G.length + 2) d1)).setCell ⟨w.heap.size + 1 + 1, 1, none⟩ (.slice (some ⟨g2, 0, none⟩) (C.length + 2) d2)).setCell ⟨w.heap.size + 1 + 1, 2, none⟩ (.slice none 0 0)).setCell ⟨w.heap.size + 1 + 1, 3, none⟩ (.slice none 0 0)) (w.heap.size + 1 + 1) #[.slice (some ⟨g1, 0, none⟩) (G.length + 2) d1, .slice (some ⟨g2, 0, none⟩) (C.length + 2) d2, .slice none 0 0, .slice none 0 0] := (R2.only O1 (by omega)).set4 _ _ _ _
  replace K1 := (K1.only O2 (by omega)).drew
  replace K2 := K2.drew
  replace nG := (own_only2 (own_only2 nG O1 (fun q hq hs => by have e : g1 = q := (by injection hq); omega)) O2 (fun q hq hs => by have e : g1 = q := (by injection hq); omega)).drew
  replace nC := (own_only2 (own_only2 nC O1 (fun q hq hs => by have e : g2 = q := (by injection hq); omega)) O2 (fun q hq hs => by have e : g2 = q := (by injection hq); omega)).drew
  replace hb := (bel_only (bel_only hb O1 (Nat.le_refl _) (fun q hq hs => by omega)) O2 (Nat.le_refl _) (fun q hq hs => by omega)).drew
  clear O1 O2 y1 y2 x1 x2 v1 v2 t1 t2 R1 R2 A Q4
  generalize ((((((W4.setCell ⟨w.heap.size + 1, 0, none⟩ (.slice (some ⟨g1, 0, none⟩) G.length d1)).setCell ⟨w.heap.size + 1, 1, none⟩ (.slice (some ⟨g2, 0, none⟩) C.length d2)).setCell ⟨w.heap.size + 1 + 1, 0, none⟩ (.slice (some ⟨g1, 0, none⟩) (G.length + 2) d1)).setCell ⟨w.heap.size + 1 + 1, 1, none⟩ (.slice (some ⟨g2, 0, none⟩) (C.length + 2) d2)).setCell ⟨w.heap.size + 1 + 1, 2, none⟩ (.slice none 0 0)).setCell ⟨w.heap.size + 1 + 1, 3, none⟩ (.slice none 0 0)).drew = F at *
  obtain ⟨_, k1, _⟩ := id K1
  obtain ⟨_, k2, _⟩ := id K2
  go_wp2
  exact bodyPost_ret (v := .tuple #[.agg #[.slice (some ⟨g1, 0, none⟩) G.length d1, .slice (some ⟨g2, 0, none⟩) C.length d2], .agg #[.slice (some ⟨g1, 0, none⟩) (G.length + 2) d1, .slice (some ⟨g2, 0, none⟩) (C.length + 2) d2, .slice none 0 0, .slice none 0 0]]) (by simp [results, Tryz.results51, go_sem, k1, k2]) rfl ⟨⟨g1, d1, g2, d2, rfl, own_base nG (by omega), own_base nC (by omega)⟩, hb⟩
end Go.Proofs.YtnicolaphmffkaaGreatDoor
