import Derived.Test.YtiaklfjpmmifjaaWtB
namespace Go.Proofs.Ytiaklfjpmmifjaa
open Go.RowKit Go.Maps Go.WideMaps
set_option linter.unusedVariables false
theorem row37 : 37 < Try.prog.types.size := of_decide_eq_true (by kernel_rfl)
theorem size37 : (Try.prog.types[37]'row37).size = 1 := by kernel_rfl
def measV (G : List Gp) (C : List Cf) (F T A : Nat) : Int × Int := if gridB G C = true then (if ((clashF G.length F C).2.2 || (clashF G.length T C).2.2) = true then (0, 60) else (thF F T (fun i => wA C A (i : Int) G 0 0) G 0 0, 0)) else (0, 70)
set_option maxRecDepth 100000 in
set_option maxHeartbeats 4000000 in
theorem measure_any (G : List Gp) (C : List Cf) (vg vc : Value) (F T A : Nat) (w : World) (hF : F < 18446744073709551616) (hT : T < 18446744073709551616) (hA : A < 18446744073709551616) (h1 : Fl 5 Gp.cs w vg G) (h2 : Fl 4 Cf.cs w vc C) (lG : G.length ≤ 2932031007317) (lC : C.length ≤ 4398046511000) (ok : ∀ (i : Nat) (h : i < C.length), C[i].ok) :
    Calls Try.prog 29 #[.agg #[vg, vc], .int .u64 (F : Int), .int .u64 (T : Int), .int .u64 (A : Int)] w fun e w' => e = .returned (.tuple #[.int .i64 (measV G C F T A).1, .int .i64 (measV G C F T A).2]) ∧ Below w.heap.size w w' := by
  have hGr := fun (W : World) (hW : Below w.heap.size w W) => grid_any G C vg vc W (h1.below hW) (h2.below hW) lG lC
  obtain ⟨va, cg, rfl, -⟩ := h1.any
  have hC1 := fun (W : World) (hW : Below w.heap.size w W) => clash_any G.length F C va cg vc W hF lG (h2.below hW) lC ok
  have hC2 := fun (W : World) (hW : Below w.heap.size w W) => clash_any G.length T C va cg vc W hT lG (h2.below hW) lC ok
  have hSt := fun (W : World) (hW : Below w.heap.size w W) => streetOf_any C (.slice va G.length cg) vc W (h2.below hW) lC ok ⟨_, _, _, rfl⟩
  have hWt := fun (gr : gridB G C = true) (mb : Nat) (W : World) (hW : Below w.heap.size w W) hm hmb => waitsFor_any G C (.slice va G.length cg) mb A W hA (h1.below hW) lG lC gr ok hm hmb
  have hTh := fun (gr : gridB G C = true) (vm : Value) (aw : Option Addr) (cw : Nat) (W : World) (hW : Below w.heap.size w W) hws => through_any G (.slice va G.length cg) vm F T (fun i => wA C A (i : Int) G 0 0) aw cw W hF hT (h1.below hW) lG (fun k hk => (grid_min gr k hk).2.2) hws
  clear h1 h2 ok
  generalize eV : measV G C F T A = M
  unfold measV at eV
  cases eg : gridB G C with
  | false =>
    rw [eg] at hGr eV
    simp at eV
    subst eV
    clear hC1 hC2 hSt hWt hTh eg
    go_enter Try.func29, Try.ntmps29
    go_wp2_with (go_at_call 30; (with_reducible refine Calls.mono (hGr _ (by exact belN1)) ?_); rintro e w1 ⟨rfl, hb1⟩; have hbM := bel_after belN1 (by simp) hb1; clear hb1)
    exact bodyPost_ret (v := .tuple #[.int .i64 0, .int .i64 70]) (by simp [results, Try.results29, go_sem]) rfl ⟨rfl, hbM⟩
  | true =>
    replace hWt := hWt eg
    replace hTh := hTh eg
    rw [eg] at hGr eV
    clear eg
    generalize clashF G.length F C = X1 at *
    generalize clashF G.length T C = X2 at *
    obtain ⟨p1, p2, p3⟩ := X1
    obtain ⟨q1, q2, q3⟩ := X2
    simp only [if_true] at *
    generalize thF F T (fun i => wA C A (i : Int) G 0 0) G 0 0 = Z at *
    go_enter Try.func29, Try.ntmps29
    go_wp2_with (go_at_call 30; (with_reducible refine Calls.mono (hGr _ (by exact belN1)) ?_); rintro e w1 ⟨rfl, hb1⟩; have B1 : Has w1 w.heap.size #[.slice va G.length cg, vc] := (Has.new w _ _ rfl).below hb1; have hbM := bel_after belN1 (by simp) hb1; clear hb1)
    have x0 : ∀ W : World, (Instr.index 69 (.agg #[.int .u64 (F : Int), .int .u64 (T : Int)]) (.int .i64 0)).run Try.prog W = .ok (.int .u64 (F : Int)) W := fun W => by first | rfl | (simp [Instr.index, go_sem, Try.underlying69, size37]; done) | (simp [Instr.index, go_sem]; rfl)
    have x1 : ∀ W : World, (Instr.index 69 (.agg #[.int .u64 (F : Int), .int .u64 (T : Int)]) (.int .i64 1)).run Try.prog W = .ok (.int .u64 (T : Int)) W := fun W => by first | rfl | (simp [Instr.index, go_sem, Try.underlying69, size37]; done) | (simp [Instr.index, go_sem]; rfl)
    go_loopw [22] (fun t wr => ∃ k : Nat, k ≤ 2 ∧ t = .int .i64 (k : Int) ∧ Hid (1 ≤ k → p3 = false) ∧ Hid (2 ≤ k → q3 = false) ∧ Hid (Has wr w.heap.size #[.slice va G.length cg, vc]) ∧ Hid (Below w.heap.size w wr)) (fun t _ => 2 - (intOf t).toNat)
    case atStart => exact ⟨0, by omega, rfl, fun h => absurd h (by omega), fun h => absurd h (by omega), B1, hbM⟩
    case round =>
      clear B1 hbM hGr
      obtain ⟨k, hk, rfl, hp, hq, B, hb⟩ := hrel
      obtain ⟨_, b1, _⟩ := id B.out
      obtain rfl | rfl | rfl : k = 0 ∨ k = 1 ∨ k = 2 := by omega
      · cases p3 with
        | true =>
          simp at eV
          subst eV
          go_wp2_with (go_at_call 12; (with_reducible refine Calls.mono (hC1 _ hb.out) ?_); rintro e w2 ⟨rfl, hb2⟩; have hbK := bel_after hb.out hb.out.size hb2; clear hb2)
          exact bodyPost_ret (v := .tuple #[.int .i64 0, .int .i64 60]) (by simp [results, Try.results29, go_sem]) rfl ⟨rfl, hbK⟩
        | false =>
          go_wp2_with (go_at_call 12; (with_reducible refine Calls.mono (hC1 _ hb.out) ?_); rintro e w2 ⟨rfl, hb2⟩; have B2 := B.out.below hb2; have hbK := bel_after hb.out hb.out.size hb2; clear hb2)
          go_roundw
          case rel => exact ⟨1, by omega, by go_num, fun _ => by first | rfl | trivial, fun h => absurd h (by omega), B2, hbK⟩
          case measure => simp [intOf]
      · have hp' := hp.out (by omega)
        subst hp'
        cases q3 with
        | true =>
          simp at eV
          subst eV
          go_wp2_with (go_at_call 12; (with_reducible refine Calls.mono (hC2 _ hb.out) ?_); rintro e w2 ⟨rfl, hb2⟩; have hbK := bel_after hb.out hb.out.size hb2; clear hb2)
          exact bodyPost_ret (v := .tuple #[.int .i64 0, .int .i64 60]) (by simp [results, Try.results29, go_sem]) rfl ⟨rfl, hbK⟩
        | false =>
          go_wp2_with (go_at_call 12; (with_reducible refine Calls.mono (hC2 _ hb.out) ?_); rintro e w2 ⟨rfl, hb2⟩; have B2 := B.out.below hb2; have hbK := bel_after hb.out hb.out.size hb2; clear hb2)
          go_roundw
          case rel => exact ⟨2, by omega, by go_num, fun _ => by first | rfl | trivial, fun _ => by first | rfl | trivial, B2, hbK⟩
          case measure => simp [intOf]
      · have hp' := hp.out (by omega)
        have hq' := hq.out (by omega)
        subst hp' hq'
        simp at eV
        subst eV
        go_wp2_with (go_at_call 33; (with_reducible refine Calls.mono (hSt _ hb.out) ?_); rintro e w2 ⟨⟨mb, rfl, hm, hm1, hm2⟩, hb2⟩; have hbK := bel_after hb.out hb.out.size hb2; clear hb2)
        have K0 : Has (w2.alloc (.cells #[.slice va G.length cg, .map (some mb)] 72)) w2.heap.size #[.slice va G.length cg, .map (some mb)] := Has.new _ _ _ rfl
        have hm3 := (hm.alloc (.cells #[.slice va G.length cg, .map (some mb)] 72)).drew
        have hbL : Below w.heap.size w (w2.alloc (.cells #[.slice va G.length cg, .map (some mb)] 72)) := hbK.alloc hbK.size _
        have z3 : mb < (w2.alloc (.cells #[.slice va G.length cg, .map (some mb)] 72)).heap.size := by simp; omega
        generalize (w2.alloc (.cells #[.slice va G.length cg, .map (some mb)] 72)) = W3 at *
        have K0d := K0.drew
        have hbLd := hbL.drew
        go_region_held3 (fun w' => w'.cell? ⟨w2.heap.size, 0, none⟩ = some (.slice va G.length cg) ∧ w'.cell? ⟨w2.heap.size, 1, none⟩ = some (.map (some mb))) (first | with_reducible exact has2b K0d | with_reducible exact has2b K4 | with_reducible exact has2b K5 | with_reducible exact has2b K0) (first
          | (go_at_call 35; (refine Calls.mono (hWt mb _ hbLd hm3 (by exact z3)) ?_); rintro e w4 ⟨⟨aw, cw, rfl, hws⟩, hb4⟩; have K4 := K0d.below hb4; have hbN := bel_after hbLd hbLd.size hb4; clear hb4)
          | (go_at_call 34; (with_reducible refine Calls.mono (hTh _ aw cw _ hbN (hws.imp id (fun ⟨gw, h1, h2, h3⟩ => ⟨gw, h1, h2, h3⟩))) ?_); rintro e w5 ⟨rfl, hb5⟩; have K5 := K4.below hb5; have hbO := bel_after hbN hbN.size hb5; clear hb5))
        go_wp2
        exact bodyPost_ret (v := .tuple #[.int .i64 Z, .int .i64 0]) (by simp [results, Try.results29, go_sem]) rfl ⟨rfl, hbO⟩
end Go.Proofs.Ytiaklfjpmmifjaa
