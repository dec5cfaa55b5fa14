import Derived.Test.YtiaklfjpmmifjaaHoB
import Derived.Test.YtiaklfjpmmifjaaClB
import Derived.Test.YtiaklfjpmmifjaaIntB
namespace Go.Proofs.Ytiaklfjpmmifjaa
open Go.RowKit
set_option linter.unusedVariables false


/-- How long group g waits for the group x, which is number o. -/
def waitV (x : Gp) (C : List Cf) (o g : Int) : Int := if (interF C o g).2 = true then (if x.amber > (interF C o g).1 then x.amber else (interF C o g).1) else 0
/-- What gridB says of an intergreen. -/
theorem inter_in {n : Nat} : ∀ (C : List Cf) (p : Option Cf) (a b : Int), rowsB n p C = true → 0 ≤ (interF C a b).1 ∧ (interF C a b).1 ≤ 3600
  | [], _, _, _, _ => by simp [interF]
  | c :: cs, p, a, b, h => by
    simp [rowsB, cfB, timeB] at h
    have ih := inter_in cs (some c) a b h.2
    unfold interF
    split
    · simp; omega
    · split
      · simp; omega
      · exact ih
theorem wait_in {G : List Gp} {C : List Cf} (h : gridB G C = true) (k : Nat) (hk : k < G.length) (o g : Int) : 0 ≤ waitV G[k] C o g ∧ waitV G[k] C o g ≤ 3600 := by
  have h1 := grid_min h k hk
  have h2 : rowsB G.length none C = true := by simp [gridB] at h; exact h.2.2
  have h3 := inter_in C none o g h2
  unfold waitV
  split
  · split <;> omega
  · omega
set_option maxRecDepth 100000 in
set_option maxHeartbeats 4000000 in
theorem wait_any (G : List Gp) (C : List Cf) (vg vc : Value) (o : Nat) (b : Int) (w : World) (h1 : Fl 5 Gp.cs w vg G) (h2 : Fl 4 Cf.cs w vc C) (lC : C.length ≤ 4398046511000) (ho : o < G.length) :
    Calls Try.prog 39 #[.agg #[vg, vc], .int .i64 (o : Int), .int .i64 b] w fun e w' => e = .returned (.int .i64 (waitV G[o] C (o : Int) b)) ∧ Below w.heap.size w w' := by
  have hI := fun (W : World) (hW : Below w.heap.size w W) => refInter_any C vg vc (o : Int) b W (h2.below hW) lC
  obtain ⟨va, cg, rfl, kG⟩ := h1.any
  obtain ⟨g, of, rfl, hg, P⟩ := kG.resolve_left (by intro e; rw [e] at ho; simp at ho)
  have P3 : ∀ W : World, Below w.heap.size w W → W.cell? ⟨g, of + o * 5 + 3, none⟩ = some (.int .i64 G[o].amber) := fun W h => (h.cell (p := ⟨g, _, none⟩) hg).trans (P o ho 3 _ rfl)
  have t1 : (o : Int) < (G.length : Int) := by omega
  have t0 : (0 : Int) ≤ (o : Int) := by omega
  unfold waitV
  generalize interF C (o : Int) b = A at *
  obtain ⟨An, Ab⟩ := A
  simp only at *
  generalize G[o].amber = am at *
  clear kG P h1 h2
  cases Ab with
  | false =>
    go_enter Try.func39, Try.ntmps39
    go_wp2_with (go_at_call 9; (with_reducible refine Calls.mono (hI _ (by exact belN1)) ?_); rintro e w1 ⟨rfl, hb1⟩; have hbM := bel_after belN1 (by simp) hb1; clear hb1)
    go_ret
    exact ⟨by simp, hbM⟩
  | true =>
    by_cases h : am > An
    · go_enter Try.func39, Try.ntmps39
      go_wp2_with (go_at_call 9; (with_reducible refine Calls.mono (hI _ (by exact belN1)) ?_); rintro e w1 ⟨rfl, hb1⟩; have B1 : Has w1 w.heap.size #[.slice (some ⟨g, of, none⟩) G.length cg, vc] := (Has.new w _ _ rfl).below hb1; have hbM := bel_after belN1 (by simp) hb1; have q3 := P3 _ hbM; obtain ⟨_, y1, _⟩ := id B1; clear hb1)
      go_ret
      exact ⟨by first | rfl | exact ret_int (if_pos h).symm | simp, hbM⟩
    · go_enter Try.func39, Try.ntmps39
      go_wp2_with (go_at_call 9; (with_reducible refine Calls.mono (hI _ (by exact belN1)) ?_); rintro e w1 ⟨rfl, hb1⟩; have B1 : Has w1 w.heap.size #[.slice (some ⟨g, of, none⟩) G.length cg, vc] := (Has.new w _ _ rfl).below hb1; have hbM := bel_after belN1 (by simp) hb1; have q3 := P3 _ hbM; obtain ⟨_, y1, _⟩ := id B1; clear hb1)
      go_ret
      exact ⟨by first | rfl | exact ret_int (if_neg h).symm | simp, hbM⟩
set_option maxRecDepth 100000 in
set_option maxHeartbeats 4000000 in
theorem clashes2_any (n : Nat) (C : List Cf) (va : Option Addr) (cap : Nat) (vc : Value) (F T : Nat) (w : World) (hF : F < 18446744073709551616) (hT : T < 18446744073709551616) (hn : n ≤ 2932031007317) (h2 : Fl 4 Cf.cs w vc C) (lC : C.length ≤ 4398046511000) (ok : ∀ (i : Nat) (h : i < C.length), C[i].ok) :
    Calls Try.prog 31 #[.agg #[.slice va n cap, vc], .int .u64 (F : Int), .int .u64 (T : Int)] w fun e w' => e = .returned (.bool ((clashF n F C).2.2 || (clashF n T C).2.2)) ∧ Below w.heap.size w w' := by
  have h1 := fun (W : World) (hW : Below w.heap.size w W) => refClash_any n F C va cap vc W hF hn (h2.below hW) lC ok
  have h3 := fun (W : World) (hW : Below w.heap.size w W) => refClash_any n T C va cap vc W hT hn (h2.below hW) lC ok
  generalize clashF n F C = A at *
  generalize clashF n T C = B at *
  obtain ⟨a1, a2, a3⟩ := A
  obtain ⟨b1, b2, b3⟩ := B
  simp only at *
  cases a3 <;> cases b3
  all_goals
    go_enter Try.func31, Try.ntmps31
    go_wp2_with (first
      | (go_at_call 13; (with_reducible refine Calls.mono (h1 _ (by exact belN1)) ?_); rintro e w1 ⟨rfl, hb1⟩; have B1 : Has w1 w.heap.size #[.slice va n cap, vc] := (Has.new w _ _ rfl).below hb1; have hbM := bel_after belN1 (by simp) hb1; obtain ⟨_, y1, _⟩ := id B1; clear hb1)
      | (go_at_call 13; (with_reducible refine Calls.mono (h3 _ (by exact hbM)) ?_); rintro e w2 ⟨rfl, hb2⟩; have hbK := bel_after hbM hbM.size hb2; clear hb2))
    go_ret
    exact ⟨rfl, hbK⟩
end Go.Proofs.Ytiaklfjpmmifjaa
