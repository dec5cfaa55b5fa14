import Derived.Test.YtnicolaphmffkaaGreatDoorMbA
namespace Go.Proofs.YtnicolaphmffkaaGreatDoor
open Go.RowKit
set_option linter.unusedVariables false

/-- How long group g waits for the group x, which is number o. -/
def waitV (x : Gp) (C : List Cf) (o g : Int) : Int := if (interF C o g).2 = true then (if x.amber > (interF C o g).1 then x.amber else (interF C o g).1) else 0
/-- What gridB says of an intergreen. -/
theorem inter_in {n : Nat} : ∀ (C : List Cf) (p : Option Cf) (a b : Int), rowsB n p C = true → 0 ≤ (interF C a b).1 ∧ (interF C a b).1 ≤ 3600
 | [], _, _, _, _ => by simp [interF]
 | c :: cs, p, a, b, h => by
   simp [rowsB, cfB, timeB] at h
   have ih := inter_in cs (some c) a b h.2
   unfold interF
   split
   ·simp; omega
   ·split
    ·simp; omega
    ·exact ih
theorem wait_in {G : List Gp} {C : List Cf} (h : gridB G C = true) (k : Nat) (hk : k < G.length) (o g : Int) : 0 ≤ waitV G[k] C o g ∧ waitV G[k] C o g ≤ 3600 := by
 have h1 := grid_min h k hk
 have h2 : rowsB G.length none C = true := by simp [gridB] at h; exact h.2.2
 have h3 := inter_in C none o g h2
 unfold waitV
 split
 ·split <;> omega
 ·omega
set_option maxRecDepth 100000 in
set_option maxHeartbeats 4000000 in
theorem wait_any (G : List Gp) (C : List Cf) (vg vc : Value) (o : Nat) (b : Int) (w : World) (h1 : Fl 5 Gp.cs w vg G) (h2 : Fl 4 Cf.cs w vc C) (lC : C.length ≤ 4398046511000) (ho : o < G.length) :
  Calls Tryz.prog 111 #[.agg #[vg, vc], .int .i64 (o : Int), .int .i64 b] w fun e w' => e = .returned (.int .i64 (waitV G[o] C (o : Int) b)) ∧ Below w.heap.size w w' := by
 have hI := fun (W : World) (hW : Below w.heap.size w W) => refInter_any C vg vc (o : Int) b W (h2.below hW) lC
 obtain ⟨va, cg, rfl, kG⟩ := h1.any
 obtain ⟨g, of, rfl, hg, P⟩ := kG.resolve_left (by intro e; rw [e] at ho; simp at ho)
 have P3 : ∀ W : World, Below w.heap.size w W → W.cell? ⟨g, of + o * 5 + 3, none⟩ = some (.int .i64 G[o].amber) := fun W h => (h.cell (p := ⟨g, _, none⟩) hg).trans (P o ho 3 _ rfl)
 have t1 : (o : Int) < (G.length : Int) := by omega
 have t0 : (0 : Int) ≤ (o : Int) := by omega
 unfold waitV
 generalize interF C (o : Int) b = A at *
 obtain ⟨An, Ab⟩ := A
 simp only at *
 generalize G[o].amber = am at *
 clear kG P h1 h2
 cases Ab with
 | false =>
   go_enter Tryz.func111, Tryz.ntmps111
   go_wp2_with (go_at_call 118; (with_reducible refine Calls.mono (hI _ (by exact belN1)) ?_); rintro e w1 ⟨rfl, hb1⟩; have hbM := bel_after belN1 (by simp) hb1; clear hb1)
   go_ret
   exact ⟨by simp, hbM⟩
 | true =>
   by_cases h : am > An
   ·go_enter Tryz.func111, Tryz.ntmps111
    go_wp2_with (go_at_call 118; (with_reducible refine Calls.mono (hI _ (by exact belN1)) ?_); rintro e w1 ⟨rfl, hb1⟩; have B1 : Has w1 w.heap.size #[.slice (some ⟨g, of, none⟩) G.length cg, vc] := (Has.new w _ _ rfl).below hb1; have hbM := bel_after belN1 (by simp) hb1; have q3 := P3 _ hbM; obtain ⟨_, y1, _⟩ := id B1; clear hb1)
    go_ret
    exact ⟨by first | rfl | exact ret_int (if_pos h).symm | simp, hbM⟩
   ·go_enter Tryz.func111, Tryz.ntmps111
    go_wp2_with (go_at_call 118; (with_reducible refine Calls.mono (hI _ (by exact belN1)) ?_); rintro e w1 ⟨rfl, hb1⟩; have B1 : Has w1 w.heap.size #[.slice (some ⟨g, of, none⟩) G.length cg, vc] := (Has.new w _ _ rfl).below hb1; have hbM := bel_after belN1 (by simp) hb1; have q3 := P3 _ hbM; obtain ⟨_, y1, _⟩ := id B1; clear hb1)
    go_ret
    exact ⟨by first | rfl | exact ret_int (if_neg h).symm | simp, hbM⟩
set_option maxRecDepth 100000 in
set_option maxHeartbeats 4000000 in
theorem clashes2_any (n : Nat) (C : List Cf) (va : Option Addr) (cap : Nat) (vc : Value) (F T : Nat) (w : World) (hF : F < 18446744073709551616) (hT : T < 18446744073709551616) (hn : n ≤ 2932031007317) (h2 : Fl 4 Cf.cs w vc C) (lC : C.length ≤ 4398046511000) (ok : ∀ (i : Nat) (h : i < C.length), C[i].ok) :
  Calls Tryz.prog 93 #[.agg #[.slice va n cap, vc], .int .u64 (F : Int), .int .u64 (T : Int)] w fun e w' => e = .returned (.bool ((clashF n F C).2.2 || (clashF n T C).2.2)) ∧ Below w.heap.size w w' := by
 have h1 := fun (W : World) (hW : Below w.heap.size w W) => refClash_any n F C va cap vc W hF hn (h2.below hW) lC ok
 have h3 := fun (W : World) (hW : Below w.heap.size w W) => refClash_any n T C va cap vc W hT hn (h2.below hW) lC ok
 generalize clashF n F C = A at *
 generalize clashF n T C = B at *
 obtain ⟨a1, a2, a3⟩ := A
 obtain ⟨b1, b2, b3⟩ := B
 simp only at *
 cases a3 <;> cases b3
 all_goals
  go_enter Tryz.func93, Tryz.ntmps93
  go_wp2_with (first
   | (go_at_call 109; (with_reducible refine Calls.mono (h1 _ (by exact belN1)) ?_); rintro e w1 ⟨rfl, hb1⟩; have B1 : Has w1 w.heap.size #[.slice va n cap, vc] := (Has.new w _ _ rfl).below hb1; have hbM := bel_after belN1 (by simp) hb1; obtain ⟨_, y1, _⟩ := id B1; clear hb1)
   | (go_at_call 109; (with_reducible refine Calls.mono (h3 _ (by exact hbM)) ?_); rintro e w2 ⟨rfl, hb2⟩; have hbK := bel_after hbM hbM.size hb2; clear hb2))
  go_ret
  exact ⟨rfl, hbK⟩
open Go.RowKit
set_option linter.unusedVariables false

def wF (C : List Cf) (F T : Nat) (all : Bool) (g : Int) : List Gp → Nat → Int → Int
 | [], _, w => w
 | x :: xs, o, w => wF C F T all g xs (o + 1) (if (all || loses F T o) = true then (if w < waitV x C (o : Int) g then waitV x C (o : Int) g else w) else w)
theorem wF_step (C : List Cf) (F T : Nat) (all : Bool) (g : Int) (G : List Gp) (o : Nat) (w : Int) (h : o < G.length) : wF C F T all g (G.drop o) o w = wF C F T all g (G.drop (o + 1)) (o + 1) (if (all || loses F T o) = true then (if w < waitV G[o] C (o : Int) g then waitV G[o] C (o : Int) g else w) else w) := by
 rw [List.drop_eq_getElem_cons h]; rfl
theorem wF_end (C : List Cf) (F T : Nat) (all : Bool) (g : Int) (G : List Gp) (o : Nat) (w : Int) (h : G.length ≤ o) : wF C F T all g (G.drop o) o w = w := by
 rw [List.drop_eq_nil_of_le h]; rfl
/-- The tick at which group k is through. -/
def atV (G : List Gp) (C : List Cf) (F T : Nat) (all : Bool) (x : Gp) (k : Nat) : Int := if loses T F k = true then 1 + wF C F T all (k : Int) G 0 0 + x.lead else if loses F T k = true then 1 + x.amber else 0
def mvF (G : List Gp) (C : List Cf) (F T : Nat) (all : Bool) : List Gp → Nat → Int → Int
 | [], _, n => n
 | x :: xs, k, n => mvF G C F T all xs (k + 1) (if n < atV G C F T all x k then atV G C F T all x k else n)
theorem mvF_step (G : List Gp) (C : List Cf) (F T : Nat) (all : Bool) (k : Nat) (n : Int) (h : k < G.length) : mvF G C F T all (G.drop k) k n = mvF G C F T all (G.drop (k + 1)) (k + 1) (if n < atV G C F T all G[k] k then atV G C F T all G[k] k else n) := by
 rw [List.drop_eq_getElem_cons h]; rfl
theorem mvF_end (G : List Gp) (C : List Cf) (F T : Nat) (all : Bool) (k : Nat) (n : Int) (h : G.length ≤ k) : mvF G C F T all (G.drop k) k n = n := by
 rw [List.drop_eq_nil_of_le h]; rfl
set_option maxRecDepth 100000 in
set_option maxHeartbeats 8000000 in
theorem move_any (G : List Gp) (C : List Cf) (vg vc : Value) (F T : Nat) (all : Bool) (w : World) (hF : F < 18446744073709551616) (hT : T < 18446744073709551616) (h1 : Fl 5 Gp.cs w vg G) (h2 : Fl 4 Cf.cs w vc C) (lG : G.length ≤ 2932031007317) (lC : C.length ≤ 4398046511000) (gr : gridB G C = true) :
  Calls Tryz.prog 94 #[.agg #[vg, vc], .int .u64 (F : Int), .int .u64 (T : Int), .bool all] w fun e w' => e = .returned (.int .i64 (mvF G C F T all G 0 0)) ∧ Below w.heap.size w w' := by
 have hWt := fun (o : Nat) (b : Int) (ho : o < G.length) (W : World) (hW : Below w.heap.size w W) => wait_any G C vg vc o b W (h1.below hW) (h2.below hW) lC ho
 have hWi := fun (o : Nat) (b : Int) (ho : o < G.length) => wait_in gr o ho (o : Int) b
 have mins := fun k hk => grid_min gr k hk
 obtain ⟨va, cg, rfl, kG⟩ := h1.any
 clear h1 h2 gr
 generalize hA : mvF G C F T all G 0 0 = A
 have hb0 : Below w.heap.size w (w.alloc (.cells #[.slice va G.length cg, vc] 25)) := belN1
 have B0 : Has (w.alloc (.cells #[.slice va G.length cg, vc] 25)) w.heap.size #[.slice va G.length cg, vc] := Has.new _ _ _ rfl
 go_enter Tryz.func94, Tryz.ntmps94
 go_wp2
 generalize (w.alloc (.cells #[.slice va G.length cg, vc] 25)) = W0 at *
 go_loopw [9, 10] (fun tn tk wr => ∃ (k : Nat) (n : Int), k ≤ G.length ∧ tk = .int .i64 (k : Int) ∧ tn = .int .i64 n ∧ Hid (mvF G C F T all (G.drop k) k n = A) ∧ Hid (Has wr w.heap.size #[.slice va G.length cg, vc]) ∧ Hid (Below w.heap.size w wr)) (fun _ tk _ => G.length - (intOf tk).toNat)
 case atStart => exact ⟨0, 0, by omega, rfl, rfl, hA, B0, hb0⟩
 case round =>
  clear B0 hb0 hA
  obtain ⟨k, n, hkl, rfl, rfl, hs, B, hb⟩ := hrel
  obtain ⟨_, b1, _⟩ := id B.out
  by_cases hlt : k < G.length
  ·obtain ⟨g, of, rfl, hg, P⟩ := kG.resolve_left (by intro e; rw [e] at hlt; simp at hlt)
   have P3 : ∀ W : World, Below w.heap.size w W → W.cell? ⟨g, of + k * 5 + 3, none⟩ = some (.int .i64 G[k].amber) := fun W h => (h.cell (p := ⟨g, _, none⟩) hg).trans (P k hlt 3 _ rfl)
   have P4 : ∀ W : World, Below w.heap.size w W → W.cell? ⟨g, of + k * 5 + 4, none⟩ = some (.int .i64 G[k].lead) := fun W h => (h.cell (p := ⟨g, _, none⟩) hg).trans (P k hlt 4 _ rfl)
   have p3 := P3 _ hb.out
   have hs' := hs.out
   rw [mvF_step G C F T all k n hlt] at hs'
   have mn := mins k hlt
   have t1 : (k : Int) < (G.length : Int) := by omega
   have t0 : (0 : Int) ≤ (k : Int) := by omega
   have t2 : k + 1 ≤ G.length := hlt
   have hH1 := fun (W : World) => hasR_any F (k : Int) W hF (by omega)
   have hH2 := fun (W : World) => hasR_any T (k : Int) W hT (by omega)
   clear P kG hs mins
   unfold atV at hs'
   generalize G[k].amber = am at *
   generalize G[k].lead = le at *
   have wa : IntKind.i64.wrap (1 + am) = 1 + am := wrap64 _ (by omega)
   cases ef : hasN F (k : Int) with
   | true =>
     rw [ef] at hH1
     cases et : hasN T (k : Int) with
     | true =>
       rw [et] at hH2
       have e1 : loses F T k = false := by simp [loses, ef, et]
       have e2 : loses T F k = false := by simp [loses, ef, et]
       have hs2 : Hid (mvF G C F T all (G.drop (k + 1)) (k + 1) (if n < 0 then 0 else n) = A) := by show _ = _; rw [← hs', e1, e2]; simp
       rw [mxI] at hs2
       clear hs' e1 e2 ef et hWt hWi P3 P4
       go_wp2_with (first | (go_at_call 110; (with_reducible refine Calls.mono (hH1 _) ?_); rintro e w2 ⟨rfl, rfl⟩) | (go_at_call 110; (with_reducible refine Calls.mono (hH2 _) ?_); rintro e w2 ⟨rfl, rfl⟩))
       go_roundw
       case rel => exact ⟨k + 1, _, by omega, by go_num, rfl, hs2, B, hb⟩
       case measure => simp [intOf]; omega
     | false =>
       rw [et] at hH2
       have e1 : loses F T k = true := by simp [loses, ef, et]
       have e2 : loses T F k = false := by simp [loses, ef, et]
       have hs2 : Hid (mvF G C F T all (G.drop (k + 1)) (k + 1) (if n < 1 + am then 1 + am else n) = A) := by show _ = _; rw [← hs', e1, e2]; simp
       rw [mxI] at hs2
       clear hs' e1 e2 ef et hWt hWi P3 P4
       go_wp2_with (first | (go_at_call 110; (with_reducible refine Calls.mono (hH1 _) ?_); rintro e w2 ⟨rfl, rfl⟩) | (go_at_call 110; (with_reducible refine Calls.mono (hH2 _) ?_); rintro e w2 ⟨rfl, rfl⟩))
       go_roundw
       case rel => exact ⟨k + 1, _, by omega, by go_num, rfl, hs2, B, hb⟩
       case measure => simp [intOf]; omega
   | false =>
     rw [ef] at hH1
     cases et : hasN T (k : Int) with
     | false =>
       rw [et] at hH2
       have e1 : loses F T k = false := by simp [loses, ef]
       have e2 : loses T F k = false := by simp [loses, et]
       have hs2 : Hid (mvF G C F T all (G.drop (k + 1)) (k + 1) (if n < 0 then 0 else n) = A) := by show _ = _; rw [← hs', e1, e2]; simp
       rw [mxI] at hs2
       clear hs' e1 e2 ef et hWt hWi P3 P4
       go_wp2_with (first | (go_at_call 110; (with_reducible refine Calls.mono (hH1 _) ?_); rintro e w2 ⟨rfl, rfl⟩) | (go_at_call 110; (with_reducible refine Calls.mono (hH2 _) ?_); rintro e w2 ⟨rfl, rfl⟩))
       go_roundw
       case rel => exact ⟨k + 1, _, by omega, by go_num, rfl, hs2, B, hb⟩
       case measure => simp [intOf]; omega
     | true =>
       rw [et] at hH2
       have e1 : loses F T k = false := by simp [loses, ef]
       have e2 : loses T F k = true := by simp [loses, ef, et]
       generalize hW : wF C F T all (k : Int) G 0 0 = Wf
       have hs2 : Hid (mvF G C F T all (G.drop (k + 1)) (k + 1) (if n < 1 + Wf + le then 1 + Wf + le else n) = A) := by show _ = _; rw [← hs', e2, ← hW]; simp
       rw [mxI] at hs2
       clear hs' e1 e2 ef et P3
       go_wp2_with (first | (go_at_call 110; (with_reducible refine Calls.mono (hH1 _) ?_); rintro e w2 ⟨rfl, rfl⟩) | (go_at_call 110; (with_reducible refine Calls.mono (hH2 _) ?_); rintro e w2 ⟨rfl, rfl⟩))
       go_loopw [14, 15] (fun tw tq wx => ∃ (o : Nat) (v : Int), o ≤ G.length ∧ tq = .int .i64 (o : Int) ∧ tw = .int .i64 v ∧ (0 ≤ v ∧ v ≤ 3600) ∧ Hid (wF C F T all (k : Int) (G.drop o) o v = Wf) ∧ Hid (Has wx w.heap.size #[.slice (some ⟨g, of, none⟩) G.length cg, vc]) ∧ Hid (Below w.heap.size w wx)) (fun _ tq _ => G.length - (intOf tq).toNat)
       case atStart => exact ⟨0, 0, by omega, rfl, rfl, by omega, hW, B, hb⟩
       case round =>
        clear hW b1 p3 hH1 hH2 B hb
        obtain ⟨o, v, hol, rfl, rfl, hv, hw, B, hb⟩ := hrel
        obtain ⟨_, b1, _⟩ := id B.out
        by_cases hlo : o < G.length
        ·have hH1 := fun (W : World) => hasR_any F (o : Int) W hF (by omega)
         have hH2 := fun (W : World) => hasR_any T (o : Int) W hT (by omega)
         have hw' := hw.out
         rw [wF_step C F T all (k : Int) G o v hlo] at hw'
         have hq := fun (W : World) (h : Below w.heap.size w W) => hWt o (k : Int) hlo W h
         have hr := hWi o (k : Int) hlo
         have s1 : (o : Int) < (G.length : Int) := by omega
         have s0 : (0 : Int) ≤ (o : Int) := by omega
         have s2 : o + 1 ≤ G.length := hlo
         clear hw hWt hWi P4
         generalize waitV G[o] C (o : Int) (k : Int) = u at *
         cases ef : hasN F (o : Int) with
         | true =>
           rw [ef] at hH1
           cases et : hasN T (o : Int) with
           | true =>
             rw [et] at hH2
             have el : loses F T o = false := by simp [loses, ef, et]
             clear ef et
             cases all with
             | true =>
               have hw2 : Hid (wF C F T true (k : Int) (G.drop (o + 1)) (o + 1) (if v < u then u else v) = Wf) := by show _ = _; rw [← hw', el]; simp
               rw [mxI] at hw2
               have hv2 : 0 ≤ (if v < u then u else v) ∧ (if v < u then u else v) ≤ 3600 := by split <;> omega
               rw [mxI] at hv2
               clear hw' el
               go_wp2_with (first | (go_at_call 110; (with_reducible refine Calls.mono (hH1 _) ?_); rintro e w2 ⟨rfl, rfl⟩) | (go_at_call 110; (with_reducible refine Calls.mono (hH2 _) ?_); rintro e w2 ⟨rfl, rfl⟩) | (go_at_call 111; (with_reducible refine Calls.mono (hq _ hb.out) ?_); rintro e w3 ⟨rfl, hb3⟩; have B3 := B.out.below hb3; have hb4 := bel_after hb.out hb.out.size hb3; clear hb3))
               go_roundw
               case rel => exact ⟨o + 1, _, by omega, by go_num, rfl, hv2, hw2, B3, hb4⟩
               case measure => simp [intOf]; omega
             | false =>
               have hw2 : Hid (wF C F T false (k : Int) (G.drop (o + 1)) (o + 1) (v) = Wf) := by show _ = _; rw [← hw', el]; simp
               have hv2 : 0 ≤ (v) ∧ (v) ≤ 3600 := by omega
               clear hw' el
               go_wp2_with (first | (go_at_call 110; (with_reducible refine Calls.mono (hH1 _) ?_); rintro e w2 ⟨rfl, rfl⟩) | (go_at_call 110; (with_reducible refine Calls.mono (hH2 _) ?_); rintro e w2 ⟨rfl, rfl⟩) | (go_at_call 111; (with_reducible refine Calls.mono (hq _ hb.out) ?_); rintro e w3 ⟨rfl, hb3⟩; have B3 := B.out.below hb3; have hb4 := bel_after hb.out hb.out.size hb3; clear hb3))
               go_roundw
               case rel => exact ⟨o + 1, _, by omega, by go_num, rfl, hv2, hw2, B, hb⟩
               case measure => simp [intOf]; omega
           | false =>
             rw [et] at hH2
             have el : loses F T o = true := by simp [loses, ef, et]
             clear ef et
             cases all with
             | true =>
               have hw2 : Hid (wF C F T true (k : Int) (G.drop (o + 1)) (o + 1) (if v < u then u else v) = Wf) := by show _ = _; rw [← hw', el]; simp
               rw [mxI] at hw2
               have hv2 : 0 ≤ (if v < u then u else v) ∧ (if v < u then u else v) ≤ 3600 := by split <;> omega
               rw [mxI] at hv2
               clear hw' el
               go_wp2_with (first | (go_at_call 110; (with_reducible refine Calls.mono (hH1 _) ?_); rintro e w2 ⟨rfl, rfl⟩) | (go_at_call 110; (with_reducible refine Calls.mono (hH2 _) ?_); rintro e w2 ⟨rfl, rfl⟩) | (go_at_call 111; (with_reducible refine Calls.mono (hq _ hb.out) ?_); rintro e w3 ⟨rfl, hb3⟩; have B3 := B.out.below hb3; have hb4 := bel_after hb.out hb.out.size hb3; clear hb3))
               go_roundw
               case rel => exact ⟨o + 1, _, by omega, by go_num, rfl, hv2, hw2, B3, hb4⟩
               case measure => simp [intOf]; omega
             | false =>
               have hw2 : Hid (wF C F T false (k : Int) (G.drop (o + 1)) (o + 1) (if v < u then u else v) = Wf) := by show _ = _; rw [← hw', el]; simp
               rw [mxI] at hw2
               have hv2 : 0 ≤ (if v < u then u else v) ∧ (if v < u then u else v) ≤ 3600 := by split <;> omega
               rw [mxI] at hv2
               clear hw' el
               go_wp2_with (first | (go_at_call 110; (with_reducible refine Calls.mono (hH1 _) ?_); rintro e w2 ⟨rfl, rfl⟩) | (go_at_call 110; (with_reducible refine Calls.mono (hH2 _) ?_); rintro e w2 ⟨rfl, rfl⟩) | (go_at_call 111; (with_reducible refine Calls.mono (hq _ hb.out) ?_); rintro e w3 ⟨rfl, hb3⟩; have B3 := B.out.below hb3; have hb4 := bel_after hb.out hb.out.size hb3; clear hb3))
               go_roundw
               case rel => exact ⟨o + 1, _, by omega, by go_num, rfl, hv2, hw2, B3, hb4⟩
               case measure => simp [intOf]; omega
         | false =>
           rw [ef] at hH1
           have el : loses F T o = false := by simp [loses, ef]
           clear ef hH2
           cases all with
           | true =>
             have hw2 : Hid (wF C F T true (k : Int) (G.drop (o + 1)) (o + 1) (if v < u then u else v) = Wf) := by show _ = _; rw [← hw', el]; simp
             rw [mxI] at hw2
             have hv2 : 0 ≤ (if v < u then u else v) ∧ (if v < u then u else v) ≤ 3600 := by split <;> omega
             rw [mxI] at hv2
             clear hw' el
             go_wp2_with (first | (go_at_call 110; (with_reducible refine Calls.mono (hH1 _) ?_); rintro e w2 ⟨rfl, rfl⟩) | (go_at_call 110; (with_reducible refine Calls.mono (hH2 _) ?_); rintro e w2 ⟨rfl, rfl⟩) | (go_at_call 111; (with_reducible refine Calls.mono (hq _ hb.out) ?_); rintro e w3 ⟨rfl, hb3⟩; have B3 := B.out.below hb3; have hb4 := bel_after hb.out hb.out.size hb3; clear hb3))
             go_roundw
             case rel => exact ⟨o + 1, _, by omega, by go_num, rfl, hv2, hw2, B3, hb4⟩
             case measure => simp [intOf]; omega
           | false =>
             have hw2 : Hid (wF C F T false (k : Int) (G.drop (o + 1)) (o + 1) (v) = Wf) := by show _ = _; rw [← hw', el]; simp
             have hv2 : 0 ≤ (v) ∧ (v) ≤ 3600 := by omega
             clear hw' el
             go_wp2_with (first | (go_at_call 110; (with_reducible refine Calls.mono (hH1 _) ?_); rintro e w2 ⟨rfl, rfl⟩) | (go_at_call 110; (with_reducible refine Calls.mono (hH2 _) ?_); rintro e w2 ⟨rfl, rfl⟩) | (go_at_call 111; (with_reducible refine Calls.mono (hq _ hb.out) ?_); rintro e w3 ⟨rfl, hb3⟩; have B3 := B.out.below hb3; have hb4 := bel_after hb.out hb.out.size hb3; clear hb3))
             go_roundw
             case rel => exact ⟨o + 1, _, by omega, by go_num, rfl, hv2, hw2, B, hb⟩
             case measure => simp [intOf]; omega
        ·have s1 : ¬ (o : Int) < (G.length : Int) := by omega
         have hv' : v = Wf := by rw [← hw.out]; exact (wF_end C F T all (k : Int) G o v (by omega)).symm
         subst hv'
         have p4 := P4 _ hb.out
         have w1 : IntKind.i64.wrap (1 + v) = 1 + v := wrap64 _ (by omega)
         have w2 : IntKind.i64.wrap (1 + v + le) = 1 + v + le := wrap64 _ (by omega)
         clear hw hWt hWi P4
         go_wp2
         go_roundw
         case rel => exact ⟨k + 1, _, by omega, by go_num, rfl, hs2, B, hb⟩
         case measure => simp [intOf]; omega
  ·have t1 : ¬ (k : Int) < (G.length : Int) := by omega
   have hA' : n = A := by rw [← hs.out]; exact (mvF_end G C F T all k n (by omega)).symm
   subst hA'
   clear hs kG mins hWt hWi
   go_wp2
   go_ret
   exact ⟨rfl, hb.out⟩
open Go.RowKit
set_option linter.unusedVariables false

def spanV (G : List Gp) (C : List Cf) (F T : Nat) (all : Bool) : Int × Int := if gridB G C = true then (if ((clashF G.length F C).2.2 || (clashF G.length T C).2.2) = true then (0, 60) else (mvF G C F T all G 0 0, 0)) else (0, 70)

set_option maxRecDepth 100000 in
set_option maxHeartbeats 4000000 in
theorem refLongest_any (G : List Gp) (C : List Cf) (vg vc : Value) (F T : Nat) (w : World) (hF : F < 18446744073709551616) (hT : T < 18446744073709551616) (h1 : Fl 5 Gp.cs w vg G) (h2 : Fl 4 Cf.cs w vc C) (lG : G.length ≤ 2932031007317) (lC : C.length ≤ 4398046511000) (ok : ∀ (i : Nat) (h : i < C.length), C[i].ok) :
  Calls Tryz.prog 58 #[.agg #[vg, vc], .int .u64 (F : Int), .int .u64 (T : Int)] w fun e w' => e = .returned (.tuple #[.int .i64 (spanV G C F T true).1, .int .i64 (spanV G C F T true).2]) ∧ Below w.heap.size w w' := by
 have hGr := fun (W : World) (hW : Below w.heap.size w W) => refGrid_any G C vg vc W (h1.below hW) (h2.below hW) lG lC
 have hMv := fun (gr : gridB G C = true) (W : World) (hW : Below w.heap.size w W) => move_any G C vg vc F T true W hF hT (h1.below hW) (h2.below hW) lG lC gr
 obtain ⟨va, cg, rfl, -⟩ := h1.any
 have hCl := fun (W : World) (hW : Below w.heap.size w W) => clashes2_any G.length C va cg vc F T W hF hT lG (h2.below hW) lC ok
 clear h1 h2 ok
 cases eg : gridB G C with
 | false =>
   have eV : spanV G C F T true = (0, 70) := by simp [spanV, eg]
   rw [eg] at hGr
   rw [eV]
   clear eV eg hMv hCl
   go_enter Tryz.func58, Tryz.ntmps58
   go_wp2_with (go_at_call 9; (with_reducible refine Calls.mono (hGr _ (by exact belN1)) ?_); rintro e w1 ⟨rfl, hb1⟩; have B1 : Has w1 w.heap.size #[.slice va G.length cg, vc] := (Has.new w _ _ rfl).below hb1; have hbM := bel_after belN1 (by simp) hb1; obtain ⟨_, y1, _⟩ := id B1; clear hb1)
   exact bodyPost_ret (v := .tuple #[.int .i64 0, .int .i64 70]) (by simp [results, Tryz.results58, go_sem]) rfl ⟨rfl, hbM⟩
 | true =>
   replace hMv := hMv eg
   rw [eg] at hGr
   cases ec : ((clashF G.length F C).2.2 || (clashF G.length T C).2.2) with
   | true =>
     have eV : spanV G C F T true = (0, 60) := by simp only [spanV, eg, ec]; rfl
     rw [ec] at hCl
     rw [eV]
     clear eV eg ec hMv
     go_enter Tryz.func58, Tryz.ntmps58
     go_wp2_with (first | (go_at_call 9; (with_reducible refine Calls.mono (hGr _ (by exact belN1)) ?_); rintro e w1 ⟨rfl, hb1⟩; have B1 : Has w1 w.heap.size #[.slice va G.length cg, vc] := (Has.new w _ _ rfl).below hb1; have hbM := bel_after belN1 (by simp) hb1; obtain ⟨_, y1, _⟩ := id B1; clear hb1) | (go_at_call 93; (with_reducible refine Calls.mono (hCl _ hbM) ?_); rintro e w2 ⟨rfl, hb2⟩; have B2 := B1.below hb2; have hbK := bel_after hbM hbM.size hb2; obtain ⟨_, y2, _⟩ := id B2; clear hb2))
     exact bodyPost_ret (v := .tuple #[.int .i64 0, .int .i64 60]) (by simp [results, Tryz.results58, go_sem]) rfl ⟨rfl, hbK⟩
   | false =>
     have eV : spanV G C F T true = (mvF G C F T true G 0 0, 0) := by simp only [spanV, eg, ec]; rfl
     rw [ec] at hCl
     rw [eV]
     clear eV eg ec
     generalize mvF G C F T true G 0 0 = A at *
     go_enter Tryz.func58, Tryz.ntmps58
     go_wp2_with (first | (go_at_call 9; (with_reducible refine Calls.mono (hGr _ (by exact belN1)) ?_); rintro e w1 ⟨rfl, hb1⟩; have B1 : Has w1 w.heap.size #[.slice va G.length cg, vc] := (Has.new w _ _ rfl).below hb1; have hbM := bel_after belN1 (by simp) hb1; obtain ⟨_, y1, _⟩ := id B1; clear hb1) | (go_at_call 93; (with_reducible refine Calls.mono (hCl _ hbM) ?_); rintro e w2 ⟨rfl, hb2⟩; have B2 := B1.below hb2; have hbK := bel_after hbM hbM.size hb2; obtain ⟨_, y2, _⟩ := id B2; clear hb2) | (go_at_call 94; (with_reducible refine Calls.mono (hMv _ hbK) ?_); rintro e w3 ⟨rfl, hb3⟩; have hbL := bel_after hbK hbK.size hb3; clear hb3))
     exact bodyPost_ret (v := .tuple #[.int .i64 A, .int .i64 0]) (by simp [results, Tryz.results58, go_sem]) rfl ⟨rfl, hbL⟩
end Go.Proofs.YtnicolaphmffkaaGreatDoor
