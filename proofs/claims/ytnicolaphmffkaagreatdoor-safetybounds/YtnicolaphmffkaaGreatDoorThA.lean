import Derived.Test.YtnicolaphmffkaaGreatDoorMbB
namespace Go.Proofs.YtnicolaphmffkaaGreatDoor
open Go.RowKit
set_option linter.unusedVariables false

def thF (F T : Nat) (ws : Nat → Int) : List Gp → Nat → Int → Int
 | [], _, n => n
 | x :: xs, k, n => thF F T ws xs (k + 1) (if loses F T k = true then (if n < 1 + x.amber then 1 + x.amber else n) else if loses T F k = true then (if n < 1 + ws k + x.lead then 1 + ws k + x.lead else n) else n)
theorem thF_step (F T : Nat) (ws : Nat → Int) (G : List Gp) (k : Nat) (n : Int) (h : k < G.length) : thF F T ws (G.drop k) k n = thF F T ws (G.drop (k + 1)) (k + 1) (if loses F T k = true then (if n < 1 + G[k].amber then 1 + G[k].amber else n) else if loses T F k = true then (if n < 1 + ws k + G[k].lead then 1 + ws k + G[k].lead else n) else n) := by
 rw [List.drop_eq_getElem_cons h]; rfl
theorem thF_end (F T : Nat) (ws : Nat → Int) (G : List Gp) (k : Nat) (n : Int) (h : G.length ≤ k) : thF F T ws (G.drop k) k n = n := by
 rw [List.drop_eq_nil_of_le h]; rfl
/-- Both ways to count a move. -/
theorem thF_mvF {G : List Gp} {C : List Cf} {F T : Nat} {all : Bool} {ws : Nat → Int} (gr : gridB G C = true) (hw : ∀ k, k < G.length → ws k = wF C F T all (k : Int) G 0 0) (h0 : ∀ k, k < G.length → 0 ≤ ws k) :
  ∀ (m k : Nat) (n : Int), k + m = G.length → 0 ≤ n → thF F T ws (G.drop k) k n = mvF G C F T all (G.drop k) k n
 | 0, k, n, hk, hn => by rw [thF_end _ _ _ _ _ _ (by omega), mvF_end _ _ _ _ _ _ _ (by omega)]
 | m + 1, k, n, hk, hn => by
   have hlt : k < G.length := by omega
   have mn := grid_min gr k hlt
   have w0 := h0 k hlt
   have e : (if loses F T k = true then (if n < 1 + G[k].amber then 1 + G[k].amber else n) else if loses T F k = true then (if n < 1 + ws k + G[k].lead then 1 + ws k + G[k].lead else n) else n) = (if n < atV G C F T all G[k] k then atV G C F T all G[k] k else n) := by
    unfold atV
    rw [← hw k hlt]
    cases e1 : loses F T k with
    | true =>
      have e2 : loses T F k = false := by simp [loses] at e1 ⊢; simp [e1]
      simp [e2]
    | false =>
      cases e2 : loses T F k with
      | true => simp
      | false =>
        have : ¬ n < 0 := by omega
        simp [this]
   rw [thF_step _ _ _ _ _ _ hlt, mvF_step _ _ _ _ _ _ _ hlt, e]
   have hat : 0 ≤ atV G C F T all G[k] k := by
    unfold atV
    rw [← hw k hlt]
    split
    ·omega
    ·split <;> omega
   refine thF_mvF gr hw h0 m (k + 1) _ (by omega) ?_
   split
   ·exact hat
   ·exact hn
set_option maxRecDepth 100000 in
set_option maxHeartbeats 4000000 in
theorem through_any (G : List Gp) (vg vm : Value) (F T : Nat) (ws : Nat → Int) (aw : Option Addr) (cw : Nat) (w : World) (hF : F < 18446744073709551616) (hT : T < 18446744073709551616) (h1 : Fl 5 Gp.cs w vg G) (lG : G.length ≤ 2932031007317) (mins : ∀ (k : Nat) (hk : k < G.length), 0 ≤ G[k].amber ∧ G[k].amber ≤ 60 ∧ 0 ≤ G[k].lead ∧ G[k].lead ≤ 60)
  (hws : G = [] ∨ ∃ gw, aw = some ⟨gw, 0, none⟩ ∧ gw < w.heap.size ∧ ∀ i, i < G.length → w.cell? ⟨gw, i, none⟩ = some (.int .i64 (ws i)) ∧ 0 ≤ ws i ∧ ws i ≤ 3600) :
  Calls Tryz.prog 92 #[.agg #[vg, vm], .int .u64 (F : Int), .int .u64 (T : Int), .slice aw G.length cw] w fun e w' => e = .returned (.int .i64 (thF F T ws G 0 0)) ∧ Below w.heap.size w w' := by
 obtain ⟨va, cg, rfl, kG⟩ := h1.any
 clear h1
 have hM1 : bits .andNot .u64 (F : Int) (T : Int) = ((F &&& (18446744073709551615 - T) : Nat) : Int) := u64_andNot_nat F T hF hT
 have hM2 : bits .andNot .u64 (T : Int) (F : Int) = ((T &&& (18446744073709551615 - F) : Nat) : Int) := u64_andNot_nat T F hT hF
 have hMl1 : F &&& (18446744073709551615 - T) < 18446744073709551616 := Nat.lt_of_le_of_lt Nat.and_le_left hF
 have hMl2 : T &&& (18446744073709551615 - F) < 18446744073709551616 := Nat.lt_of_le_of_lt Nat.and_le_left hT
 have hN1 := fun g => hasN_andNot F T g hT
 have hN2 := fun g => hasN_andNot T F g hF
 generalize F &&& (18446744073709551615 - T) = D1 at *
 generalize T &&& (18446744073709551615 - F) = D2 at *
 generalize hA : thF F T ws G 0 0 = A
 have hb0 : Below w.heap.size w (w.alloc (.cells #[.slice va G.length cg, vm] 121)) := belN1
 have B0 : Has (w.alloc (.cells #[.slice va G.length cg, vm] 121)) w.heap.size #[.slice va G.length cg, vm] := Has.new _ _ _ rfl
 go_enter Tryz.func92, Tryz.ntmps92
 go_wp2
 generalize (w.alloc (.cells #[.slice va G.length cg, vm] 121)) = W0 at *
 go_loopw [9, 15] (fun tn tk wr => ∃ (k : Nat) (n : Int), k ≤ G.length ∧ tk = .int .i64 (k : Int) ∧ tn = .int .i64 n ∧ Hid (thF F T ws (G.drop k) k n = A) ∧ Hid (Has wr w.heap.size #[.slice va G.length cg, vm]) ∧ Hid (Below w.heap.size w wr)) (fun _ tk _ => G.length - (intOf tk).toNat)
 case atStart => exact ⟨0, 0, by omega, rfl, rfl, hA, B0, hb0⟩
 case round =>
  clear B0 hb0 hA
  obtain ⟨k, n, hkl, rfl, rfl, hs, B, hb⟩ := hrel
  obtain ⟨_, b1, _⟩ := id B.out
  by_cases hlt : k < G.length
  ·obtain ⟨g, o, rfl, hg, P⟩ := kG.resolve_left (by intro e; rw [e] at hlt; simp at hlt)
   obtain ⟨gw, rfl, hgw, hcw⟩ := hws.resolve_left (by intro e; rw [e] at hlt; simp at hlt)
   have p0 := (hb.out.cell (p := ⟨g, _, none⟩) hg).trans (P k hlt 0 _ rfl)
   have p1 := (hb.out.cell (p := ⟨g, _, none⟩) hg).trans (P k hlt 1 _ rfl)
   have p2 := (hb.out.cell (p := ⟨g, _, none⟩) hg).trans (P k hlt 2 _ rfl)
   have p3 := (hb.out.cell (p := ⟨g, _, none⟩) hg).trans (P k hlt 3 _ rfl)
   have p4 := (hb.out.cell (p := ⟨g, _, none⟩) hg).trans (P k hlt 4 _ rfl)
   simp only [Nat.add_zero] at p0
   obtain ⟨hc, hr⟩ := hcw k hlt
   have hs' := hs.out
   rw [thF_step F T ws G k n hlt] at hs'
   have mn := mins k hlt
   have t1 : (k : Int) < (G.length : Int) := by omega
   have t0 : (0 : Int) ≤ (k : Int) := by omega
   have t2 : k + 1 ≤ G.length := hlt
   have hH1 := fun (W : World) => hasS_any D1 (k : Int) W hMl1 (by omega)
   have hH2 := fun (W : World) => hasS_any D2 (k : Int) W hMl2 (by omega)
   have eh1 : hasN D1 (k : Int) = loses F T k := hN1 (k : Int)
   have eh2 : hasN D2 (k : Int) = loses T F k := hN2 (k : Int)
   rw [eh1] at hH1
   rw [eh2] at hH2
   clear P kG hs mins hcw hws eh1 eh2 hN1 hN2
   generalize ws k = u at *
   generalize G[k].name = x0 at *
   generalize G[k].sort = x1 at *
   generalize G[k].min = x2 at *
   generalize G[k].amber = x3 at *
   generalize G[k].lead = x4 at *
   have wa : IntKind.i64.wrap (1 + x3) = 1 + x3 := wrap64 _ (by omega)
   have wb : IntKind.i64.wrap (1 + u) = 1 + u := wrap64 _ (by omega)
   have wc : IntKind.i64.wrap (1 + u + x4) = 1 + u + x4 := wrap64 _ (by omega)
   clear mn hr
   have hbN : Below w.heap.size w (wr.alloc (.cells #[.string x0, .int .i64 x1, .int .i64 x2, .int .i64 x3, .int .i64 x4] 90)) := hb.out.alloc hb.out.size _
   have BN := B.out.alloc (.cells #[.string x0, .int .i64 x1, .int .i64 x2, .int .i64 x3, .int .i64 x4] 90)
   have cN : (wr.alloc (.cells #[.string x0, .int .i64 x1, .int .i64 x2, .int .i64 x3, .int .i64 x4] 90)).cell? ⟨gw, k, none⟩ = some (.int .i64 u) := (hbN.cell (p := ⟨gw, k, none⟩) hgw).trans hc
   have cM : wr.cell? ⟨gw, k, none⟩ = some (.int .i64 u) := (hb.out.cell (p := ⟨gw, k, none⟩) hgw).trans hc
   cases e1 : loses F T k with
   | true =>
     rw [e1] at hH1
     clear hH2
     have hs2 : Hid (thF F T ws (G.drop (k + 1)) (k + 1) (if n < 1 + x3 then 1 + x3 else n) = A) := by show _ = _; rw [← hs', e1]; simp
     rw [mxI] at hs2
     clear hs'
     go_wp2_with (first | (go_at_call 108; (with_reducible refine Calls.mono (hH1 _) ?_); rintro e w2 ⟨rfl, rfl⟩) | (go_at_call 108; (with_reducible refine Calls.mono (hH2 _) ?_); rintro e w2 ⟨rfl, rfl⟩))
     go_roundw
     case rel => exact ⟨k + 1, _, by omega, by go_num, rfl, hs2, BN, hbN⟩
     case measure => simp [intOf]; omega
   | false =>
     rw [e1] at hH1
     cases e2 : loses T F k with
     | true =>
       rw [e2] at hH2
       have hs2 : Hid (thF F T ws (G.drop (k + 1)) (k + 1) (if n < 1 + u + x4 then 1 + u + x4 else n) = A) := by show _ = _; rw [← hs', e1, e2]; simp
       rw [mxI] at hs2
       clear hs'
       go_wp2_with (first | (go_at_call 108; (with_reducible refine Calls.mono (hH1 _) ?_); rintro e w2 ⟨rfl, rfl⟩) | (go_at_call 108; (with_reducible refine Calls.mono (hH2 _) ?_); rintro e w2 ⟨rfl, rfl⟩))
       go_quiet (fail)
       go_wp2
       go_roundw
       case rel => exact ⟨k + 1, _, by omega, by go_num, rfl, hs2, BN.drewN nq, bel_drewN hbN⟩
       case measure => simp [intOf]; omega
     | false =>
       rw [e2] at hH2
       have hs2 : Hid (thF F T ws (G.drop (k + 1)) (k + 1) (n) = A) := by show _ = _; rw [← hs', e1, e2]; simp
       clear hs'
       go_wp2_with (first | (go_at_call 108; (with_reducible refine Calls.mono (hH1 _) ?_); rintro e w2 ⟨rfl, rfl⟩) | (go_at_call 108; (with_reducible refine Calls.mono (hH2 _) ?_); rintro e w2 ⟨rfl, rfl⟩))
       go_roundw
       case rel => exact ⟨k + 1, _, by omega, by go_num, rfl, hs2, BN, hbN⟩
       case measure => simp [intOf]; omega
  ·have t1 : ¬ (k : Int) < (G.length : Int) := by omega
   have hA' : n = A := by rw [← hs.out]; exact (thF_end F T ws G k n (by omega)).symm
   subst hA'
   clear hs kG mins hws
   go_wp2
   go_ret
   exact ⟨rfl, hb.out⟩
end Go.Proofs.YtnicolaphmffkaaGreatDoor
