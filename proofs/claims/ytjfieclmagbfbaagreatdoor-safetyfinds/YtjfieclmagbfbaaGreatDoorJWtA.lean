import Derived.Test.YtjfieclmagbfbaaGreatDoorJRfB
import Derived.Maps.Own
import Derived.Maps.OwnOps
import Derived.Maps.RangeWalk
import Derived.DeepKeys4
import Derived.KernelRfl
import Derived.Deep.CutRange
import Derived.Maps.Views
set_option linter.unusedVariables false
set_option maxRecDepth 100000
set_option maxHeartbeats 8000000
namespace Go.Proofs.YtjfieclmagbfbaaGreatDoor
open Go.RowKit
def spanV (G : List Gp) (C : List Cf) (F T : Nat) (all : Bool) : Int × Int := if zBg G C = true then (if ((zBd G.length F C).2.2 || (zBd G.length T C).2.2) = true then (0, 60) else (mvF G C F T all G 0 0, 0)) else (0, 70)
theorem refLongest_any (G : List Gp) (C : List Cf) (vg vc : Value) (F T : Nat) (w : World) (hF : F < 18446744073709551616) (hT : T < 18446744073709551616) (h1 : Fl 5 Gp.cs w vg G) (h2 : Fl 4 Cf.cs w vc C) (lG : G.length ≤ 2932031007317) (lC : C.length ≤ 4398046511000) (ok : ∀ (i : Nat) (h : i < C.length), C[i].ok) :
  Calls Tryz.prog 74 #[.agg #[vg, vc], .int .u64 (F : Int), .int .u64 (T : Int)] w fun e w' => e = .returned (.tuple #[.int .i64 (spanV G C F T true).1, .int .i64 (spanV G C F T true).2]) ∧ Below w.heap.size w w' := by
 have hGr := fun (W : World) (hW : Below w.heap.size w W) => refGrid_any G C vg vc W (h1.below hW) (h2.below hW) lG lC
 have hMv := fun (gr : zBg G C = true) (W : World) (hW : Below w.heap.size w W) => move_any G C vg vc F T true W hF hT (h1.below hW) (h2.below hW) lG lC gr
 obtain ⟨va, cg, rfl, -⟩ := h1.any
 have hCl := fun (W : World) (hW : Below w.heap.size w W) => clashes2_any G.length C va cg vc F T W hF hT lG (h2.below hW) lC ok
 clear h1 h2 ok
 cases eg : zBg G C with
 | false =>
   have eV : spanV G C F T true = (0, 70) := by simp [spanV, eg]
   rw [eg] at hGr; rw [eV]; clear eV eg hMv hCl; go_enter Tryz.func74, Tryz.ntmps74
   go_wp2_with (go_at_call 28; (with_reducible refine Calls.mono (hGr _ (by exact zBz)) ?_); rintro e w1 ⟨rfl, hb1⟩; have B1 : Has w1 w.heap.size #[.slice va G.length cg, vc] := (Has.new w _ _ rfl).below hb1; have hbM := zAa zBz (by simp) hb1; obtain ⟨_, y1, _⟩ := id B1; clear hb1)
   exact bodyPost_ret (v := .tuple #[.int .i64 0, .int .i64 70]) (by simp [results, Tryz.results74, go_sem]) rfl ⟨rfl, hbM⟩
 | true =>
   replace hMv := hMv eg
   rw [eg] at hGr
   cases ec : ((zBd G.length F C).2.2 || (zBd G.length T C).2.2) with
   | true =>
     have eV : spanV G C F T true = (0, 60) := by simp only [spanV, eg, ec]; rfl
     rw [ec] at hCl; rw [eV]; clear eV eg ec hMv; go_enter Tryz.func74, Tryz.ntmps74
     go_wp2_with (first | (go_at_call 28; (with_reducible refine Calls.mono (hGr _ (by exact zBz)) ?_); rintro e w1 ⟨rfl, hb1⟩; have B1 : Has w1 w.heap.size #[.slice va G.length cg, vc] := (Has.new w _ _ rfl).below hb1; have hbM := zAa zBz (by simp) hb1; obtain ⟨_, y1, _⟩ := id B1; clear hb1) | (go_at_call 98; (with_reducible refine Calls.mono (hCl _ hbM) ?_); rintro e w2 ⟨rfl, hb2⟩; have B2 := B1.below hb2; have hbK := zAa hbM hbM.size hb2; obtain ⟨_, y2, _⟩ := id B2; clear hb2))
     exact bodyPost_ret (v := .tuple #[.int .i64 0, .int .i64 60]) (by simp [results, Tryz.results74, go_sem]) rfl ⟨rfl, hbK⟩
   | false =>
     have eV : spanV G C F T true = (mvF G C F T true G 0 0, 0) := by simp only [spanV, eg, ec]; rfl
     rw [ec] at hCl; rw [eV]; clear eV eg ec; generalize mvF G C F T true G 0 0 = A at *; go_enter Tryz.func74, Tryz.ntmps74
     go_wp2_with (first | (go_at_call 28; (with_reducible refine Calls.mono (hGr _ (by exact zBz)) ?_); rintro e w1 ⟨rfl, hb1⟩; have B1 : Has w1 w.heap.size #[.slice va G.length cg, vc] := (Has.new w _ _ rfl).below hb1; have hbM := zAa zBz (by simp) hb1; obtain ⟨_, y1, _⟩ := id B1; clear hb1) | (go_at_call 98; (with_reducible refine Calls.mono (hCl _ hbM) ?_); rintro e w2 ⟨rfl, hb2⟩; have B2 := B1.below hb2; have hbK := zAa hbM hbM.size hb2; obtain ⟨_, y2, _⟩ := id B2; clear hb2) | (go_at_call 99; (with_reducible refine Calls.mono (hMv _ hbK) ?_); rintro e w3 ⟨rfl, hb3⟩; have hbL := zAa hbK hbK.size hb3; clear hb3))
     exact bodyPost_ret (v := .tuple #[.int .i64 A, .int .i64 0]) (by simp [results, Tryz.results74, go_sem]) rfl ⟨rfl, hbL⟩
def thF (F T : Nat) (ws : Nat → Int) : List Gp → Nat → Int → Int
 | [], _, n => n
 | x :: xs, k, n => thF F T ws xs (k + 1) (if zBw F T k = true then (if n < 1 + x.amber then 1 + x.amber else n) else if zBw T F k = true then (if n < 1 + ws k + x.lead then 1 + ws k + x.lead else n) else n)
theorem thF_step (F T : Nat) (ws : Nat → Int) (G : List Gp) (k : Nat) (n : Int) (h : k < G.length) : thF F T ws (G.drop k) k n = thF F T ws (G.drop (k + 1)) (k + 1) (if zBw F T k = true then (if n < 1 + G[k].amber then 1 + G[k].amber else n) else if zBw T F k = true then (if n < 1 + ws k + G[k].lead then 1 + ws k + G[k].lead else n) else n) := by
 rw [List.drop_eq_getElem_cons h]; rfl
theorem thF_end (F T : Nat) (ws : Nat → Int) (G : List Gp) (k : Nat) (n : Int) (h : G.length ≤ k) : thF F T ws (G.drop k) k n = n := by
 rw [List.drop_eq_nil_of_le h]; rfl
theorem thF_mvF {G : List Gp} {C : List Cf} {F T : Nat} {all : Bool} {ws : Nat → Int} (gr : zBg G C = true) (hw : ∀ k, k < G.length → ws k = wF C F T all (k : Int) G 0 0) (h0 : ∀ k, k < G.length → 0 ≤ ws k) :
  ∀ (m k : Nat) (n : Int), k + m = G.length → 0 ≤ n → thF F T ws (G.drop k) k n = mvF G C F T all (G.drop k) k n
 | 0, k, n, hk, hn => by rw [thF_end _ _ _ _ _ _ (by omega), mvF_end _ _ _ _ _ _ _ (by omega)]
 | m + 1, k, n, hk, hn => by
   have hlt : k < G.length := by omega
   have mn := grid_min gr k hlt; have w0 := h0 k hlt; have e : (if zBw F T k = true then (if n < 1 + G[k].amber then 1 + G[k].amber else n) else if zBw T F k = true then (if n < 1 + ws k + G[k].lead then 1 + ws k + G[k].lead else n) else n) = (if n < atV G C F T all G[k] k then atV G C F T all G[k] k else n) := by
    unfold atV; rw [← hw k hlt]
    cases e1 : zBw F T k with
    | true =>
      have e2 : zBw T F k = false := by simp [zBw] at e1 ⊢; simp [e1]
      simp [e2]
    | false =>
      cases e2 : zBw T F k with
      | true => simp
      | false =>
        have : ¬ n < 0 := by omega
        simp [this]
   rw [thF_step _ _ _ _ _ _ hlt, mvF_step _ _ _ _ _ _ _ hlt, e]; have hat : 0 ≤ atV G C F T all G[k] k := by
    unfold atV; rw [← hw k hlt]; split
    ·omega
    ·split <;> omega
   refine thF_mvF gr hw h0 m (k + 1) _ (by omega) ?_; split
   ·exact hat
   ·exact hn
theorem through_any (G : List Gp) (vg vm : Value) (F T : Nat) (ws : Nat → Int) (aw : Option Addr) (cw : Nat) (w : World) (hF : F < 18446744073709551616) (hT : T < 18446744073709551616) (h1 : Fl 5 Gp.cs w vg G) (lG : G.length ≤ 2932031007317) (mins : ∀ (k : Nat) (hk : k < G.length), 0 ≤ G[k].amber ∧ G[k].amber ≤ 60 ∧ 0 ≤ G[k].lead ∧ G[k].lead ≤ 60)
  (hws : G = [] ∨ ∃ gw, aw = some ⟨gw, 0, none⟩ ∧ gw < w.heap.size ∧ ∀ i, i < G.length → w.cell? ⟨gw, i, none⟩ = some (.int .i64 (ws i)) ∧ 0 ≤ ws i ∧ ws i ≤ 3600) :
  Calls Tryz.prog 71 #[.agg #[vg, vm], .int .u64 (F : Int), .int .u64 (T : Int), .slice aw G.length cw] w fun e w' => e = .returned (.int .i64 (thF F T ws G 0 0)) ∧ Below w.heap.size w w' := by
 obtain ⟨va, cg, rfl, kG⟩ := h1.any
 clear h1
 have hM1 : bits .andNot .u64 (F : Int) (T : Int) = ((F &&& (18446744073709551615 - T) : Nat) : Int) := u64_andNot_nat F T hF hT
 have hM2 : bits .andNot .u64 (T : Int) (F : Int) = ((T &&& (18446744073709551615 - F) : Nat) : Int) := u64_andNot_nat T F hT hF
 have hMl1 : F &&& (18446744073709551615 - T) < 18446744073709551616 := Nat.lt_of_le_of_lt Nat.and_le_left hF
 have hMl2 : T &&& (18446744073709551615 - F) < 18446744073709551616 := Nat.lt_of_le_of_lt Nat.and_le_left hT
 have hN1 := fun g => hasN_andNot F T g hT
 have hN2 := fun g => hasN_andNot T F g hF
 generalize F &&& (18446744073709551615 - T) = D1 at *
 generalize T &&& (18446744073709551615 - F) = D2 at *
 generalize hA : thF F T ws G 0 0 = A
 have hb0 : Below w.heap.size w (w.alloc (.cells #[.slice va G.length cg, vm] 79)) := zBz
 have B0 : Has (w.alloc (.cells #[.slice va G.length cg, vm] 79)) w.heap.size #[.slice va G.length cg, vm] := Has.new _ _ _ rfl
 go_enter Tryz.func71, Tryz.ntmps71
 go_wp2
 generalize (w.alloc (.cells #[.slice va G.length cg, vm] 79)) = W0 at *
 go_loopw [9, 15] (fun tn tk wr => ∃ (k : Nat) (n : Int), k ≤ G.length ∧ tk = .int .i64 (k : Int) ∧ tn = .int .i64 n ∧ Hid (thF F T ws (G.drop k) k n = A) ∧ Hid (Has wr w.heap.size #[.slice va G.length cg, vm]) ∧ Hid (Below w.heap.size w wr)) (fun _ tk _ => G.length - (intOf tk).toNat)
 case atStart => exact ⟨0, 0, by omega, rfl, rfl, hA, B0, hb0⟩
 case round =>
  clear B0 hb0 hA; obtain ⟨k, n, hkl, rfl, rfl, hs, B, hb⟩ := hrel; obtain ⟨_, b1, _⟩ := id B.out
  by_cases hlt : k < G.length
  ·obtain ⟨g, o, rfl, hg, P⟩ := kG.resolve_left (by intro e; rw [e] at hlt; simp at hlt)
   obtain ⟨gw, rfl, hgw, hcw⟩ := hws.resolve_left (by intro e; rw [e] at hlt; simp at hlt); have p0 := (hb.out.cell (p := ⟨g, _, none⟩) hg).trans (P k hlt 0 _ rfl); have p1 := (hb.out.cell (p := ⟨g, _, none⟩) hg).trans (P k hlt 1 _ rfl); have p2 := (hb.out.cell (p := ⟨g, _, none⟩) hg).trans (P k hlt 2 _ rfl); have p3 := (hb.out.cell (p := ⟨g, _, none⟩) hg).trans (P k hlt 3 _ rfl); have p4 := (hb.out.cell (p := ⟨g, _, none⟩) hg).trans (P k hlt 4 _ rfl); simp only [Nat.add_zero] at p0; obtain ⟨hc, hr⟩ := hcw k hlt; have hs' := hs.out; rw [thF_step F T ws G k n hlt] at hs'; have mn := mins k hlt; have t1 : (k : Int) < (G.length : Int) := by omega
   have t0 : (0 : Int) ≤ (k : Int) := by omega
   have t2 : k + 1 ≤ G.length := hlt; have hH1 := fun (W : World) => zDq D1 (k : Int) W hMl1 (by omega)
   have hH2 := fun (W : World) => zDq D2 (k : Int) W hMl2 (by omega)
   have eh1 : hasN D1 (k : Int) = zBw F T k := hN1 (k : Int); have eh2 : hasN D2 (k : Int) = zBw T F k := hN2 (k : Int); rw [eh1] at hH1; rw [eh2] at hH2; clear P kG hs mins hcw hws eh1 eh2 hN1 hN2; generalize ws k = u at *; generalize G[k].name = x0 at *; generalize G[k].sort = x1 at *; generalize G[k].min = x2 at *; generalize G[k].amber = x3 at *; generalize G[k].lead = x4 at *; have wa : IntKind.i64.wrap (1 + x3) = 1 + x3 := zDp _ (by omega); have wb : IntKind.i64.wrap (1 + u) = 1 + u := zDp _ (by omega); have wc : IntKind.i64.wrap (1 + u + x4) = 1 + u + x4 := zDp _ (by omega); clear mn hr; have hbN : Below w.heap.size w (wr.alloc (.cells #[.string x0, .int .i64 x1, .int .i64 x2, .int .i64 x3, .int .i64 x4] 73)) := hb.out.alloc hb.out.size _; have BN := B.out.alloc (.cells #[.string x0, .int .i64 x1, .int .i64 x2, .int .i64 x3, .int .i64 x4] 73); have cN : (wr.alloc (.cells #[.string x0, .int .i64 x1, .int .i64 x2, .int .i64 x3, .int .i64 x4] 73)).cell? ⟨gw, k, none⟩ = some (.int .i64 u) := (hbN.cell (p := ⟨gw, k, none⟩) hgw).trans hc; have cM : wr.cell? ⟨gw, k, none⟩ = some (.int .i64 u) := (hb.out.cell (p := ⟨gw, k, none⟩) hgw).trans hc
   cases e1 : zBw F T k with
   | true =>
     rw [e1] at hH1; clear hH2; have hs2 : Hid (thF F T ws (G.drop (k + 1)) (k + 1) (if n < 1 + x3 then 1 + x3 else n) = A) := by show _ = _; rw [← hs', e1]; simp
     rw [mxI] at hs2; clear hs'
     go_wp2_with (first | (go_at_call 65; (with_reducible refine Calls.mono (hH1 _) ?_); rintro e w2 ⟨rfl, rfl⟩) | (go_at_call 65; (with_reducible refine Calls.mono (hH2 _) ?_); rintro e w2 ⟨rfl, rfl⟩))
     go_roundw
     case rel => exact ⟨k + 1, _, by omega, by go_num, rfl, hs2, BN, hbN⟩
     case measure => simp [intOf]; omega
   | false =>
     rw [e1] at hH1
     cases e2 : zBw T F k with
     | true =>
       rw [e2] at hH2; have hs2 : Hid (thF F T ws (G.drop (k + 1)) (k + 1) (if n < 1 + u + x4 then 1 + u + x4 else n) = A) := by show _ = _; rw [← hs', e1, e2]; simp
       rw [mxI] at hs2; clear hs'
       go_wp2_with (first | (go_at_call 65; (with_reducible refine Calls.mono (hH1 _) ?_); rintro e w2 ⟨rfl, rfl⟩) | (go_at_call 65; (with_reducible refine Calls.mono (hH2 _) ?_); rintro e w2 ⟨rfl, rfl⟩))
       go_quiet (fail)
       go_wp2; go_roundw
       case rel => exact ⟨k + 1, _, by omega, by go_num, rfl, hs2, BN.drewN nq, zAh hbN⟩
       case measure => simp [intOf]; omega
     | false =>
       rw [e2] at hH2; have hs2 : Hid (thF F T ws (G.drop (k + 1)) (k + 1) (n) = A) := by show _ = _; rw [← hs', e1, e2]; simp
       clear hs'
       go_wp2_with (first | (go_at_call 65; (with_reducible refine Calls.mono (hH1 _) ?_); rintro e w2 ⟨rfl, rfl⟩) | (go_at_call 65; (with_reducible refine Calls.mono (hH2 _) ?_); rintro e w2 ⟨rfl, rfl⟩))
       go_roundw
       case rel => exact ⟨k + 1, _, by omega, by go_num, rfl, hs2, BN, hbN⟩
       case measure => simp [intOf]; omega
  ·have t1 : ¬ (k : Int) < (G.length : Int) := by omega
   have hA' : n = A := by rw [← hs.out]; exact (thF_end F T ws G k n (by omega)).symm
   subst hA'; clear hs kG mins hws; go_wp2; go_ret; exact ⟨rfl, hb.out⟩
open Go.RowKit Go.Maps Go.WideMaps
theorem laidOutM : laidOutB Tryz.prog = true := by kernel_rfl
theorem row55 : (132 : TypeId) < Tryz.prog.types.size := of_decide_eq_true (by kernel_rfl)
theorem cells55 : Tryz.prog.cellsOf 132 = 2 := by kernel_rfl
theorem wide55 : (match Tryz.prog.underlying 132 with | some (.array _ _) | some (.struct _) => true | _ => false) = true := by rw [Tryz.underlying132]
theorem lawP : Keyed Tryz.prog 132 := Keyed.of_law (deep_law_laid laidOutM (m := 2) (by omega) row55 (by kernel_rfl) wide55)
theorem key55 : Tryz.prog.keyType 132 = true := by kernel_rfl
theorem formed55 {c0 c1 : Value} : (Value.agg #[c0, c1]).formed Tryz.prog 132 = true := by simp [Value.formed, Tryz.underlying132, cells55]
def pk (a b : Int) : Lit := .string (keyBytes [.int .i64 a, .int .i64 b])
theorem pk_some (a b : Int) (ha : (Lit.int .i64 a).wf = true) (hb : (Lit.int .i64 b).wf = true) : keyOf Tryz.prog 132 (.agg #[.int .i64 a, .int .i64 b]) = some (pk a b) := by
 obtain ⟨d, hd⟩ : ∃ d, Tryz.prog.types.size = d + 1 := ⟨Tryz.prog.types.size - 1, by have h : (132 : Nat) < Tryz.prog.types.size := row55; omega⟩
 have e : Tryz.prog.keyLits (d + 1 + 1) 132 [.int .i64 a, .int .i64 b] = some [.int .i64 a, .int .i64 b] := by
  simp [Program.keyLits, Tryz.underlying132, Tryz.underlying3, cells55, c3, ha, hb, List.range, List.range.loop]
 unfold keyOf
 rw [Tryz.underlying132]
 simp only [key55, formed55, Bool.and_self, if_true]
 rw [hd]
 have e2 : (Value.agg #[Value.int IntKind.i64 a, Value.int IntKind.i64 b]).cells.toList = [.int .i64 a, .int .i64 b] := by simp [Value.cells]
 rw [e2, e]
 rfl
theorem pk_inj {a b a' b' : Int} (ha : (Lit.int .i64 a).wf = true) (hb : (Lit.int .i64 b).wf = true) (ha' : (Lit.int .i64 a').wf = true) (hb' : (Lit.int .i64 b').wf = true) (h : pk a b = pk a' b') : a = a' ∧ b = b' := by
 have h1 := pk_some a b ha hb
 have h2 := pk_some a' b' ha' hb'
 rw [← h] at h2
 have := lawP.inj h1 h2
 simpa using this
def mD (C : List Cf) : Nat → DataW Unit
 | 0 => .map []
 | k + 1 => match C[k]? with
   | some c => ((mD C k).put (pk c.a c.b) (.lit (.int .i64 c.ab))).put (pk c.b c.a) (.lit (.int .i64 c.ba))
   | none => mD C k
theorem mD_step (C : List Cf) (k : Nat) (h : k < C.length) : mD C (k + 1) = ((mD C k).put (pk C[k].a C[k].b) (.lit (.int .i64 C[k].ab))).put (pk C[k].b C[k].a) (.lit (.int .i64 C[k].ba)) := by
 simp only [mD]; rw [List.getElem?_eq_getElem h]
theorem streetOf_any (C : List Cf) (vg vc : Value) (w : World) (h2 : Fl 4 Cf.cs w vc C) (lC : C.length ≤ 4398046511000) (ok : ∀ (i : Nat) (h : i < C.length), C[i].ok) (hv : ∃ a n c, vg = .slice a n c) :
  Calls Tryz.prog 59 #[.agg #[vg, vc]] w fun e w' => (∃ mb, e = .returned (.agg #[vg, .map (some mb)]) ∧ w'.ownsMap (H := Unit) Tryz.prog 132 (plainElem Tryz.prog 3) mb (2 * C.length) (mD C C.length) ∧ w.heap.size ≤ mb ∧ mb < w'.heap.size) ∧ Below w.heap.size w w' := by
 obtain ⟨vb, cc, rfl, kC⟩ := h2.any
 obtain ⟨ga, gn, gc, rfl⟩ := hv
 clear h2
 have hmm : ∀ (W : World) (n : Int), 0 ≤ n → (Instr.makeMap 77 (some (.int .i64 n))).run Tryz.prog W = .ok (.map (some W.heap.size)) (W.alloc (.map #[] 0)) := fun W n hn => by simp [Instr.makeMap, underlying, Tryz.underlying77]; rfl
 have wl : IntKind.i64.wrap (2 * (C.length : Int)) = 2 * (C.length : Int) := zDp _ (by omega)
 have l0 : (0 : Int) ≤ 2 * (C.length : Int) := by omega
 go_enter Tryz.func59, Tryz.ntmps59
 go_upto_region 1 with fail
 have H1 : Has ((w.alloc (.cells #[.slice ga gn gc, .slice vb C.length cc] 25)).alloc (.cells #[.slice none 0 0, .map none] 79)) w.heap.size #[.slice ga gn gc, .slice vb C.length cc] := (Has.new _ _ _ rfl).alloc _
 have H2 : Has ((w.alloc (.cells #[.slice ga gn gc, .slice vb C.length cc] 25)).alloc (.cells #[.slice none 0 0, .map none] 79)) (w.heap.size + 1) #[.slice none 0 0, .map none] := Has.new _ _ _ (by simp)
 have HB : Below w.heap.size w ((w.alloc (.cells #[.slice ga gn gc, .slice vb C.length cc] 25)).alloc (.cells #[.slice none 0 0, .map none] 79)) := belA
 generalize ((w.alloc (.cells #[.slice ga gn gc, .slice vb C.length cc] 25)).alloc (.cells #[.slice none 0 0, .map none] 79)) = W0 at *
 have z0 : w.heap.size + 2 ≤ W0.heap.size := H2.1
 obtain ⟨_, i1, _⟩ := id H1
 go_cut [3] from 6 to 13 (fun s3 wx => ∃ mb sb, s3 = .pointer (some ⟨sb, 0, none⟩) ∧ Has wx sb #[.slice ga gn gc, .map (some mb)] ∧ Has wx w.heap.size #[.slice ga gn gc, .slice vb C.length cc] ∧ Has wx (w.heap.size + 1) #[.slice none 0 0, .map none] ∧ wx.ownsMap (H := Unit) Tryz.prog 132 (plainElem Tryz.prog 3) mb 0 (.map []) ∧ Below w.heap.size w wx ∧ w.heap.size + 2 ≤ mb ∧ w.heap.size + 2 ≤ sb ∧ mb ≠ sb ∧ mb < wx.heap.size)
 case first =>
  go_region
  all_goals (go_wp2_with fail; go_meet)
  case rel => exact ⟨W0.heap.size, W0.heap.size + 1, rfl, (Has.new _ _ _ (by simp)).drew, ((H1.alloc _).alloc _).drew, ((H2.alloc _).alloc _).drew, ((World.ownsMap_made W0 _ _ _).alloc _).drew, ((HB.alloc HB.size _).alloc (by have := HB.size; simp; omega) _).drew, by omega, by omega, by omega, by simp; omega⟩
  case rel => exact ⟨W0.heap.size + 1, W0.heap.size, rfl, ((Has.new _ _ _ rfl).alloc _).drew, ((H1.alloc _).alloc _).drew, ((H2.alloc _).alloc _).drew, (by have := World.ownsMap_made (H := Unit) (W0.alloc (.cells #[.slice ga gn gc, .map (some (W0.heap.size + 1))] 79)) Tryz.prog 132 (plainElem Tryz.prog 3); simp at this; exact this.drew), ((HB.alloc HB.size _).alloc (by have := HB.size; simp; omega) _).drew, by omega, by omega, by omega, by simp⟩
 case rest =>
  obtain ⟨mb, sb, rfl, S, B, R, hm0, hb, m1, s1, ms, ml⟩ := hcut; clear H1 H2 HB i1 hmm wl l0 z0; obtain ⟨_, y1, _⟩ := id B; go_wp2
  go_loopw [17] (fun t wr => ∃ k : Nat, k ≤ C.length ∧ t = .int .i64 (k : Int) ∧ Hid (wr.ownsMap (H := Unit) Tryz.prog 132 (plainElem Tryz.prog 3) mb (2 * k) (mD C k)) ∧ Hid (Has wr sb #[.slice ga gn gc, .map (some mb)]) ∧ Hid (Has wr (w.heap.size + 1) #[.slice none 0 0, .map none]) ∧ Hid (Below w.heap.size w wr) ∧ mb < wr.heap.size) (fun t _ => C.length - (intOf t).toNat)
  case atStart => exact ⟨0, by omega, rfl, hm0, S, R, hb, ml⟩
  case round =>
   clear hm0 S B R hb y1 ml; obtain ⟨k, hkl, rfl, hm, S, R, hb, ml⟩ := hrel; obtain ⟨_, s2, s3⟩ := id S.out
   by_cases hlt : k < C.length
   ·obtain ⟨g, o, rfl, hg, P⟩ := kC.resolve_left (by intro e; rw [e] at hlt; simp at hlt)
    have p0 := (hb.out.cell (p := ⟨g, _, none⟩) hg).trans (P k hlt 0 _ rfl); have p1 := (hb.out.cell (p := ⟨g, _, none⟩) hg).trans (P k hlt 1 _ rfl); have p2 := (hb.out.cell (p := ⟨g, _, none⟩) hg).trans (P k hlt 2 _ rfl); have p3 := (hb.out.cell (p := ⟨g, _, none⟩) hg).trans (P k hlt 3 _ rfl); simp only [Nat.add_zero] at p0; obtain ⟨o1, o2, o3, o4⟩ := ok k hlt; have hst := mD_step C k hlt; have t1 : (k : Int) < (C.length : Int) := by omega
    have t0 : (0 : Int) ≤ (k : Int) := by omega
    have t2 : k + 1 ≤ C.length := hlt; clear P kC ok; generalize C[k].a = xa at *; generalize C[k].b = xb at *; generalize C[k].ab = xab at *; generalize C[k].ba = xba at *; have k1 := pk_some xa xb o1 o2; have k2 := pk_some xb xa o2 o1; have e3 : plainElem (H := Unit) Tryz.prog 3 (.int .i64 xab) = some (.lit (.int .i64 xab), []) := plainElem_int Tryz.underlying3 o3; have e4 : plainElem (H := Unit) Tryz.prog 3 (.int .i64 xba) = some (.lit (.int .i64 xba), []) := plainElem_int Tryz.underlying3 o4; have hbN : Below w.heap.size w (wr.alloc (.cells #[.int .i64 xa, .int .i64 xb, .int .i64 xab, .int .i64 xba] 75)) := hb.out.alloc hb.out.size _; have SN := S.out.alloc (.cells #[.int .i64 xa, .int .i64 xb, .int .i64 xab, .int .i64 xba] 75); have RN := R.out.alloc (.cells #[.int .i64 xa, .int .i64 xb, .int .i64 xab, .int .i64 xba] 75); have CN : Has (wr.alloc (.cells #[.int .i64 xa, .int .i64 xb, .int .i64 xab, .int .i64 xba] 75)) wr.heap.size #[.int .i64 xa, .int .i64 xb, .int .i64 xab, .int .i64 xba] := Has.new _ _ _ rfl; have hmN := hm.out.alloc (.cells #[.int .i64 xa, .int .i64 xb, .int .i64 xab, .int .i64 xba] 75); clear o1 o2 o3 o4
    go_wp2_with (first
     | (at_mapUpdate; refine wpList_mapUpdate_own _ rfl _ _ _ 77 rfl 132 3 lawP Tryz.underlying77 (plainElem Tryz.prog 3) mb (2 * k) (mD C k) rfl hmN (by unfold maxLen; omega) _ _ (pk xa xb) rfl rfl k1 (.lit (.int .i64 xab)) [] e3 ?_; intro w2 hm2 hg2; have O2 : Only (fun q => some mb = some q) (wr.alloc (.cells #[.int .i64 xa, .int .i64 xb, .int .i64 xab, .int .i64 xba] 75)) w2 := zDf (Only.refl _ _) hg2 (fun q hq => .inl hq); have S2 := SN.only O2 (fun e => ms (by injection e)); have R2 := RN.only O2 (fun e => by injection e with e; omega); have C2 := CN.only O2 (fun e => by injection e with e; omega); have hb2 := zBy hbN O2 (Nat.le_refl _) (fun q hq e => by injection e with e; omega); have z2 := O2.size; obtain ⟨_, v1, v2⟩ := id S2; obtain ⟨_, u1, u2⟩ := id C2; clear hg2 hmN)
     | (at_mapUpdate; refine wpList_mapUpdate_own _ rfl _ _ _ 77 rfl 132 3 lawP Tryz.underlying77 (plainElem Tryz.prog 3) mb (2 * k + 1) _ rfl hm2 (by unfold maxLen; omega) _ _ (pk xb xa) rfl rfl k2 (.lit (.int .i64 xba)) [] e4 ?_; intro w3 hm3 hg3; have O3 : Only (fun q => some mb = some q) w2 w3 := zDf (Only.refl _ _) hg3 (fun q hq => .inl hq); have S3 := S2.only O3 (fun e => ms (by injection e)); have R3 := R2.only O3 (fun e => by injection e with e; omega); have hb3 := zBy hb2 O3 (Nat.le_refl _) (fun q hq e => by injection e with e; omega); have z3 := O3.size; clear hg3))
    have hm4 : w3.ownsMap (H := Unit) Tryz.prog 132 (plainElem Tryz.prog 3) mb (2 * (k + 1)) (mD C (k + 1)) := by rw [hst]; exact hm3
    have ml3 : mb < w3.heap.size := by simp at z2; omega
    go_roundw
    case rel => exact ⟨k + 1, by omega, by go_num, hm4, S3, R3, hb3, ml3⟩
    case measure => simp [intOf]; omega
   ·have t1 : ¬ (k : Int) < (C.length : Int) := by omega
    obtain rfl : k = C.length := by omega
    obtain ⟨_, r2, r3⟩ := id R.out; go_wp2; have K : Has ((wr.setCell ⟨w.heap.size + 1, 0, none⟩ (.slice ga gn gc)).setCell ⟨w.heap.size + 1, 1, none⟩ (.map (some mb))) (w.heap.size + 1) #[.slice ga gn gc, .map (some mb)] := by simpa using (R.out.set 0 (by simp) (.slice ga gn gc)).set 1 (by simp) (.map (some mb))
    have hmF := (hm.out.setCell (a := ⟨w.heap.size + 1, 0, none⟩) (by show mb ≠ w.heap.size + 1; omega) (.slice ga gn gc)).setCell (a := ⟨w.heap.size + 1, 1, none⟩) (by show mb ≠ w.heap.size + 1; omega) (.map (some mb)); have hbF := (hb.out.setCell (p := ⟨w.heap.size + 1, 0, none⟩) (by simp) (.slice ga gn gc)).setCell (p := ⟨w.heap.size + 1, 1, none⟩) (by simp) (.map (some mb)); obtain ⟨_, k1, _⟩ := id K; exact bodyPost_ret (v := .agg #[.slice ga gn gc, .map (some mb)]) (by simp [results, Tryz.results59, go_sem, k1]) rfl ⟨⟨mb, rfl, hmF, by omega, by simpa [World.setCell] using ml⟩, hbF⟩
def stepD (D : DataW Unit) (c : Cf) : DataW Unit := (D.put (pk c.a c.b) (.lit (.int .i64 c.ab))).put (pk c.b c.a) (.lit (.int .i64 c.ba))
theorem mD_fold (C : List Cf) : ∀ k, k ≤ C.length → mD C k = (C.take k).foldl stepD (.map [])
 | 0, _ => rfl
 | k + 1, h => by
   rw [mD_step C k (by omega), List.take_succ_eq_append_getElem (by omega), List.foldl_append, ← mD_fold C k (by omega)]
   rfl
theorem ordB_trans {b c d : Cf} (h1 : ordB b c = true) (h2 : ordB c d = true) : ordB b d = true := by
 simp [ordB] at *; omega
theorem rows_ord {n : Nat} : ∀ (cs : List Cf) (c : Cf), zBv n (some c) cs = true → ∀ d ∈ cs, ordB c d = true ∧ cfB n d = true
 | [], _, _, d, hd => by cases hd
 | x :: xs, c, h, d, hd => by
   simp [zBv, ordP] at h; rcases List.mem_cons.1 hd with rfl | hd
   ·exact ⟨h.1.2, h.1.1⟩
   ·have ih := rows_ord xs x h.2 d hd
    exact ⟨ordB_trans h.1.2 ih.1, ih.2⟩
theorem zGe : ∀ (cs : List Cf) (o g : Int), (∀ d ∈ cs, ¬ (d.a = o ∧ d.b = g) ∧ ¬ (d.a = g ∧ d.b = o)) → zAu cs o g = (0, false)
 | [], _, _, _ => rfl
 | d :: cs, o, g, h => by
   have h1 := h d (by simp); unfold zAu; rw [if_neg h1.1, if_neg h1.2]; exact zGe cs o g (fun e he => h e (by simp [he]))
theorem stepD_map {D : DataW Unit} (h : IsMap D) (c : Cf) : IsMap (stepD D c) := (h.put _ _).put _ _
theorem fold_at {n : Nat} : ∀ (cs : List Cf) (p : Option Cf) (D : DataW Unit) (o g : Int) (z : DataW Unit), IsMap D → zBv n p cs = true → (∀ d ∈ cs, d.ok) → (Lit.int .i64 o).wf = true → (Lit.int .i64 g).wf = true →
  (cs.foldl stepD D).atKey (pk o g) z = (if (zAu cs o g).2 = true then .lit (.int .i64 (zAu cs o g).1) else D.atKey (pk o g) z) ∧ Maps.has (cs.foldl stepD D) (pk o g) = ((zAu cs o g).2 || Maps.has D (pk o g))
 | [], _, D, o, g, z, _, _, _, _, _ => by simp [zAu]
 | c :: cs, p, D, o, g, z, hD, hr, ok, wo, wg => by
   have okc := ok c (by simp); simp [zBv] at hr; have hr1 := hr.1.1; have hr2 := hr.2; have so := rows_ord cs c hr2; have ih := fold_at cs (some c) (stepD D c) o g z (stepD_map hD c) hr2 (fun d hd => ok d (by simp [hd])) wo wg; have ab : c.a < c.b := by simp [cfB] at hr1; exact hr1.2.1
   have ne1 : pk c.a c.b ≠ pk c.b c.a := fun e => by have := pk_inj okc.1 okc.2.1 okc.2.1 okc.1 e; omega
   have later : ∀ d ∈ cs, ¬ (d.a = c.a ∧ d.b = c.b) ∧ ¬ (d.a = c.b ∧ d.b = c.a) := fun d hd => by
    have h1 := so d hd; have h2 := h1.1; have h3 := h1.2; simp [ordB] at h2; simp [cfB] at h3
    constructor <;> omega
   have k1 : WideAt.IsKeyLit (pk c.a c.b) := trivial; have k2 : WideAt.IsKeyLit (pk c.b c.a) := trivial; rw [List.foldl_cons, ih.1, ih.2]
   by_cases m1 : c.a = o ∧ c.b = g
   ·obtain ⟨rfl, rfl⟩ := m1
    have e1 : zAu (c :: cs) c.a c.b = (c.ab, true) := by simp [zAu]
    rw [zGe cs c.a c.b later, e1]
    constructor
    ·simp [stepD, atKey_put_other ne1, atKey_put_same hD k1]
    ·simp [stepD, has_put_other ne1, has_put_same hD k1]
   ·by_cases m2 : c.a = g ∧ c.b = o
    ·obtain ⟨rfl, rfl⟩ := m2
     have e1 : zAu (c :: cs) c.b c.a = (c.ba, true) := by
      have : ¬ (c.a = c.b ∧ c.b = c.a) := by omega
      simp [zAu, this]
     rw [zGe cs c.b c.a (fun d hd => ⟨(later d hd).2, (later d hd).1⟩), e1]
     constructor
     ·simp [stepD, atKey_put_same (hD.put _ _) k2]
     ·simp [stepD, has_put_same (hD.put _ _) k2]
    ·have e1 : zAu (c :: cs) o g = zAu cs o g := by
      show (if c.a = o ∧ c.b = g then _ else if c.a = g ∧ c.b = o then _ else _) = _; rw [if_neg m1, if_neg m2]
     have n1 : pk o g ≠ pk c.a c.b := fun e => by have := pk_inj wo wg okc.1 okc.2.1 e; exact m1 ⟨this.1.symm, this.2.symm⟩
     have n2 : pk o g ≠ pk c.b c.a := fun e => by have := pk_inj wo wg okc.2.1 okc.1 e; exact m2 ⟨this.2.symm, this.1.symm⟩
     rw [e1]; simp [stepD, atKey_put_other n1, atKey_put_other n2, has_put_other n1, has_put_other n2]
theorem mD_at {G : List Gp} {C : List Cf} (gr : zBg G C = true) (ok : ∀ (i : Nat) (h : i < C.length), C[i].ok) (o g : Int) (wo : (Lit.int .i64 o).wf = true) (wg : (Lit.int .i64 g).wf = true) (z : DataW Unit) :
  (mD C C.length).atKey (pk o g) z = (if (zAu C o g).2 = true then .lit (.int .i64 (zAu C o g).1) else z) ∧ Maps.has (mD C C.length) (pk o g) = (zAu C o g).2 := by
 have hr : zBv G.length none C = true := by simp [zBg] at gr; exact gr.2.2
 have h := fold_at C none (.map []) o g z isMap_empty hr (fun d hd => by obtain ⟨i, hi, rfl⟩ := List.mem_iff_getElem.1 hd; exact ok i hi) wo wg
 rw [mD_fold C C.length (Nat.le_refl _), List.take_length]
 refine ⟨h.1.trans ?_, h.2.trans ?_⟩
 ·simp [DataW.atKey]
 ·simp [Maps.has]
def wA (C : List Cf) (A : Nat) (g : Int) : List Gp → Nat → Int → Int
 | [], _, w => w
 | x :: xs, o, w => wA C A g xs (o + 1) (if hasN A (o : Int) = true then (if w < zCu x C (o : Int) g then zCu x C (o : Int) g else w) else w)
theorem wF_wA (C : List Cf) (F T A : Nat) (all : Bool) (g : Int) : ∀ (G : List Gp) (o : Nat) (w : Int), (∀ k, o ≤ k → k < o + G.length → hasN A (k : Int) = (all || zBw F T k)) → wF C F T all g G o w = wA C A g G o w
 | [], _, _, _ => rfl
 | x :: xs, o, w, h => by
   unfold wF wA; rw [h o (Nat.le_refl _) (by simp)]; exact wF_wA C F T A all g xs (o + 1) _ (fun k h1 h2 => h k (by omega) (by simp; omega))
theorem wA_max (C : List Cf) (A : Nat) (g : Int) : ∀ (G : List Gp) (o : Nat) (w : Int), w ≤ wA C A g G o w ∧ (∀ (i : Nat) (h : i < G.length), hasN A ((o + i : Nat) : Int) = true → zCu G[i] C ((o + i : Nat) : Int) g ≤ wA C A g G o w) ∧
  (wA C A g G o w = w ∨ ∃ (i : Nat) (h : i < G.length), hasN A ((o + i : Nat) : Int) = true ∧ wA C A g G o w = zCu G[i] C ((o + i : Nat) : Int) g)
 | [], _, w => ⟨by simp [wA], fun i h => by simp at h, .inl rfl⟩
 | x :: xs, o, w => by
   obtain ⟨i1, i2, i3⟩ := wA_max C A g xs (o + 1) (if hasN A (o : Int) = true then (if w < zCu x C (o : Int) g then zCu x C (o : Int) g else w) else w); have e : wA C A g (x :: xs) o w = wA C A g xs (o + 1) (if hasN A (o : Int) = true then (if w < zCu x C (o : Int) g then zCu x C (o : Int) g else w) else w) := rfl; rw [e]; refine ⟨?_, fun i h hm => ?_, ?_⟩
   ·refine Int.le_trans ?_ i1
    split
    ·split <;> omega
    ·omega
   ·cases i with
    | zero =>
      simp only [Nat.add_zero] at hm ⊢; refine Int.le_trans ?_ i1; rw [if_pos hm]; show zCu x C (o : Int) g ≤ _; split <;> omega
    | succ i =>
      have := i2 i (by simpa using h) (by rw [show o + 1 + i = o + (i + 1) by omega]; exact hm); rw [show o + 1 + i = o + (i + 1) by omega] at this
      simpa using this
   ·rcases i3 with i3 | ⟨i, hi, hm, hv⟩
    ·by_cases ha : hasN A (o : Int) = true
     ·rw [if_pos ha] at i3 ⊢
      by_cases hl : w < zCu x C (o : Int) g
      ·rw [if_pos hl] at i3 ⊢
       exact .inr ⟨0, by simp, by simpa using ha, by simpa using i3⟩
      ·rw [if_neg hl] at i3 ⊢
       exact .inl i3
     ·rw [if_neg ha] at i3 ⊢
      exact .inl i3
    ·refine .inr ⟨i + 1, by simpa using hi, ?_, ?_⟩
     ·rw [show o + (i + 1) = o + 1 + i by omega]; exact hm
     ·rw [hv, show o + (i + 1) = o + 1 + i by omega]; simp
theorem zEf {n : Nat} : ∀ (cs : List Cf) (p : Option Cf) (o g : Int), zBv n p cs = true → (zAu cs o g).2 = true → (0 ≤ o ∧ o < (n : Int)) ∧ 0 ≤ g ∧ g < (n : Int)
 | [], _, _, _, _, h => by simp [zAu] at h
 | c :: cs, p, o, g, hr, h => by
   simp [zBv, cfB] at hr; have ih := zEf cs (some c) o g hr.2; unfold zAu at h; split at h
   ·omega
   ·split at h
    ·omega
    ·exact ih h
end Go.Proofs.YtjfieclmagbfbaaGreatDoor
