import Derived.Test.YtnicolaphmffkaaGreatDoorTkk
import Derived.Test.YtnicolaphmffkaaGreatDoorBnC
import Derived.Test.YtnicolaphmffkaaGreatDoorBnM
import Derived.Test.YtnicolaphmffkaaGreatDoorThA
import Derived.Test.YtnicolaphmffkaaGreatDoorRtF
namespace Go.Proofs.YtnicolaphmffkaaGreatDoor
set_option linter.unusedSimpArgs false
open Go.RowKit
set_option linter.unusedVariables false

/-- Does a move clash? -/
def ckM (Q : List Bool) (x1 : Int) (t : Nat) : Bool := (decide (x1 ≠ -1) && sn Q x1.toNat) || sn Q t
set_option maxRecDepth 100000 in
set_option maxHeartbeats 8000000 in
theorem clashes_any (G : List Gp) (C : List Cf) (D : List Dt) (TM CT : List ByteArray) (VR : List Vr) (SG : List Ts) (pn : ByteArray) (ga ca da ta ka va sa wa : Option Addr) (gc cc dc tc kc vc sc mb ra rc qa qc wc : Nat) (stt : Int) (Q : List Bool) (x1 : Int) (t : Nat) (w : World) (hQ : BlR w qa SG.length Q) (ht : t < SG.length) (hf : x1 = -1 ∨ ∃ k : Nat, x1 = (k : Int) ∧ k < SG.length) :
  Calls Tryz.prog 56 #[(.agg #[.string pn, .slice ga G.length gc, .slice ca C.length cc, .slice da D.length dc, .slice ta TM.length tc, .slice ka CT.length kc, .slice va VR.length vc, .slice sa SG.length sc, .int .i64 stt, .slice ga G.length gc, .map (some mb), .slice (some ⟨ra, 0, none⟩) SG.length rc, .slice (some ⟨qa, 0, none⟩) SG.length qc, .slice wa G.length wc]), .agg #[.int .i64 x1, .int .i64 (t : Int)]] w fun e w' => e = .returned (.bool (ckM Q x1 t)) ∧ Below w.heap.size w w' := by
 have hb0 : Below w.heap.size w ((w.alloc (.cells #[.string pn, .slice ga G.length gc, .slice ca C.length cc, .slice da D.length dc, .slice ta TM.length tc, .slice ka CT.length kc, .slice va VR.length vc, .slice sa SG.length sc, .int .i64 stt, .slice ga G.length gc, .map (some mb), .slice (some ⟨ra, 0, none⟩) SG.length rc, .slice (some ⟨qa, 0, none⟩) SG.length qc, .slice wa G.length wc] 123)).alloc (.cells #[.int .i64 x1, .int .i64 (t : Int)] 128)) := ((Below.refl _ _).alloc (Nat.le_refl _) _).alloc (by simp) _
 have K0 : Has ((w.alloc (.cells #[.string pn, .slice ga G.length gc, .slice ca C.length cc, .slice da D.length dc, .slice ta TM.length tc, .slice ka CT.length kc, .slice va VR.length vc, .slice sa SG.length sc, .int .i64 stt, .slice ga G.length gc, .map (some mb), .slice (some ⟨ra, 0, none⟩) SG.length rc, .slice (some ⟨qa, 0, none⟩) SG.length qc, .slice wa G.length wc] 123)).alloc (.cells #[.int .i64 x1, .int .i64 (t : Int)] 128)) w.heap.size #[.string pn, .slice ga G.length gc, .slice ca C.length cc, .slice da D.length dc, .slice ta TM.length tc, .slice ka CT.length kc, .slice va VR.length vc, .slice sa SG.length sc, .int .i64 stt, .slice ga G.length gc, .map (some mb), .slice (some ⟨ra, 0, none⟩) SG.length rc, .slice (some ⟨qa, 0, none⟩) SG.length qc, .slice wa G.length wc] := (Has.new w #[.string pn, .slice ga G.length gc, .slice ca C.length cc, .slice da D.length dc, .slice ta TM.length tc, .slice ka CT.length kc, .slice va VR.length vc, .slice sa SG.length sc, .int .i64 stt, .slice ga G.length gc, .map (some mb), .slice (some ⟨ra, 0, none⟩) SG.length rc, .slice (some ⟨qa, 0, none⟩) SG.length qc, .slice wa G.length wc] 123 rfl).alloc _
 have M0 : Has ((w.alloc (.cells #[.string pn, .slice ga G.length gc, .slice ca C.length cc, .slice da D.length dc, .slice ta TM.length tc, .slice ka CT.length kc, .slice va VR.length vc, .slice sa SG.length sc, .int .i64 stt, .slice ga G.length gc, .map (some mb), .slice (some ⟨ra, 0, none⟩) SG.length rc, .slice (some ⟨qa, 0, none⟩) SG.length qc, .slice wa G.length wc] 123)).alloc (.cells #[.int .i64 x1, .int .i64 (t : Int)] 128)) (w.heap.size + 1) #[.int .i64 x1, .int .i64 (t : Int)] := by
  have := Has.new (w.alloc (.cells #[.string pn, .slice ga G.length gc, .slice ca C.length cc, .slice da D.length dc, .slice ta TM.length tc, .slice ka CT.length kc, .slice va VR.length vc, .slice sa SG.length sc, .int .i64 stt, .slice ga G.length gc, .map (some mb), .slice (some ⟨ra, 0, none⟩) SG.length rc, .slice (some ⟨qa, 0, none⟩) SG.length qc, .slice wa G.length wc] 123)) #[.int .i64 x1, .int .i64 (t : Int)] 128 rfl
  simpa using this
 obtain ⟨_, v1, v2⟩ := id K0
 obtain ⟨_, m1, m2⟩ := id M0
 have z1 := (hb0.cell (p := ⟨qa, t, none⟩) hQ.1).trans (hQ.2 t ht)
 have z2 := fun (k : Nat) (hk : k < SG.length) => (hb0.cell (p := ⟨qa, k, none⟩) hQ.1).trans (hQ.2 k hk)
 have t1 : (t : Int) < (SG.length : Int) := by omega
 have t0 : (0 : Int) ≤ (t : Int) := by omega
 rcases hf with rfl | ⟨k, rfl, hk⟩
 ·have hA : ckM Q (-1) t = sn Q t := by simp [ckM]
  rw [hA]
  go_enter Tryz.func56, Tryz.ntmps56
  go_wp2_with fail
  go_ret
  exact ⟨rfl, hb0⟩
 ·have s1 : (k : Int) < (SG.length : Int) := by omega
  have s0 : (0 : Int) ≤ (k : Int) := by omega
  have s2 : ¬ (k : Int) = -1 := by omega
  have hA : ckM Q (k : Int) t = (sn Q k || sn Q t) := by simp [ckM, s2]
  rw [hA]
  have z3 := z2 k hk
  clear z2
  generalize sn Q k = b1 at *
  cases b1 with
  | true =>
    go_enter Tryz.func56, Tryz.ntmps56
    go_wp2_with fail
    go_ret
    exact ⟨rfl, hb0⟩
  | false =>
    go_enter Tryz.func56, Tryz.ntmps56
    go_wp2_with fail
    go_ret
    exact ⟨rfl, hb0⟩
set_option maxRecDepth 100000 in
set_option maxHeartbeats 8000000 in
theorem longest_any (G : List Gp) (C : List Cf) (D : List Dt) (TM CT : List ByteArray) (VR : List Vr) (SG : List Ts) (pn : ByteArray) (ga ca da ta ka va sa wa : Option Addr) (gc cc dc tc kc vc sc mb ra rc qa qc wc : Nat) (stt : Int) (ws : Nat → Int) (x1 : Int) (t F T : Nat) (w : World) (hS : Tss (fun _ => True) w (.slice sa SG.length sc) SG) (hF : F < 18446744073709551616) (hT : T < 18446744073709551616) (hG : Fl 5 Gp.cs w (.slice ga G.length gc) G) (lG : G.length ≤ 2932031007317) (mins : ∀ (k : Nat) (hk : k < G.length), 0 ≤ G[k].amber ∧ G[k].amber ≤ 60 ∧ 0 ≤ G[k].lead ∧ G[k].lead ≤ 60)
  (hws : G = [] ∨ ∃ gw, wa = some ⟨gw, 0, none⟩ ∧ gw < w.heap.size ∧ ∀ i, i < G.length → w.cell? ⟨gw, i, none⟩ = some (.int .i64 (ws i)) ∧ 0 ≤ ws i ∧ ws i ≤ 3600) (ht : t < SG.length) (hgt : SG[t].green = (T : Int)) (hf : (x1 = -1 ∧ F = 0) ∨ ∃ (k : Nat) (hk : k < SG.length), x1 = (k : Int) ∧ SG[k].green = (F : Int)) :
  Calls Tryz.prog 57 #[(.agg #[.string pn, .slice ga G.length gc, .slice ca C.length cc, .slice da D.length dc, .slice ta TM.length tc, .slice ka CT.length kc, .slice va VR.length vc, .slice sa SG.length sc, .int .i64 stt, .slice ga G.length gc, .map (some mb), .slice (some ⟨ra, 0, none⟩) SG.length rc, .slice (some ⟨qa, 0, none⟩) SG.length qc, .slice wa G.length wc]), .agg #[.int .i64 x1, .int .i64 (t : Int)]] w fun e w' => e = .returned (.int .i64 (thF F T ws G 0 0)) ∧ Below w.heap.size w w' := by
 obtain ⟨_, _, e1, _, kS⟩ := Rows.any hS
 injection e1 with e1 _ e2
 subst e1
 subst e2
 clear hS
 obtain ⟨g, o, rfl, _, hg, hx⟩ := kS.resolve_left (by intro e; rw [e] at ht; simp at ht)
 clear kS
 have hb0 : Below w.heap.size w ((w.alloc (.cells #[.string pn, .slice ga G.length gc, .slice ca C.length cc, .slice da D.length dc, .slice ta TM.length tc, .slice ka CT.length kc, .slice va VR.length vc, .slice (some ⟨g, o, none⟩) SG.length sc, .int .i64 stt, .slice ga G.length gc, .map (some mb), .slice (some ⟨ra, 0, none⟩) SG.length rc, .slice (some ⟨qa, 0, none⟩) SG.length qc, .slice wa G.length wc] 123)).alloc (.cells #[.int .i64 x1, .int .i64 (t : Int)] 128)) := ((Below.refl _ _).alloc (Nat.le_refl _) _).alloc (by simp) _
 have K0 : Has ((w.alloc (.cells #[.string pn, .slice ga G.length gc, .slice ca C.length cc, .slice da D.length dc, .slice ta TM.length tc, .slice ka CT.length kc, .slice va VR.length vc, .slice (some ⟨g, o, none⟩) SG.length sc, .int .i64 stt, .slice ga G.length gc, .map (some mb), .slice (some ⟨ra, 0, none⟩) SG.length rc, .slice (some ⟨qa, 0, none⟩) SG.length qc, .slice wa G.length wc] 123)).alloc (.cells #[.int .i64 x1, .int .i64 (t : Int)] 128)) w.heap.size #[.string pn, .slice ga G.length gc, .slice ca C.length cc, .slice da D.length dc, .slice ta TM.length tc, .slice ka CT.length kc, .slice va VR.length vc, .slice (some ⟨g, o, none⟩) SG.length sc, .int .i64 stt, .slice ga G.length gc, .map (some mb), .slice (some ⟨ra, 0, none⟩) SG.length rc, .slice (some ⟨qa, 0, none⟩) SG.length qc, .slice wa G.length wc] := (Has.new w #[.string pn, .slice ga G.length gc, .slice ca C.length cc, .slice da D.length dc, .slice ta TM.length tc, .slice ka CT.length kc, .slice va VR.length vc, .slice (some ⟨g, o, none⟩) SG.length sc, .int .i64 stt, .slice ga G.length gc, .map (some mb), .slice (some ⟨ra, 0, none⟩) SG.length rc, .slice (some ⟨qa, 0, none⟩) SG.length qc, .slice wa G.length wc] 123 rfl).alloc _
 have M0 : Has ((w.alloc (.cells #[.string pn, .slice ga G.length gc, .slice ca C.length cc, .slice da D.length dc, .slice ta TM.length tc, .slice ka CT.length kc, .slice va VR.length vc, .slice (some ⟨g, o, none⟩) SG.length sc, .int .i64 stt, .slice ga G.length gc, .map (some mb), .slice (some ⟨ra, 0, none⟩) SG.length rc, .slice (some ⟨qa, 0, none⟩) SG.length qc, .slice wa G.length wc] 123)).alloc (.cells #[.int .i64 x1, .int .i64 (t : Int)] 128)) (w.heap.size + 1) #[.int .i64 x1, .int .i64 (t : Int)] := by
  have := Has.new (w.alloc (.cells #[.string pn, .slice ga G.length gc, .slice ca C.length cc, .slice da D.length dc, .slice ta TM.length tc, .slice ka CT.length kc, .slice va VR.length vc, .slice (some ⟨g, o, none⟩) SG.length sc, .int .i64 stt, .slice ga G.length gc, .map (some mb), .slice (some ⟨ra, 0, none⟩) SG.length rc, .slice (some ⟨qa, 0, none⟩) SG.length qc, .slice wa G.length wc] 123)) #[.int .i64 x1, .int .i64 (t : Int)] 128 rfl
  simpa using this
 obtain ⟨_, v1, v2⟩ := id K0
 obtain ⟨_, m1, m2⟩ := id M0
 have hbn0 : Below w.heap.size w ((w.alloc (.cells #[.string pn, .slice ga G.length gc, .slice ca C.length cc, .slice da D.length dc, .slice ta TM.length tc, .slice ka CT.length kc, .slice va VR.length vc, .slice (some ⟨g, o, none⟩) SG.length sc, .int .i64 stt, .slice ga G.length gc, .map (some mb), .slice (some ⟨ra, 0, none⟩) SG.length rc, .slice (some ⟨qa, 0, none⟩) SG.length qc, .slice wa G.length wc] 123)).alloc (.cells #[.int .i64 x1, .int .i64 (t : Int)] 128)).drew := hb0.drew
 have kth := fun (X : World) (hX : Below w.heap.size w X) => through_any G (.slice ga G.length gc) (.map (some mb)) F T ws wa wc X hF hT (hG.below hX) lG mins (by
  rcases hws with h | ⟨gw, h1, h2, h3⟩
  ·exact .inl h
  ·exact .inr ⟨gw, h1, Nat.lt_of_lt_of_le h2 hX.size, fun i hi => ⟨(hX.cell (p := ⟨gw, _, none⟩) h2).trans (h3 i hi).1, (h3 i hi).2⟩⟩)
 have hgn := fun (k : Nat) (hk : k < SG.length) (M : Nat) (hM : SG[k].green = (M : Int)) => (show ((w.alloc (.cells #[.string pn, .slice ga G.length gc, .slice ca C.length cc, .slice da D.length dc, .slice ta TM.length tc, .slice ka CT.length kc, .slice va VR.length vc, .slice (some ⟨g, o, none⟩) SG.length sc, .int .i64 stt, .slice ga G.length gc, .map (some mb), .slice (some ⟨ra, 0, none⟩) SG.length rc, .slice (some ⟨qa, 0, none⟩) SG.length qc, .slice wa G.length wc] 123)).alloc (.cells #[.int .i64 x1, .int .i64 (t : Int)] 128)).cell? ⟨g, o + k * 7 + 2, none⟩ = some (.int .u64 (M : Int)) by
  obtain ⟨cs, _, ⟨ve, vd, vl, vn, rfl, q1, q2, q3, q4⟩, P2⟩ := hx k hk
  rw [← hM]
  exact (hb0.cell (p := ⟨g, _, none⟩) hg).trans (P2 2 _ rfl))
 have y1 := hgn t ht T hgt
 have y2 : ((w.alloc (.cells #[.string pn, .slice ga G.length gc, .slice ca C.length cc, .slice da D.length dc, .slice ta TM.length tc, .slice ka CT.length kc, .slice va VR.length vc, .slice (some ⟨g, o, none⟩) SG.length sc, .int .i64 stt, .slice ga G.length gc, .map (some mb), .slice (some ⟨ra, 0, none⟩) SG.length rc, .slice (some ⟨qa, 0, none⟩) SG.length qc, .slice wa G.length wc] 123)).alloc (.cells #[.int .i64 x1, .int .i64 (t : Int)] 128)).cell? ⟨w.heap.size, 7, none⟩ = some (.slice (some ⟨g, o, none⟩) SG.length sc) := v1 7
 have y3 : ((w.alloc (.cells #[.string pn, .slice ga G.length gc, .slice ca C.length cc, .slice da D.length dc, .slice ta TM.length tc, .slice ka CT.length kc, .slice va VR.length vc, .slice (some ⟨g, o, none⟩) SG.length sc, .int .i64 stt, .slice ga G.length gc, .map (some mb), .slice (some ⟨ra, 0, none⟩) SG.length rc, .slice (some ⟨qa, 0, none⟩) SG.length qc, .slice wa G.length wc] 123)).alloc (.cells #[.int .i64 x1, .int .i64 (t : Int)] 128)).cell? ⟨w.heap.size, 9, none⟩ = some (.slice ga G.length gc) := v1 9
 have y4 : ((w.alloc (.cells #[.string pn, .slice ga G.length gc, .slice ca C.length cc, .slice da D.length dc, .slice ta TM.length tc, .slice ka CT.length kc, .slice va VR.length vc, .slice (some ⟨g, o, none⟩) SG.length sc, .int .i64 stt, .slice ga G.length gc, .map (some mb), .slice (some ⟨ra, 0, none⟩) SG.length rc, .slice (some ⟨qa, 0, none⟩) SG.length qc, .slice wa G.length wc] 123)).alloc (.cells #[.int .i64 x1, .int .i64 (t : Int)] 128)).cell? ⟨w.heap.size, 10, none⟩ = some (.map (some mb)) := v1 10
 have y5 : ((w.alloc (.cells #[.string pn, .slice ga G.length gc, .slice ca C.length cc, .slice da D.length dc, .slice ta TM.length tc, .slice ka CT.length kc, .slice va VR.length vc, .slice (some ⟨g, o, none⟩) SG.length sc, .int .i64 stt, .slice ga G.length gc, .map (some mb), .slice (some ⟨ra, 0, none⟩) SG.length rc, .slice (some ⟨qa, 0, none⟩) SG.length qc, .slice wa G.length wc] 123)).alloc (.cells #[.int .i64 x1, .int .i64 (t : Int)] 128)).cell? ⟨w.heap.size, 13, none⟩ = some (.slice wa G.length wc) := v1 13
 have y6 : ((w.alloc (.cells #[.string pn, .slice ga G.length gc, .slice ca C.length cc, .slice da D.length dc, .slice ta TM.length tc, .slice ka CT.length kc, .slice va VR.length vc, .slice (some ⟨g, o, none⟩) SG.length sc, .int .i64 stt, .slice ga G.length gc, .map (some mb), .slice (some ⟨ra, 0, none⟩) SG.length rc, .slice (some ⟨qa, 0, none⟩) SG.length qc, .slice wa G.length wc] 123)).alloc (.cells #[.int .i64 x1, .int .i64 (t : Int)] 128)).cell? ⟨w.heap.size + 1, 1, none⟩ = some (.int .i64 (t : Int)) := m1 1
 have t1 : (t : Int) < (SG.length : Int) := by omega
 have t0 : (0 : Int) ≤ (t : Int) := by omega
 clear hx hgt hG hws
 rcases hf with ⟨rfl, rfl⟩ | ⟨k, hk, rfl, hkF⟩
 ·clear hgn
  go_enter Tryz.func57, Tryz.ntmps57
  go_wp2_with fail
  refine wp_region_noPanic ?_
  refine wp_region_held_drew (S := fun w' => w'.cell? ⟨g, o + t * 7 + 2, none⟩ = some (.int .u64 (T : Int)) ∧ w'.cell? ⟨w.heap.size, 7, none⟩ = some (.slice (some ⟨g, o, none⟩) SG.length sc) ∧ w'.cell? ⟨w.heap.size, 9, none⟩ = some (.slice ga G.length gc) ∧ w'.cell? ⟨w.heap.size, 10, none⟩ = some (.map (some mb)) ∧ w'.cell? ⟨w.heap.size, 13, none⟩ = some (.slice wa G.length wc) ∧ w'.cell? ⟨w.heap.size + 1, 1, none⟩ = some (.int .i64 (t : Int))) (by kernel_rfl) ?_ (fun hHeld => ?_)
  ·(try dsimp only)
   exact ⟨y1, y2, y3, y4, y5, y6⟩
  refine tkY 0 ⟨some 17, .fieldAddr 123 (.tmp 2) 1, 0, "plan.go:71", #[], none⟩ ?_ rfl ⟨by rfl, ?_⟩ ?_
  rotate_left
  ·intro wz hSz; (try dsimp only at hSz); go_simp; all_goals (with_reducible rfl)
  (try simp only [Act.put, List.setIfInBounds_toArray, List.set_cons_zero, List.set_cons_succ])
  refine tkY 1 ⟨some 18, .load 121 (.tmp 17), 121, "plan.go:71", #[⟨0, .data⟩], none⟩ ?_ rfl ⟨by rfl, ?_⟩ ?_
  rotate_left
  ·intro wz hSz; (try dsimp only at hSz); go_simp; all_goals (with_reducible rfl)
  (try simp only [Act.put, List.setIfInBounds_toArray, List.set_cons_zero, List.set_cons_succ])
  refine tkY 2 ⟨some 19, .move (.tmp 5), 77, "plan.go:71", #[], none⟩ ?_ rfl ⟨by rfl, ?_⟩ ?_
  rotate_left
  ·intro wz hSz; (try dsimp only at hSz); go_simp; all_goals (with_reducible rfl)
  (try simp only [Act.put, List.setIfInBounds_toArray, List.set_cons_zero, List.set_cons_succ])
  refine tkY 3 ⟨some 20, .fieldAddr 123 (.tmp 2) 0, 0, "plan.go:71", #[], none⟩ ?_ rfl ⟨by rfl, ?_⟩ ?_
  rotate_left
  ·intro wz hSz; (try dsimp only at hSz); go_simp; all_goals (with_reducible rfl)
  (try simp only [Act.put, List.setIfInBounds_toArray, List.set_cons_zero, List.set_cons_succ])
  refine tkY 4 ⟨some 21, .fieldAddr 31 (.tmp 20) 6, 0, "plan.go:71", #[⟨3, .data⟩], none⟩ ?_ rfl ⟨by rfl, ?_⟩ ?_
  rotate_left
  ·intro wz hSz; (try dsimp only at hSz); go_simp; all_goals (with_reducible rfl)
  (try simp only [Act.put, List.setIfInBounds_toArray, List.set_cons_zero, List.set_cons_succ])
  refine tkY 5 ⟨some 22, .load 29 (.tmp 21), 29, "plan.go:71", #[⟨4, .data⟩], none⟩ ?_ rfl ⟨by rfl, ?_⟩ ?_
  rotate_left
  ·intro wz hSz; (try dsimp only at hSz); go_simp; all_goals (with_reducible rfl)
  (try simp only [Act.put, List.setIfInBounds_toArray, List.set_cons_zero, List.set_cons_succ])
  refine tkY 6 ⟨some 23, .fieldAddr 128 (.tmp 3) 1, 0, "plan.go:71", #[], none⟩ ?_ rfl ⟨by rfl, ?_⟩ ?_
  rotate_left
  ·intro wz hSz; (try dsimp only at hSz); go_simp; all_goals (with_reducible rfl)
  (try simp only [Act.put, List.setIfInBounds_toArray, List.set_cons_zero, List.set_cons_succ])
  refine tkY 7 ⟨some 24, .load 3 (.tmp 23), 3, "plan.go:71", #[⟨6, .data⟩], none⟩ ?_ rfl ⟨by rfl, ?_⟩ ?_
  rotate_left
  ·intro wz hSz; (try dsimp only at hSz); go_simp; all_goals (with_reducible rfl)
  (try simp only [Act.put, List.setIfInBounds_toArray, List.set_cons_zero, List.set_cons_succ])
  refine tkY 8 ⟨some 25, .indexAddr 29 (.tmp 22) (.tmp 24), 0, "plan.go:71", #[⟨5, .data⟩, ⟨7, .data⟩], none⟩ ?_ rfl ⟨by rfl, ?_⟩ ?_
  rotate_left
  ·intro wz hSz; (try dsimp only at hSz); go_simp; all_goals (with_reducible rfl)
  (try simp only [Act.put, List.setIfInBounds_toArray, List.set_cons_zero, List.set_cons_succ])
  refine tkY 9 ⟨some 26, .fieldAddr 81 (.tmp 25) 2, 0, "plan.go:71", #[⟨8, .data⟩], none⟩ ?_ rfl ⟨by rfl, ?_⟩ ?_
  rotate_left
  ·intro wz hSz; (try dsimp only at hSz); go_simp; all_goals (with_reducible rfl)
  (try simp only [Act.put, List.setIfInBounds_toArray, List.set_cons_zero, List.set_cons_succ])
  refine tkY 10 ⟨some 27, .load 77 (.tmp 26), 77, "plan.go:71", #[⟨9, .data⟩], none⟩ ?_ rfl ⟨by rfl, ?_⟩ ?_
  rotate_left
  ·intro wz hSz; (try dsimp only at hSz); go_simp; all_goals (with_reducible rfl)
  (try simp only [Act.put, List.setIfInBounds_toArray, List.set_cons_zero, List.set_cons_succ])
  refine tkY 11 ⟨some 28, .fieldAddr 123 (.tmp 2) 4, 0, "plan.go:71", #[], none⟩ ?_ rfl ⟨by rfl, ?_⟩ ?_
  rotate_left
  ·intro wz hSz; (try dsimp only at hSz); go_simp; all_goals (with_reducible rfl)
  (try simp only [Act.put, List.setIfInBounds_toArray, List.set_cons_zero, List.set_cons_succ])
  refine tkY 12 ⟨some 29, .load 113 (.tmp 28), 113, "plan.go:71", #[⟨11, .data⟩], none⟩ ?_ rfl ⟨by rfl, ?_⟩ ?_
  rotate_left
  ·intro wz hSz; (try dsimp only at hSz); go_simp; all_goals (with_reducible rfl)
  (try simp only [Act.put, List.setIfInBounds_toArray, List.set_cons_zero, List.set_cons_succ])
  refine wpAnyH_ready (rs := [13]) (by kernel_rfl) (by simp) ?_
  refine AllReadyH.cons (o := ⟨some 30, .call { callee := Callee.value (.func 92), args := #[.tmp 18, .tmp 19, .tmp 27, .tmp 29], argTypes := #[121, 77, 77, 113] }, 3, "plan.go:71", #[⟨1, .data⟩, ⟨2, .data⟩, ⟨10, .data⟩, ⟨12, .data⟩], none⟩) rfl (fun K hK => ?_) AllReadyH.nil
  go_simp
  go_at_call 92
  (with_reducible refine Calls.mono (kth _ (by exact hbn0)) ?_)
  rintro e wn ⟨rfl, hbn⟩
  go_wp2_with fail
  refine hK.out _ _ ?_ (fun hHeld => ?_)
  ·(try dsimp only)
   obtain ⟨h0, h1, h2, h3, h4, h5⟩ := hHeld; exact ⟨(hbn.cell (p := ⟨g, _, none⟩) (cell_ltF h0)).trans h0, (hbn.cell (p := ⟨w.heap.size, _, none⟩) (cell_ltF h1)).trans h1, (hbn.cell (p := ⟨w.heap.size, _, none⟩) (cell_ltF h2)).trans h2, (hbn.cell (p := ⟨w.heap.size, _, none⟩) (cell_ltF h3)).trans h3, (hbn.cell (p := ⟨w.heap.size, _, none⟩) (cell_ltF h4)).trans h4, (hbn.cell (p := ⟨w.heap.size + 1, _, none⟩) (cell_ltF h5)).trans h5⟩
  clear hK K
  (try simp only [Act.put, List.setIfInBounds_toArray, List.set_cons_zero, List.set_cons_succ])
  refine tkY 14 ⟨some 4, .assign (.tmp 30), 3, "plan.go:71", #[⟨13, .data⟩, ⟨13, .chain⟩, ⟨0, .phase⟩, ⟨1, .phase⟩, ⟨2, .phase⟩, ⟨3, .phase⟩, ⟨4, .phase⟩, ⟨5, .phase⟩, ⟨6, .phase⟩, ⟨7, .phase⟩, ⟨8, .phase⟩, ⟨9, .phase⟩, ⟨10, .phase⟩, ⟨11, .phase⟩, ⟨12, .phase⟩, ⟨13, .phase⟩], none⟩ ?_ rfl ⟨by rfl, ?_⟩ ?_
  rotate_left
  ·intro wz hSz; (try dsimp only at hSz); go_simp; all_goals (with_reducible rfl)
  (try simp only [Act.put, List.setIfInBounds_toArray, List.set_cons_zero, List.set_cons_succ])
  refine wpAnyH_done (by kernel_rfl) ?_ _
  refine NoPanic.normal ?_
  go_wp2_with fail
  go_ret
  exact ⟨rfl, bel_after hbn0 hbn0.size hbn⟩
 ·have s1 : (k : Int) < (SG.length : Int) := by omega
  have s0 : (0 : Int) ≤ (k : Int) := by omega
  have s2 : ¬ (k : Int) = -1 := by omega
  have y7 := hgn k hk F hkF
  clear hgn hkF
  go_enter Tryz.func57, Tryz.ntmps57
  go_wp2_with fail
  refine wp_region_noPanic ?_
  refine wp_region_held_drew (S := fun w' => w'.cell? ⟨g, o + t * 7 + 2, none⟩ = some (.int .u64 (T : Int)) ∧ w'.cell? ⟨w.heap.size, 7, none⟩ = some (.slice (some ⟨g, o, none⟩) SG.length sc) ∧ w'.cell? ⟨w.heap.size, 9, none⟩ = some (.slice ga G.length gc) ∧ w'.cell? ⟨w.heap.size, 10, none⟩ = some (.map (some mb)) ∧ w'.cell? ⟨w.heap.size, 13, none⟩ = some (.slice wa G.length wc) ∧ w'.cell? ⟨w.heap.size + 1, 1, none⟩ = some (.int .i64 (t : Int))) (by kernel_rfl) ?_ (fun hHeld => ?_)
  ·(try dsimp only)
   exact ⟨y1, y2, y3, y4, y5, y6⟩
  refine tkY 0 ⟨some 17, .fieldAddr 123 (.tmp 2) 1, 0, "plan.go:71", #[], none⟩ ?_ rfl ⟨by rfl, ?_⟩ ?_
  rotate_left
  ·intro wz hSz; (try dsimp only at hSz); go_simp; all_goals (with_reducible rfl)
  (try simp only [Act.put, List.setIfInBounds_toArray, List.set_cons_zero, List.set_cons_succ])
  refine tkY 1 ⟨some 18, .load 121 (.tmp 17), 121, "plan.go:71", #[⟨0, .data⟩], none⟩ ?_ rfl ⟨by rfl, ?_⟩ ?_
  rotate_left
  ·intro wz hSz; (try dsimp only at hSz); go_simp; all_goals (with_reducible rfl)
  (try simp only [Act.put, List.setIfInBounds_toArray, List.set_cons_zero, List.set_cons_succ])
  refine tkY 2 ⟨some 19, .move (.tmp 5), 77, "plan.go:71", #[], none⟩ ?_ rfl ⟨by rfl, ?_⟩ ?_
  rotate_left
  ·intro wz hSz; (try dsimp only at hSz); go_simp; all_goals (with_reducible rfl)
  (try simp only [Act.put, List.setIfInBounds_toArray, List.set_cons_zero, List.set_cons_succ])
  refine tkY 3 ⟨some 20, .fieldAddr 123 (.tmp 2) 0, 0, "plan.go:71", #[], none⟩ ?_ rfl ⟨by rfl, ?_⟩ ?_
  rotate_left
  ·intro wz hSz; (try dsimp only at hSz); go_simp; all_goals (with_reducible rfl)
  (try simp only [Act.put, List.setIfInBounds_toArray, List.set_cons_zero, List.set_cons_succ])
  refine tkY 4 ⟨some 21, .fieldAddr 31 (.tmp 20) 6, 0, "plan.go:71", #[⟨3, .data⟩], none⟩ ?_ rfl ⟨by rfl, ?_⟩ ?_
  rotate_left
  ·intro wz hSz; (try dsimp only at hSz); go_simp; all_goals (with_reducible rfl)
  (try simp only [Act.put, List.setIfInBounds_toArray, List.set_cons_zero, List.set_cons_succ])
  refine tkY 5 ⟨some 22, .load 29 (.tmp 21), 29, "plan.go:71", #[⟨4, .data⟩], none⟩ ?_ rfl ⟨by rfl, ?_⟩ ?_
  rotate_left
  ·intro wz hSz; (try dsimp only at hSz); go_simp; all_goals (with_reducible rfl)
  (try simp only [Act.put, List.setIfInBounds_toArray, List.set_cons_zero, List.set_cons_succ])
  refine tkY 6 ⟨some 23, .fieldAddr 128 (.tmp 3) 1, 0, "plan.go:71", #[], none⟩ ?_ rfl ⟨by rfl, ?_⟩ ?_
  rotate_left
  ·intro wz hSz; (try dsimp only at hSz); go_simp; all_goals (with_reducible rfl)
  (try simp only [Act.put, List.setIfInBounds_toArray, List.set_cons_zero, List.set_cons_succ])
  refine tkY 7 ⟨some 24, .load 3 (.tmp 23), 3, "plan.go:71", #[⟨6, .data⟩], none⟩ ?_ rfl ⟨by rfl, ?_⟩ ?_
  rotate_left
  ·intro wz hSz; (try dsimp only at hSz); go_simp; all_goals (with_reducible rfl)
  (try simp only [Act.put, List.setIfInBounds_toArray, List.set_cons_zero, List.set_cons_succ])
  refine tkY 8 ⟨some 25, .indexAddr 29 (.tmp 22) (.tmp 24), 0, "plan.go:71", #[⟨5, .data⟩, ⟨7, .data⟩], none⟩ ?_ rfl ⟨by rfl, ?_⟩ ?_
  rotate_left
  ·intro wz hSz; (try dsimp only at hSz); go_simp; all_goals (with_reducible rfl)
  (try simp only [Act.put, List.setIfInBounds_toArray, List.set_cons_zero, List.set_cons_succ])
  refine tkY 9 ⟨some 26, .fieldAddr 81 (.tmp 25) 2, 0, "plan.go:71", #[⟨8, .data⟩], none⟩ ?_ rfl ⟨by rfl, ?_⟩ ?_
  rotate_left
  ·intro wz hSz; (try dsimp only at hSz); go_simp; all_goals (with_reducible rfl)
  (try simp only [Act.put, List.setIfInBounds_toArray, List.set_cons_zero, List.set_cons_succ])
  refine tkY 10 ⟨some 27, .load 77 (.tmp 26), 77, "plan.go:71", #[⟨9, .data⟩], none⟩ ?_ rfl ⟨by rfl, ?_⟩ ?_
  rotate_left
  ·intro wz hSz; (try dsimp only at hSz); go_simp; all_goals (with_reducible rfl)
  (try simp only [Act.put, List.setIfInBounds_toArray, List.set_cons_zero, List.set_cons_succ])
  refine tkY 11 ⟨some 28, .fieldAddr 123 (.tmp 2) 4, 0, "plan.go:71", #[], none⟩ ?_ rfl ⟨by rfl, ?_⟩ ?_
  rotate_left
  ·intro wz hSz; (try dsimp only at hSz); go_simp; all_goals (with_reducible rfl)
  (try simp only [Act.put, List.setIfInBounds_toArray, List.set_cons_zero, List.set_cons_succ])
  refine tkY 12 ⟨some 29, .load 113 (.tmp 28), 113, "plan.go:71", #[⟨11, .data⟩], none⟩ ?_ rfl ⟨by rfl, ?_⟩ ?_
  rotate_left
  ·intro wz hSz; (try dsimp only at hSz); go_simp; all_goals (with_reducible rfl)
  (try simp only [Act.put, List.setIfInBounds_toArray, List.set_cons_zero, List.set_cons_succ])
  refine wpAnyH_ready (rs := [13]) (by kernel_rfl) (by simp) ?_
  refine AllReadyH.cons (o := ⟨some 30, .call { callee := Callee.value (.func 92), args := #[.tmp 18, .tmp 19, .tmp 27, .tmp 29], argTypes := #[121, 77, 77, 113] }, 3, "plan.go:71", #[⟨1, .data⟩, ⟨2, .data⟩, ⟨10, .data⟩, ⟨12, .data⟩], none⟩) rfl (fun K hK => ?_) AllReadyH.nil
  go_simp
  go_at_call 92
  (with_reducible refine Calls.mono (kth _ (by exact hbn0)) ?_)
  rintro e wn ⟨rfl, hbn⟩
  go_wp2_with fail
  refine hK.out _ _ ?_ (fun hHeld => ?_)
  ·(try dsimp only)
   obtain ⟨h0, h1, h2, h3, h4, h5⟩ := hHeld; exact ⟨(hbn.cell (p := ⟨g, _, none⟩) (cell_ltF h0)).trans h0, (hbn.cell (p := ⟨w.heap.size, _, none⟩) (cell_ltF h1)).trans h1, (hbn.cell (p := ⟨w.heap.size, _, none⟩) (cell_ltF h2)).trans h2, (hbn.cell (p := ⟨w.heap.size, _, none⟩) (cell_ltF h3)).trans h3, (hbn.cell (p := ⟨w.heap.size, _, none⟩) (cell_ltF h4)).trans h4, (hbn.cell (p := ⟨w.heap.size + 1, _, none⟩) (cell_ltF h5)).trans h5⟩
  clear hK K
  (try simp only [Act.put, List.setIfInBounds_toArray, List.set_cons_zero, List.set_cons_succ])
  refine tkY 14 ⟨some 4, .assign (.tmp 30), 3, "plan.go:71", #[⟨13, .data⟩, ⟨13, .chain⟩, ⟨0, .phase⟩, ⟨1, .phase⟩, ⟨2, .phase⟩, ⟨3, .phase⟩, ⟨4, .phase⟩, ⟨5, .phase⟩, ⟨6, .phase⟩, ⟨7, .phase⟩, ⟨8, .phase⟩, ⟨9, .phase⟩, ⟨10, .phase⟩, ⟨11, .phase⟩, ⟨12, .phase⟩, ⟨13, .phase⟩], none⟩ ?_ rfl ⟨by rfl, ?_⟩ ?_
  rotate_left
  ·intro wz hSz; (try dsimp only at hSz); go_simp; all_goals (with_reducible rfl)
  (try simp only [Act.put, List.setIfInBounds_toArray, List.set_cons_zero, List.set_cons_succ])
  refine wpAnyH_done (by kernel_rfl) ?_ _
  refine NoPanic.normal ?_
  go_wp2_with fail
  go_ret
  exact ⟨rfl, bel_after hbn0 hbn0.size hbn⟩
end Go.Proofs.YtnicolaphmffkaaGreatDoor
