import Derived.Test.YtnicolaphmffkaaGreatDoorSnC
import Derived.Test.YtnicolaphmffkaaGreatDoorNesC
namespace Go.Proofs.YtnicolaphmffkaaGreatDoor
open Go.RowKit
set_option linter.unusedVariables false
set_option linter.unusedSimpArgs false

theorem nb_step (z : Sz) (L : List Nd) (k : Nat) (h : k < L.length) : (L.drop k).all (ndB z) = (ndB z L[k] && (L.drop (k + 1)).all (ndB z)) := by
  rw [List.drop_eq_getElem_cons h, List.all_cons]
theorem nb_end (z : Sz) (L : List Nd) (k : Nat) (h : L.length ≤ k) : (L.drop k).all (ndB z) = true := by
  rw [List.drop_eq_nil_of_le h]; rfl
theorem nb_three (z : Sz) (L : List Nd) (h : L.all (ndB z) = true) : ∀ x ∈ L, ¬ x.op = 3 := by
  intro x hx e
  have := List.all_eq_true.1 h x hx
  unfold ndB ndV at this
  rw [if_pos e] at this
  simp at this
set_option maxRecDepth 100000 in
set_option maxHeartbeats 8000000 in
theorem sExpr_any (z : Sz) (L : List Nd) (vn : Value) (typ : Int) (w : World) (hN : Nds w vn L) (hl : L.length ≤ 2932031007317) (hr : ∀ x ∈ L, vOk x.val) :
    Calls Tryz.prog 41 #[(.agg #[.int .i64 (z.g : Int), .int .i64 (z.d : Int), .int .i64 (z.t : Int), .int .i64 (z.c : Int), .int .i64 (z.v : Int)]), vn, .int .i64 typ] w fun e w' => e = .returned (.bool (sxB z L typ)) ∧ Below w.heap.size w w' := by
  have hb0 : Below w.heap.size w (w.alloc (.cells #[.int .i64 (z.g : Int), .int .i64 (z.d : Int), .int .i64 (z.t : Int), .int .i64 (z.c : Int), .int .i64 (z.v : Int)] 104)) := bel1 _
  have K0 : Has (w.alloc (.cells #[.int .i64 (z.g : Int), .int .i64 (z.d : Int), .int .i64 (z.t : Int), .int .i64 (z.c : Int), .int .i64 (z.v : Int)] 104)) w.heap.size #[.int .i64 (z.g : Int), .int .i64 (z.d : Int), .int .i64 (z.t : Int), .int .i64 (z.c : Int), .int .i64 (z.v : Int)] := Has.new _ _ _ rfl
  have kN := fun (X : World) (hX : Below w.heap.size w X) => nest_any L vn X (hN.below hX) hl
  by_cases h256 : L.length ≤ 256
  case neg =>
    have e0 : sxB z L typ = false := by unfold sxB trB; rw [decide_eq_false h256]; rfl
    rw [e0]
    obtain ⟨na, nc, rfl, -⟩ := hN
    have s1 : (L.length : Int) > 256 := by omega
    go_enter Tryz.func41, Tryz.ntmps41
    go_wp2_with fail
    go_ret
    exact ⟨rfl, hb0⟩
  by_cases hnest : 0 ≤ nestF L ∧ nestF L ≤ 64
  case neg =>
    have e0 : sxB z L typ = false := by
      unfold sxB trB
      by_cases q : 0 ≤ nestF L
      · rw [decide_eq_false (fun r => hnest ⟨q, r⟩)]; simp
      · rw [decide_eq_false q]; simp
    rw [e0]
    obtain ⟨na, nc, rfl, -⟩ := hN
    have s1 : ¬ (L.length : Int) > 256 := by omega
    by_cases q : nestF L < 0
    · generalize nestF L = nv at *
      go_enter Tryz.func41, Tryz.ntmps41
      go_wp2_with (go_at_call 73; (with_reducible refine Calls.mono (kN _ (by exact hb0)) ?_); rintro e w1 ⟨rfl, h1⟩; have hb1 := bel_after hb0 hb0.size h1)
      go_ret
      exact ⟨rfl, hb1⟩
    · have q2 : nestF L > 64 := by omega
      generalize nestF L = nv at *
      go_enter Tryz.func41, Tryz.ntmps41
      go_wp2_with (go_at_call 73; (with_reducible refine Calls.mono (kN _ (by exact hb0)) ?_); rintro e w1 ⟨rfl, h1⟩; have hb1 := bel_after hb0 hb0.size h1)
      go_ret
      exact ⟨rfl, hb1⟩
  have htr : trB L = true := by unfold trB; rw [decide_eq_true h256, decide_eq_true hnest.1, decide_eq_true hnest.2]; rfl
  have kA := fun (k : Nat) (hk : k < L.length) (X : World) => sNode_any z L[k] X (hr _ (List.getElem_mem hk))
  have kT := fun (h3 : L.all (ndB z) = true) (X : World) (hX : Below w.heap.size w X) => typeOver_any L vn X (hN.below hX) htr (nb_three z L h3)
  obtain ⟨na, nc, rfl, hc⟩ := hN
  have s1 : ¬ (L.length : Int) > 256 := by omega
  have q1 : ¬ nestF L < 0 := by omega
  have q2 : ¬ nestF L > 64 := by omega
  have hsx : sxB z L typ = (L.all (ndB z) && (decide (stF [] L ≠ 0) && decide (stF [] L = typ))) := by unfold sxB; rw [htr, Bool.true_and]
  rw [hsx]
  have hA0 : (L.drop 0).all (ndB z) = L.all (ndB z) := rfl
  generalize L.all (ndB z) = AA at *
  generalize nestF L = nv at *
  generalize stF [] L = A at *
  clear hsx hnest htr
  go_enter Tryz.func41, Tryz.ntmps41
  go_wp2_with fail
  go_at_call 73
  refine Calls.mono (kN _ (by exact hb0)) ?_
  rintro e w1 ⟨rfl, h1⟩
  have hb1 := bel_after hb0 hb0.size h1
  have K1 := K0.below h1
  go_wp2_with fail
  go_loopw [25] (fun i wr => ∃ k : Nat, k ≤ L.length ∧ i = .int .i64 (k : Int) ∧ Hid ((L.drop k).all (ndB z) = AA) ∧ Hid (Has wr w.heap.size #[.int .i64 (z.g : Int), .int .i64 (z.d : Int), .int .i64 (z.t : Int), .int .i64 (z.c : Int), .int .i64 (z.v : Int)]) ∧ Hid (Below w.heap.size w wr)) (fun i _ => L.length - (intOf i).toNat)
  case atStart => exact ⟨0, by omega, rfl, hA0, K1, hb1⟩
  case round =>
    clear hA0 K0 K1 hb0 hb1 h1 kN
    obtain ⟨k, hkl, rfl, hq', K', hb'⟩ := hrel
    have hq := hq'.out
    have K := K'.out
    have hb := hb'.out
    clear hq' K' hb'
    by_cases hlt : k < L.length
    case neg =>
      have s2 : ¬ (k : Int) < (L.length : Int) := by omega
      rw [nb_end z L k (by omega)] at hq
      have cT := kT hq.symm _ hb
      clear kA kT hc
      subst hq
      go_wp2_with fail
      go_at_call 75
      refine Calls.mono cT ?_
      rintro e w2 ⟨⟨c, l, c3, rfl, hcc⟩, h2⟩
      have hb2 := bel_after hb hb.size h2
      have hbF : Below w.heap.size w (w2.alloc (.cells #[.int .i64 c, .int .i64 l, .int .i64 c3] 154)) := hb2.alloc hb2.size _
      rcases hcc with ⟨rfl, hA⟩ | ⟨rfl, hA⟩
      · by_cases ht : A = typ
        · subst ht
          go_wp2_with fail
          go_ret
          exact ⟨by simp [hA], hbF⟩
        · have nt : (A == typ) = false := by simpa using ht
          go_wp2_with fail
          go_ret
          exact ⟨by simp [ht], hbF⟩
      · go_wp2_with fail
        go_ret
        exact ⟨by simp [hA], hbF⟩
    case pos =>
      obtain ⟨g, o, rfl, hg, hx⟩ := hc.resolve_left (by intro e; rw [e] at hlt; simp at hlt)
      have hx0 := hx k hlt
      have s2 : (k : Int) < (L.length : Int) := by omega
      have s0 : (0 : Int) ≤ (k : Int) := by omega
      rw [nb_step z L k hlt] at hq
      have cA := kA k hlt
      clear kA kT hx hc
      generalize ndB z L[k] = bb at *
      generalize L[k] = x at *
      obtain ⟨op, val, nm, ln, cl⟩ := x
      simp only at *
      have p0 := (hb.cell (p := ⟨g, _, none⟩) hg).trans hx0.1
      have p1 := (hb.cell (p := ⟨g, _, none⟩) hg).trans hx0.2.1
      have p2 := (hb.cell (p := ⟨g, _, none⟩) hg).trans hx0.2.2.1
      have p3 := (hb.cell (p := ⟨g, _, none⟩) hg).trans hx0.2.2.2.1
      have p4 := (hb.cell (p := ⟨g, _, none⟩) hg).trans hx0.2.2.2.2
      clear hx0
      obtain ⟨_, z1, z2⟩ := id K
      have hbN := hb.alloc hb.size (.cells #[.int .i64 op, .int .i32 val, .string nm, .int .i64 ln, .int .i64 cl] 88)
      have KN := K.alloc (.cells #[.int .i64 op, .int .i32 val, .string nm, .int .i64 ln, .int .i64 cl] 88)
      cases bb with
      | false =>
        simp only [Bool.false_and] at hq
        subst hq
        go_wp2_with (go_at_call 74; (with_reducible refine Calls.mono (cA _) ?_); rintro e w2 ⟨rfl, h2⟩; have hb2 := bel_after hbN hbN.size h2)
        go_ret
        exact ⟨by simp, hb2⟩
      | true =>
        simp only [Bool.true_and] at hq
        go_wp2_with (go_at_call 74; (with_reducible refine Calls.mono (cA _) ?_); rintro e w2 ⟨rfl, h2⟩; have hb2 := bel_after hbN hbN.size h2; have K2 := KN.below h2)
        go_roundw
        case rel => exact ⟨k + 1, by omega, by go_num, hq, K2, hb2⟩
        case measure => simp [intOf]; omega
end Go.Proofs.YtnicolaphmffkaaGreatDoor
namespace Go.Proofs.YtnicolaphmffkaaGreatDoor
open Go.RowKit
set_option linter.unusedVariables false
set_option linter.unusedSimpArgs false

set_option maxRecDepth 100000 in
set_option maxHeartbeats 8000000 in
theorem room5 (z : Sz) (pn : ByteArray) (ga ca da ta ka va sa : Option Addr) (gc nC cc dc tc kc vc nS sc : Nat) (stt : Int) (w : World) : Calls Tryz.prog 106 #[(.agg #[.string pn, .slice ga z.g gc, .slice ca nC cc, .slice da z.d dc, .slice ta z.t tc, .slice ka z.c kc, .slice va z.v vc, .slice sa nS sc, .int .i64 stt]), .int .i64 5] w fun e w' => e = .returned (.int .i64 (z.g : Int)) ∧ Below w.heap.size w w' := by
  go_enter Tryz.func106, Tryz.ntmps106
  go_wp2_with fail
  go_ret
  exact ⟨rfl, bel1 _⟩
set_option maxRecDepth 100000 in
set_option maxHeartbeats 8000000 in
theorem room6 (z : Sz) (pn : ByteArray) (ga ca da ta ka va sa : Option Addr) (gc nC cc dc tc kc vc nS sc : Nat) (stt : Int) (w : World) : Calls Tryz.prog 106 #[(.agg #[.string pn, .slice ga z.g gc, .slice ca nC cc, .slice da z.d dc, .slice ta z.t tc, .slice ka z.c kc, .slice va z.v vc, .slice sa nS sc, .int .i64 stt]), .int .i64 6] w fun e w' => e = .returned (.int .i64 (z.g : Int)) ∧ Below w.heap.size w w' := by
  go_enter Tryz.func106, Tryz.ntmps106
  go_wp2_with fail
  go_ret
  exact ⟨rfl, bel1 _⟩
set_option maxRecDepth 100000 in
set_option maxHeartbeats 8000000 in
theorem room7 (z : Sz) (pn : ByteArray) (ga ca da ta ka va sa : Option Addr) (gc nC cc dc tc kc vc nS sc : Nat) (stt : Int) (w : World) : Calls Tryz.prog 106 #[(.agg #[.string pn, .slice ga z.g gc, .slice ca nC cc, .slice da z.d dc, .slice ta z.t tc, .slice ka z.c kc, .slice va z.v vc, .slice sa nS sc, .int .i64 stt]), .int .i64 7] w fun e w' => e = .returned (.int .i64 (z.v : Int)) ∧ Below w.heap.size w w' := by
  go_enter Tryz.func106, Tryz.ntmps106
  go_wp2_with fail
  go_ret
  exact ⟨rfl, bel1 _⟩
set_option maxRecDepth 100000 in
set_option maxHeartbeats 8000000 in
theorem room8 (z : Sz) (pn : ByteArray) (ga ca da ta ka va sa : Option Addr) (gc nC cc dc tc kc vc nS sc : Nat) (stt : Int) (w : World) : Calls Tryz.prog 106 #[(.agg #[.string pn, .slice ga z.g gc, .slice ca nC cc, .slice da z.d dc, .slice ta z.t tc, .slice ka z.c kc, .slice va z.v vc, .slice sa nS sc, .int .i64 stt]), .int .i64 8] w fun e w' => e = .returned (.int .i64 (z.t : Int)) ∧ Below w.heap.size w w' := by
  go_enter Tryz.func106, Tryz.ntmps106
  go_wp2_with fail
  go_ret
  exact ⟨rfl, bel1 _⟩
set_option maxRecDepth 100000 in
set_option maxHeartbeats 8000000 in
theorem room9 (z : Sz) (pn : ByteArray) (ga ca da ta ka va sa : Option Addr) (gc nC cc dc tc kc vc nS sc : Nat) (stt : Int) (w : World) : Calls Tryz.prog 106 #[(.agg #[.string pn, .slice ga z.g gc, .slice ca nC cc, .slice da z.d dc, .slice ta z.t tc, .slice ka z.c kc, .slice va z.v vc, .slice sa nS sc, .int .i64 stt]), .int .i64 9] w fun e w' => e = .returned (.int .i64 (z.c : Int)) ∧ Below w.heap.size w w' := by
  go_enter Tryz.func106, Tryz.ntmps106
  go_wp2_with fail
  go_ret
  exact ⟨rfl, bel1 _⟩
set_option maxRecDepth 100000 in
set_option maxHeartbeats 8000000 in
theorem room10 (z : Sz) (pn : ByteArray) (ga ca da ta ka va sa : Option Addr) (gc nC cc dc tc kc vc nS sc : Nat) (stt : Int) (w : World) : Calls Tryz.prog 106 #[(.agg #[.string pn, .slice ga z.g gc, .slice ca nC cc, .slice da z.d dc, .slice ta z.t tc, .slice ka z.c kc, .slice va z.v vc, .slice sa nS sc, .int .i64 stt]), .int .i64 10] w fun e w' => e = .returned (.int .i64 (z.d : Int)) ∧ Below w.heap.size w w' := by
  go_enter Tryz.func106, Tryz.ntmps106
  go_wp2_with fail
  go_ret
  exact ⟨rfl, bel1 _⟩
set_option maxRecDepth 100000 in
set_option maxHeartbeats 8000000 in
theorem leaf1 (z : Sz) (pn : ByteArray) (ga ca da ta ka va sa : Option Addr) (gc nC cc dc tc kc vc nS sc : Nat) (stt : Int) (val : Int) (hv : vOk val) (nm : ByteArray) (ln cl : Int) (w : World) : Calls Tryz.prog 82 #[(.agg #[.string pn, .slice ga z.g gc, .slice ca nC cc, .slice da z.d dc, .slice ta z.t tc, .slice ka z.c kc, .slice va z.v vc, .slice sa nS sc, .int .i64 stt]), .agg #[.int .i64 1, .int .i32 val, .string nm, .int .i64 ln, .int .i64 cl]] w fun e w' => e = .returned (.int .i64 (lvZ z 1 val)) ∧ Below w.heap.size w w' := by
  have hb : Below w.heap.size w ((w.alloc (.cells #[.string pn, .slice ga z.g gc, .slice ca nC cc, .slice da z.d dc, .slice ta z.t tc, .slice ka z.c kc, .slice va z.v vc, .slice sa nS sc, .int .i64 stt] 31)).alloc (.cells #[.int .i64 1, .int .i32 val, .string nm, .int .i64 ln, .int .i64 cl] 88)) := ((Below.refl _ _).alloc (Nat.le_refl _) _).alloc (by simp) _
  go_enter Tryz.func82, Tryz.ntmps82
  go_wp2_with fail
  go_ret
  exact ⟨by simp [lvZ], hb⟩
set_option maxRecDepth 100000 in
set_option maxHeartbeats 8000000 in
theorem leaf2 (z : Sz) (pn : ByteArray) (ga ca da ta ka va sa : Option Addr) (gc nC cc dc tc kc vc nS sc : Nat) (stt : Int) (val : Int) (hv : vOk val) (nm : ByteArray) (ln cl : Int) (w : World) : Calls Tryz.prog 82 #[(.agg #[.string pn, .slice ga z.g gc, .slice ca nC cc, .slice da z.d dc, .slice ta z.t tc, .slice ka z.c kc, .slice va z.v vc, .slice sa nS sc, .int .i64 stt]), .agg #[.int .i64 2, .int .i32 val, .string nm, .int .i64 ln, .int .i64 cl]] w fun e w' => e = .returned (.int .i64 (lvZ z 2 val)) ∧ Below w.heap.size w w' := by
  have hb : Below w.heap.size w ((w.alloc (.cells #[.string pn, .slice ga z.g gc, .slice ca nC cc, .slice da z.d dc, .slice ta z.t tc, .slice ka z.c kc, .slice va z.v vc, .slice sa nS sc, .int .i64 stt] 31)).alloc (.cells #[.int .i64 2, .int .i32 val, .string nm, .int .i64 ln, .int .i64 cl] 88)) := ((Below.refl _ _).alloc (Nat.le_refl _) _).alloc (by simp) _
  have wv : IntKind.i64.wrap val = val := wr64 val (by unfold vOk at hv; omega)
  by_cases v0 : val = 0
  · subst v0
    go_enter Tryz.func82, Tryz.ntmps82
    go_wp2_with fail
    go_ret
    exact ⟨by simp [lvZ], hb⟩
  · by_cases v1 : val = 1
    · subst v1
      go_enter Tryz.func82, Tryz.ntmps82
      go_wp2_with fail
      go_ret
      exact ⟨by simp [lvZ], hb⟩
    · have n0 : (val == 0) = false := by simpa using v0
      have n1 : (val == 1) = false := by simpa using v1
      go_enter Tryz.func82, Tryz.ntmps82
      go_wp2_with fail
      go_ret
      exact ⟨by simp [lvZ, v0, v1], hb⟩
set_option maxRecDepth 100000 in
set_option maxHeartbeats 8000000 in
theorem leaf3 (z : Sz) (pn : ByteArray) (ga ca da ta ka va sa : Option Addr) (gc nC cc dc tc kc vc nS sc : Nat) (stt : Int) (val : Int) (hv : vOk val) (nm : ByteArray) (ln cl : Int) (w : World) : Calls Tryz.prog 82 #[(.agg #[.string pn, .slice ga z.g gc, .slice ca nC cc, .slice da z.d dc, .slice ta z.t tc, .slice ka z.c kc, .slice va z.v vc, .slice sa nS sc, .int .i64 stt]), .agg #[.int .i64 3, .int .i32 val, .string nm, .int .i64 ln, .int .i64 cl]] w fun e w' => e = .returned (.int .i64 (lvZ z 3 val)) ∧ Below w.heap.size w w' := by
  have hb : Below w.heap.size w ((w.alloc (.cells #[.string pn, .slice ga z.g gc, .slice ca nC cc, .slice da z.d dc, .slice ta z.t tc, .slice ka z.c kc, .slice va z.v vc, .slice sa nS sc, .int .i64 stt] 31)).alloc (.cells #[.int .i64 3, .int .i32 val, .string nm, .int .i64 ln, .int .i64 cl] 88)) := ((Below.refl _ _).alloc (Nat.le_refl _) _).alloc (by simp) _
  go_enter Tryz.func82, Tryz.ntmps82
  go_wp2_with fail
  go_ret
  exact ⟨by simp [lvZ], hb⟩
set_option maxRecDepth 100000 in
set_option maxHeartbeats 8000000 in
theorem leaf4 (z : Sz) (pn : ByteArray) (ga ca da ta ka va sa : Option Addr) (gc nC cc dc tc kc vc nS sc : Nat) (stt : Int) (val : Int) (hv : vOk val) (nm : ByteArray) (ln cl : Int) (w : World) : Calls Tryz.prog 82 #[(.agg #[.string pn, .slice ga z.g gc, .slice ca nC cc, .slice da z.d dc, .slice ta z.t tc, .slice ka z.c kc, .slice va z.v vc, .slice sa nS sc, .int .i64 stt]), .agg #[.int .i64 4, .int .i32 val, .string nm, .int .i64 ln, .int .i64 cl]] w fun e w' => e = .returned (.int .i64 (lvZ z 4 val)) ∧ Below w.heap.size w w' := by
  have hb : Below w.heap.size w ((w.alloc (.cells #[.string pn, .slice ga z.g gc, .slice ca nC cc, .slice da z.d dc, .slice ta z.t tc, .slice ka z.c kc, .slice va z.v vc, .slice sa nS sc, .int .i64 stt] 31)).alloc (.cells #[.int .i64 4, .int .i32 val, .string nm, .int .i64 ln, .int .i64 cl] 88)) := ((Below.refl _ _).alloc (Nat.le_refl _) _).alloc (by simp) _
  have wv : IntKind.i64.wrap val = val := wr64 val (by unfold vOk at hv; omega)
  by_cases v0 : val = 0
  · subst v0
    go_enter Tryz.func82, Tryz.ntmps82
    go_wp2_with fail
    go_ret
    exact ⟨by simp [lvZ], hb⟩
  · have n0 : (val == 0) = false := by simpa using v0
    go_enter Tryz.func82, Tryz.ntmps82
    go_wp2_with fail
    go_ret
    exact ⟨by simp [lvZ, v0], hb⟩
set_option maxRecDepth 100000 in
set_option maxHeartbeats 8000000 in
theorem leaf5 (z : Sz) (pn : ByteArray) (ga ca da ta ka va sa : Option Addr) (gc nC cc dc tc kc vc nS sc : Nat) (stt : Int) (val : Int) (hv : vOk val) (nm : ByteArray) (ln cl : Int) (w : World) : Calls Tryz.prog 82 #[(.agg #[.string pn, .slice ga z.g gc, .slice ca nC cc, .slice da z.d dc, .slice ta z.t tc, .slice ka z.c kc, .slice va z.v vc, .slice sa nS sc, .int .i64 stt]), .agg #[.int .i64 5, .int .i32 val, .string nm, .int .i64 ln, .int .i64 cl]] w fun e w' => e = .returned (.int .i64 (lvZ z 5 val)) ∧ Below w.heap.size w w' := by
  have hb : Below w.heap.size w ((w.alloc (.cells #[.string pn, .slice ga z.g gc, .slice ca nC cc, .slice da z.d dc, .slice ta z.t tc, .slice ka z.c kc, .slice va z.v vc, .slice sa nS sc, .int .i64 stt] 31)).alloc (.cells #[.int .i64 5, .int .i32 val, .string nm, .int .i64 ln, .int .i64 cl] 88)) := ((Below.refl _ _).alloc (Nat.le_refl _) _).alloc (by simp) _
  have wv : IntKind.i64.wrap val = val := wr64 val (by unfold vOk at hv; omega)
  have kR := fun X => room5 z pn ga ca da ta ka va sa gc nC cc dc tc kc vc nS sc stt X
  by_cases v0 : 0 ≤ val
  · have v0' : val ≥ 0 := v0
    by_cases v1 : val < (z.g : Int)
    · go_enter Tryz.func82, Tryz.ntmps82
      go_wp2_with (go_at_call 106; (with_reducible refine Calls.mono (kR _) ?_); rintro e w2 ⟨rfl, h2⟩; have hb2 := bel_after hb hb.size h2)
      go_ret
      exact ⟨by simp [lvZ, plB, v0, v1], hb2⟩
    · go_enter Tryz.func82, Tryz.ntmps82
      go_wp2_with (go_at_call 106; (with_reducible refine Calls.mono (kR _) ?_); rintro e w2 ⟨rfl, h2⟩; have hb2 := bel_after hb hb.size h2)
      go_ret
      exact ⟨by simp [lvZ, plB, v1], hb2⟩
  · have v0' : ¬ val ≥ 0 := v0
    go_enter Tryz.func82, Tryz.ntmps82
    go_wp2_with fail
    go_ret
    exact ⟨by simp [lvZ, plB]; omega, hb⟩
set_option maxRecDepth 100000 in
set_option maxHeartbeats 8000000 in
theorem leaf6 (z : Sz) (pn : ByteArray) (ga ca da ta ka va sa : Option Addr) (gc nC cc dc tc kc vc nS sc : Nat) (stt : Int) (val : Int) (hv : vOk val) (nm : ByteArray) (ln cl : Int) (w : World) : Calls Tryz.prog 82 #[(.agg #[.string pn, .slice ga z.g gc, .slice ca nC cc, .slice da z.d dc, .slice ta z.t tc, .slice ka z.c kc, .slice va z.v vc, .slice sa nS sc, .int .i64 stt]), .agg #[.int .i64 6, .int .i32 val, .string nm, .int .i64 ln, .int .i64 cl]] w fun e w' => e = .returned (.int .i64 (lvZ z 6 val)) ∧ Below w.heap.size w w' := by
  have hb : Below w.heap.size w ((w.alloc (.cells #[.string pn, .slice ga z.g gc, .slice ca nC cc, .slice da z.d dc, .slice ta z.t tc, .slice ka z.c kc, .slice va z.v vc, .slice sa nS sc, .int .i64 stt] 31)).alloc (.cells #[.int .i64 6, .int .i32 val, .string nm, .int .i64 ln, .int .i64 cl] 88)) := ((Below.refl _ _).alloc (Nat.le_refl _) _).alloc (by simp) _
  have wv : IntKind.i64.wrap val = val := wr64 val (by unfold vOk at hv; omega)
  have kR := fun X => room6 z pn ga ca da ta ka va sa gc nC cc dc tc kc vc nS sc stt X
  by_cases v0 : 0 ≤ val
  · have v0' : val ≥ 0 := v0
    by_cases v1 : val < (z.g : Int)
    · go_enter Tryz.func82, Tryz.ntmps82
      go_wp2_with (go_at_call 106; (with_reducible refine Calls.mono (kR _) ?_); rintro e w2 ⟨rfl, h2⟩; have hb2 := bel_after hb hb.size h2)
      go_ret
      exact ⟨by simp [lvZ, plB, v0, v1], hb2⟩
    · go_enter Tryz.func82, Tryz.ntmps82
      go_wp2_with (go_at_call 106; (with_reducible refine Calls.mono (kR _) ?_); rintro e w2 ⟨rfl, h2⟩; have hb2 := bel_after hb hb.size h2)
      go_ret
      exact ⟨by simp [lvZ, plB, v1], hb2⟩
  · have v0' : ¬ val ≥ 0 := v0
    go_enter Tryz.func82, Tryz.ntmps82
    go_wp2_with fail
    go_ret
    exact ⟨by simp [lvZ, plB]; omega, hb⟩
set_option maxRecDepth 100000 in
set_option maxHeartbeats 8000000 in
theorem leaf7 (z : Sz) (pn : ByteArray) (ga ca da ta ka va sa : Option Addr) (gc nC cc dc tc kc vc nS sc : Nat) (stt : Int) (val : Int) (hv : vOk val) (nm : ByteArray) (ln cl : Int) (w : World) : Calls Tryz.prog 82 #[(.agg #[.string pn, .slice ga z.g gc, .slice ca nC cc, .slice da z.d dc, .slice ta z.t tc, .slice ka z.c kc, .slice va z.v vc, .slice sa nS sc, .int .i64 stt]), .agg #[.int .i64 7, .int .i32 val, .string nm, .int .i64 ln, .int .i64 cl]] w fun e w' => e = .returned (.int .i64 (lvZ z 7 val)) ∧ Below w.heap.size w w' := by
  have hb : Below w.heap.size w ((w.alloc (.cells #[.string pn, .slice ga z.g gc, .slice ca nC cc, .slice da z.d dc, .slice ta z.t tc, .slice ka z.c kc, .slice va z.v vc, .slice sa nS sc, .int .i64 stt] 31)).alloc (.cells #[.int .i64 7, .int .i32 val, .string nm, .int .i64 ln, .int .i64 cl] 88)) := ((Below.refl _ _).alloc (Nat.le_refl _) _).alloc (by simp) _
  have wv : IntKind.i64.wrap val = val := wr64 val (by unfold vOk at hv; omega)
  have kR := fun X => room7 z pn ga ca da ta ka va sa gc nC cc dc tc kc vc nS sc stt X
  by_cases v0 : 0 ≤ val
  · have v0' : val ≥ 0 := v0
    by_cases v1 : val < (z.v : Int)
    · go_enter Tryz.func82, Tryz.ntmps82
      go_wp2_with (go_at_call 106; (with_reducible refine Calls.mono (kR _) ?_); rintro e w2 ⟨rfl, h2⟩; have hb2 := bel_after hb hb.size h2)
      go_ret
      exact ⟨by simp [lvZ, plB, v0, v1], hb2⟩
    · go_enter Tryz.func82, Tryz.ntmps82
      go_wp2_with (go_at_call 106; (with_reducible refine Calls.mono (kR _) ?_); rintro e w2 ⟨rfl, h2⟩; have hb2 := bel_after hb hb.size h2)
      go_ret
      exact ⟨by simp [lvZ, plB, v1], hb2⟩
  · have v0' : ¬ val ≥ 0 := v0
    go_enter Tryz.func82, Tryz.ntmps82
    go_wp2_with fail
    go_ret
    exact ⟨by simp [lvZ, plB]; omega, hb⟩
set_option maxRecDepth 100000 in
set_option maxHeartbeats 8000000 in
theorem leaf8 (z : Sz) (pn : ByteArray) (ga ca da ta ka va sa : Option Addr) (gc nC cc dc tc kc vc nS sc : Nat) (stt : Int) (val : Int) (hv : vOk val) (nm : ByteArray) (ln cl : Int) (w : World) : Calls Tryz.prog 82 #[(.agg #[.string pn, .slice ga z.g gc, .slice ca nC cc, .slice da z.d dc, .slice ta z.t tc, .slice ka z.c kc, .slice va z.v vc, .slice sa nS sc, .int .i64 stt]), .agg #[.int .i64 8, .int .i32 val, .string nm, .int .i64 ln, .int .i64 cl]] w fun e w' => e = .returned (.int .i64 (lvZ z 8 val)) ∧ Below w.heap.size w w' := by
  have hb : Below w.heap.size w ((w.alloc (.cells #[.string pn, .slice ga z.g gc, .slice ca nC cc, .slice da z.d dc, .slice ta z.t tc, .slice ka z.c kc, .slice va z.v vc, .slice sa nS sc, .int .i64 stt] 31)).alloc (.cells #[.int .i64 8, .int .i32 val, .string nm, .int .i64 ln, .int .i64 cl] 88)) := ((Below.refl _ _).alloc (Nat.le_refl _) _).alloc (by simp) _
  have wv : IntKind.i64.wrap val = val := wr64 val (by unfold vOk at hv; omega)
  have kR := fun X => room8 z pn ga ca da ta ka va sa gc nC cc dc tc kc vc nS sc stt X
  by_cases v0 : 0 ≤ val
  · have v0' : val ≥ 0 := v0
    by_cases v1 : val < (z.t : Int)
    · go_enter Tryz.func82, Tryz.ntmps82
      go_wp2_with (go_at_call 106; (with_reducible refine Calls.mono (kR _) ?_); rintro e w2 ⟨rfl, h2⟩; have hb2 := bel_after hb hb.size h2)
      go_ret
      exact ⟨by simp [lvZ, plB, v0, v1], hb2⟩
    · go_enter Tryz.func82, Tryz.ntmps82
      go_wp2_with (go_at_call 106; (with_reducible refine Calls.mono (kR _) ?_); rintro e w2 ⟨rfl, h2⟩; have hb2 := bel_after hb hb.size h2)
      go_ret
      exact ⟨by simp [lvZ, plB, v1], hb2⟩
  · have v0' : ¬ val ≥ 0 := v0
    go_enter Tryz.func82, Tryz.ntmps82
    go_wp2_with fail
    go_ret
    exact ⟨by simp [lvZ, plB]; omega, hb⟩
set_option maxRecDepth 100000 in
set_option maxHeartbeats 8000000 in
theorem leaf9 (z : Sz) (pn : ByteArray) (ga ca da ta ka va sa : Option Addr) (gc nC cc dc tc kc vc nS sc : Nat) (stt : Int) (val : Int) (hv : vOk val) (nm : ByteArray) (ln cl : Int) (w : World) : Calls Tryz.prog 82 #[(.agg #[.string pn, .slice ga z.g gc, .slice ca nC cc, .slice da z.d dc, .slice ta z.t tc, .slice ka z.c kc, .slice va z.v vc, .slice sa nS sc, .int .i64 stt]), .agg #[.int .i64 9, .int .i32 val, .string nm, .int .i64 ln, .int .i64 cl]] w fun e w' => e = .returned (.int .i64 (lvZ z 9 val)) ∧ Below w.heap.size w w' := by
  have hb : Below w.heap.size w ((w.alloc (.cells #[.string pn, .slice ga z.g gc, .slice ca nC cc, .slice da z.d dc, .slice ta z.t tc, .slice ka z.c kc, .slice va z.v vc, .slice sa nS sc, .int .i64 stt] 31)).alloc (.cells #[.int .i64 9, .int .i32 val, .string nm, .int .i64 ln, .int .i64 cl] 88)) := ((Below.refl _ _).alloc (Nat.le_refl _) _).alloc (by simp) _
  have wv : IntKind.i64.wrap val = val := wr64 val (by unfold vOk at hv; omega)
  have kR := fun X => room9 z pn ga ca da ta ka va sa gc nC cc dc tc kc vc nS sc stt X
  by_cases v0 : 0 ≤ val
  · have v0' : val ≥ 0 := v0
    by_cases v1 : val < (z.c : Int)
    · go_enter Tryz.func82, Tryz.ntmps82
      go_wp2_with (go_at_call 106; (with_reducible refine Calls.mono (kR _) ?_); rintro e w2 ⟨rfl, h2⟩; have hb2 := bel_after hb hb.size h2)
      go_ret
      exact ⟨by simp [lvZ, plB, v0, v1], hb2⟩
    · go_enter Tryz.func82, Tryz.ntmps82
      go_wp2_with (go_at_call 106; (with_reducible refine Calls.mono (kR _) ?_); rintro e w2 ⟨rfl, h2⟩; have hb2 := bel_after hb hb.size h2)
      go_ret
      exact ⟨by simp [lvZ, plB, v1], hb2⟩
  · have v0' : ¬ val ≥ 0 := v0
    go_enter Tryz.func82, Tryz.ntmps82
    go_wp2_with fail
    go_ret
    exact ⟨by simp [lvZ, plB]; omega, hb⟩
set_option maxRecDepth 100000 in
set_option maxHeartbeats 8000000 in
theorem leaf10 (z : Sz) (pn : ByteArray) (ga ca da ta ka va sa : Option Addr) (gc nC cc dc tc kc vc nS sc : Nat) (stt : Int) (val : Int) (hv : vOk val) (nm : ByteArray) (ln cl : Int) (w : World) : Calls Tryz.prog 82 #[(.agg #[.string pn, .slice ga z.g gc, .slice ca nC cc, .slice da z.d dc, .slice ta z.t tc, .slice ka z.c kc, .slice va z.v vc, .slice sa nS sc, .int .i64 stt]), .agg #[.int .i64 10, .int .i32 val, .string nm, .int .i64 ln, .int .i64 cl]] w fun e w' => e = .returned (.int .i64 (lvZ z 10 val)) ∧ Below w.heap.size w w' := by
  have hb : Below w.heap.size w ((w.alloc (.cells #[.string pn, .slice ga z.g gc, .slice ca nC cc, .slice da z.d dc, .slice ta z.t tc, .slice ka z.c kc, .slice va z.v vc, .slice sa nS sc, .int .i64 stt] 31)).alloc (.cells #[.int .i64 10, .int .i32 val, .string nm, .int .i64 ln, .int .i64 cl] 88)) := ((Below.refl _ _).alloc (Nat.le_refl _) _).alloc (by simp) _
  have wv : IntKind.i64.wrap val = val := wr64 val (by unfold vOk at hv; omega)
  have kR := fun X => room10 z pn ga ca da ta ka va sa gc nC cc dc tc kc vc nS sc stt X
  by_cases v0 : 0 ≤ val
  · have v0' : val ≥ 0 := v0
    by_cases v1 : val < (z.d : Int)
    · go_enter Tryz.func82, Tryz.ntmps82
      go_wp2_with (go_at_call 106; (with_reducible refine Calls.mono (kR _) ?_); rintro e w2 ⟨rfl, h2⟩; have hb2 := bel_after hb hb.size h2)
      go_ret
      exact ⟨by simp [lvZ, plB, v0, v1], hb2⟩
    · go_enter Tryz.func82, Tryz.ntmps82
      go_wp2_with (go_at_call 106; (with_reducible refine Calls.mono (kR _) ?_); rintro e w2 ⟨rfl, h2⟩; have hb2 := bel_after hb hb.size h2)
      go_ret
      exact ⟨by simp [lvZ, plB, v1], hb2⟩
  · have v0' : ¬ val ≥ 0 := v0
    go_enter Tryz.func82, Tryz.ntmps82
    go_wp2_with fail
    go_ret
    exact ⟨by simp [lvZ, plB]; omega, hb⟩
theorem leafZ_any (z : Sz) (pn : ByteArray) (ga ca da ta ka va sa : Option Addr) (gc nC cc dc tc kc vc nS sc : Nat) (stt : Int) (x : Nd) (hv : vOk x.val) (w : World) (ho : lfO x.op) : Calls Tryz.prog 82 #[(.agg #[.string pn, .slice ga z.g gc, .slice ca nC cc, .slice da z.d dc, .slice ta z.t tc, .slice ka z.c kc, .slice va z.v vc, .slice sa nS sc, .int .i64 stt]), .agg #[.int .i64 x.op, .int .i32 x.val, .string x.name, .int .i64 x.line, .int .i64 x.col]] w fun e w' => e = .returned (.int .i64 (lvZ z x.op x.val)) ∧ Below w.heap.size w w' := by
  obtain ⟨op, val, nm, ln, cl⟩ := x
  unfold lfO at ho
  simp only at ho hv ⊢
  rcases ho with rfl | rfl | rfl | rfl | rfl | rfl | rfl | rfl | rfl | rfl
  · exact leaf1 z pn ga ca da ta ka va sa gc nC cc dc tc kc vc nS sc stt val hv nm ln cl w
  · exact leaf2 z pn ga ca da ta ka va sa gc nC cc dc tc kc vc nS sc stt val hv nm ln cl w
  · exact leaf3 z pn ga ca da ta ka va sa gc nC cc dc tc kc vc nS sc stt val hv nm ln cl w
  · exact leaf4 z pn ga ca da ta ka va sa gc nC cc dc tc kc vc nS sc stt val hv nm ln cl w
  · exact leaf5 z pn ga ca da ta ka va sa gc nC cc dc tc kc vc nS sc stt val hv nm ln cl w
  · exact leaf6 z pn ga ca da ta ka va sa gc nC cc dc tc kc vc nS sc stt val hv nm ln cl w
  · exact leaf7 z pn ga ca da ta ka va sa gc nC cc dc tc kc vc nS sc stt val hv nm ln cl w
  · exact leaf8 z pn ga ca da ta ka va sa gc nC cc dc tc kc vc nS sc stt val hv nm ln cl w
  · exact leaf9 z pn ga ca da ta ka va sa gc nC cc dc tc kc vc nS sc stt val hv nm ln cl w
  · exact leaf10 z pn ga ca da ta ka va sa gc nC cc dc tc kc vc nS sc stt val hv nm ln cl w
end Go.Proofs.YtnicolaphmffkaaGreatDoor
