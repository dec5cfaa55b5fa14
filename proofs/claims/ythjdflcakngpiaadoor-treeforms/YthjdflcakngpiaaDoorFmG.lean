import Derived.Test.YthjdflcakngpiaaDoorFmF
namespace Go.Proofs.YthjdflcakngpiaaDoor
open Go.RowKit
set_option linter.unusedVariables false

def wiF (kd : Int) (wi : ByteArray) : Bool := if kd = 3 then nmB wi else emB wi
def soF (kd so : Int) : Bool := if kd = 2 then decide (so = 1) || decide (so = 2) else if kd = 4 then decide (so = 0) || decide (so = 1) else decide (so = 0)
theorem row21 : 21 < Tryd.prog.types.size := of_decide_eq_true (by kernel_rfl)
theorem size21 : (Tryd.prog.types[21]'row21).size = 1 := by kernel_rfl
set_option maxRecDepth 100000 in
theorem ix46 (n0 n1 n2 : Int) (W : World) : (Instr.index 46 (.agg #[.int .i32 n0, .int .i32 n1, .int .i32 n2]) (.int .i64 0)).run Tryd.prog W = .ok (.int .i32 n0) W ∧ (Instr.index 46 (.agg #[.int .i32 n0, .int .i32 n1, .int .i32 n2]) (.int .i64 1)).run Tryd.prog W = .ok (.int .i32 n1) W ∧ (Instr.index 46 (.agg #[.int .i32 n0, .int .i32 n1, .int .i32 n2]) (.int .i64 2)).run Tryd.prog W = .ok (.int .i32 n2) W := by
  refine ⟨?_, ?_, ?_⟩ <;> first | rfl | (simp [Instr.index, go_sem, Tryd.underlying46, size21]; done) | (simp [Instr.index, go_sem]; rfl)
def nuF (kd n0 n1 n2 : Int) : Nat → Bool
  | 0 => noB kd 0 n0 && (noB kd 1 n1 && noB kd 2 n2)
  | 1 => noB kd 1 n1 && noB kd 2 n2
  | 2 => noB kd 2 n2
  | _ => true
set_option maxRecDepth 100000 in
set_option maxHeartbeats 4000000 in
theorem with_any (kd l0 c0 : Int) (nm wi : ByteArray) (so n0 n1 n2 : Int) (v vg ve vd vl vn : Value) (w : World) (hs : Sm wi) (t : Tb w) :
    Calls Tryd.prog 27 #[.agg #[.int .i64 kd, .int .i64 l0, .int .i64 c0, .string nm, .string wi, .int .i64 so, .int .i32 n0, .int .i32 n1, .int .i32 n2, v, vg, ve, vd, vl, vn]] w fun e w' => e = .returned (.bool (wiF kd wi)) ∧ Below w.heap.size w w' := by
  have hN := fun (X : World) (tX : Tb X) => isName_any wi X hs tX
  by_cases k3 : kd = 3
  · subst k3
    go_enter Tryd.func27, Tryd.ntmps27
    go_wp2_with (go_at_call 16; (with_reducible refine Calls.mono (hN _ (t.alloc _)) ?_); rintro e w1 ⟨rfl, hb1⟩; have hbM := bel_after (bel1 _) (by simp) hb1)
    go_ret
    exact ⟨rfl, hbM⟩
  · have E3 : (kd == 3) = false := by simpa using k3
    have hF : wiF kd wi = wi.toList.isEmpty := by unfold wiF emB; rw [if_neg k3]
    rw [hF]
    go_enter Tryd.func27, Tryd.ntmps27
    go_wp2_with fail
    go_ret
    exact ⟨rfl, bel1 _⟩
set_option maxRecDepth 100000 in
set_option maxHeartbeats 4000000 in
theorem sort_any (kd l0 c0 : Int) (nm wi : ByteArray) (so n0 n1 n2 : Int) (v vg ve vd vl vn : Value) (w : World) :
    Calls Tryd.prog 28 #[.agg #[.int .i64 kd, .int .i64 l0, .int .i64 c0, .string nm, .string wi, .int .i64 so, .int .i32 n0, .int .i32 n1, .int .i32 n2, v, vg, ve, vd, vl, vn]] w fun e w' => e = .returned (.bool (soF kd so)) ∧ Below w.heap.size w w' := by
  by_cases k2 : kd = 2
  · subst k2
    by_cases a0 : so = 1
    · subst a0
      have hF : soF 2 1 = true := by unfold soF; simp_all
      rw [hF]
      clear hF
      go_enter Tryd.func28, Tryd.ntmps28
      go_wp2_with fail
      go_ret
      exact ⟨rfl, bel1 _⟩
    · have A0 : (so == 1) = false := by simpa using a0
      by_cases b0 : so = 2
      · subst b0
        have hF : soF 2 2 = true := by unfold soF; simp_all
        rw [hF]
        clear hF
        go_enter Tryd.func28, Tryd.ntmps28
        go_wp2_with fail
        go_ret
        exact ⟨rfl, bel1 _⟩
      · have B0 : (so == 2) = false := by simpa using b0
        have hF : soF 2 so = false := by unfold soF; simp_all
        rw [hF]
        clear hF
        go_enter Tryd.func28, Tryd.ntmps28
        go_wp2_with fail
        go_ret
        exact ⟨rfl, bel1 _⟩
  · have E2 : (kd == 2) = false := by simpa using k2
    by_cases k4 : kd = 4
    · subst k4
      by_cases a0 : so = 0
      · subst a0
        have hF : soF 4 0 = true := by unfold soF; simp_all
        rw [hF]
        clear hF
        go_enter Tryd.func28, Tryd.ntmps28
        go_wp2_with fail
        go_ret
        exact ⟨rfl, bel1 _⟩
      · have A0 : (so == 0) = false := by simpa using a0
        by_cases b0 : so = 1
        · subst b0
          have hF : soF 4 1 = true := by unfold soF; simp_all
          rw [hF]
          clear hF
          go_enter Tryd.func28, Tryd.ntmps28
          go_wp2_with fail
          go_ret
          exact ⟨rfl, bel1 _⟩
        · have B0 : (so == 1) = false := by simpa using b0
          have hF : soF 4 so = false := by unfold soF; simp_all
          rw [hF]
          clear hF
          go_enter Tryd.func28, Tryd.ntmps28
          go_wp2_with fail
          go_ret
          exact ⟨rfl, bel1 _⟩
    · have E4 : (kd == 4) = false := by simpa using k4
      by_cases a0 : so = 0
      · subst a0
        have hF : soF kd 0 = true := by unfold soF; simp_all
        rw [hF]
        clear hF
        go_enter Tryd.func28, Tryd.ntmps28
        go_wp2_with fail
        go_ret
        exact ⟨rfl, bel1 _⟩
      · have A0 : (so == 0) = false := by simpa using a0
        have hF : soF kd so = false := by unfold soF; simp_all
        rw [hF]
        clear hF
        go_enter Tryd.func28, Tryd.ntmps28
        go_wp2_with fail
        go_ret
        exact ⟨rfl, bel1 _⟩
set_option maxRecDepth 100000 in
set_option maxHeartbeats 4000000 in
theorem cond_any (kd l0 c0 : Int) (nm wi : ByteArray) (so n0 n1 n2 : Int) (v vg ve vd vl vn : Value) (w : World) (xe : List Nd) (hv : Nds w v xe) (hl : xe.length ≤ 2932031007317) (hs : SmE xe) (t : Tb w) :
    Calls Tryd.prog 30 #[.agg #[.int .i64 kd, .int .i64 l0, .int .i64 c0, .string nm, .string wi, .int .i64 so, .int .i32 n0, .int .i32 n1, .int .i32 n2, v, vg, ve, vd, vl, vn]] w fun e w' => e = .returned (.bool (if kd = 8 then fEx xe else decide (xe.length = 0))) ∧ Below w.heap.size w w' := by
  have hE := fun (X : World) (hX : Below w.heap.size w X) => expr_any xe v X (hv.below hX) hl hs (t.below hX)
  obtain ⟨a, c, rfl, -⟩ := hv
  by_cases k8 : kd = 8
  · subst k8
    rw [if_pos rfl]
    go_enter Tryd.func30, Tryd.ntmps30
    go_wp2_with (go_at_call 7; (with_reducible refine Calls.mono (hE _ (by exact bel1 _)) ?_); rintro e w1 ⟨rfl, hb1⟩; have hbM := bel_after (bel1 _) (by simp) hb1)
    go_ret
    exact ⟨rfl, hbM⟩
  · have E8 : (kd == 8) = false := by simpa using k8
    rw [if_neg k8]
    by_cases e0 : xe.length = 0
    · obtain rfl : xe = [] := List.length_eq_zero_iff.1 e0
      go_enter Tryd.func30, Tryd.ntmps30
      go_wp2_with fail
      go_ret
      exact ⟨rfl, bel1 _⟩
    · have D0 : ((xe.length : Int) == 0) = false := by simp; intro e; rw [e] at e0; exact e0 rfl
      rw [decide_eq_false e0]
      go_enter Tryd.func30, Tryd.ntmps30
      go_wp2_with fail
      go_ret
      exact ⟨rfl, bel1 _⟩
set_option maxRecDepth 100000 in
set_option maxHeartbeats 4000000 in
theorem numbers_any (kd l0 c0 : Int) (nm wi : ByteArray) (so n0 n1 n2 : Int) (v vg ve vd vl vn : Value) (w : World) :
    Calls Tryd.prog 29 #[.agg #[.int .i64 kd, .int .i64 l0, .int .i64 c0, .string nm, .string wi, .int .i64 so, .int .i32 n0, .int .i32 n1, .int .i32 n2, v, vg, ve, vd, vl, vn]] w fun e w' => e = .returned (.bool (nuF kd n0 n1 n2 0)) ∧ Below w.heap.size w w' := by
  generalize hA : nuF kd n0 n1 n2 0 = A
  by_cases k1 : kd = 1
  · subst k1
    have hU : usN 1 = 1 := by unfold usN; simp_all
    have hL : leN 1 = -2147483647 := by unfold leN; simp_all
    have x0 := fun W : World => (ix46 n0 n1 n2 W).1
    have x1 := fun W : World => (ix46 n0 n1 n2 W).2.1
    have x2 := fun W : World => (ix46 n0 n1 n2 W).2.2
    go_enter Tryd.func29, Tryd.ntmps29
    go_wp2_with fail
    go_loopw [19] (fun u wr => ((u = .int .i64 0 ∧ nuF 1 n0 n1 n2 0 = A) ∨ (u = .int .i64 1 ∧ nuF 1 n0 n1 n2 1 = A) ∨ (u = .int .i64 2 ∧ nuF 1 n0 n1 n2 2 = A) ∨ (u = .int .i64 3 ∧ nuF 1 n0 n1 n2 3 = A)) ∧ Hid (Below w.heap.size w wr)) (fun u _ => 3 - (intOf u).toNat)
    case atStart => exact ⟨.inl ⟨rfl, hA⟩, bel1 _⟩
    case round =>
      clear hA
      obtain ⟨hk, hb'⟩ := hrel
      have hb := hb'.out
      clear hb'
      rcases hk with ⟨rfl, hq⟩ | ⟨rfl, hq⟩ | ⟨rfl, hq⟩ | ⟨rfl, hq⟩
      · have st : nuF 1 n0 n1 n2 0 = (noB 1 0 n0 && nuF 1 n0 n1 n2 1) := by simp [nuF]
        have e : noB 1 0 n0 = decide ((-2147483647) ≤ n0) := by unfold noB; rw [hU, hL]; rfl
        rw [st, e] at hq
        clear st e
        by_cases z : (-2147483647) ≤ n0
        · have z1 : ¬ n0 < (-2147483647) := by omega
          rw [decide_eq_true z, Bool.true_and] at hq
          go_wp2_with fail
          go_roundw
          case rel => exact ⟨.inr (.inl ⟨rfl, hq⟩), hb⟩
          case measure => simp [intOf]
        · have z1 : n0 < (-2147483647) := by omega
          rw [decide_eq_false z, Bool.false_and] at hq
          subst hq
          go_wp2_with fail
          go_ret
          exact ⟨rfl, hb⟩
      · have st : nuF 1 n0 n1 n2 1 = (noB 1 1 n1 && nuF 1 n0 n1 n2 2) := by simp [nuF]
        have e : noB 1 1 n1 = decide (n1 = 0) := by unfold noB; rw [hU]; rfl
        rw [st, e] at hq
        clear st e
        by_cases z : n1 = 0
        · subst z
          simp only [decide_true, Bool.true_and] at hq
          go_wp2_with fail
          go_roundw
          case rel => exact ⟨.inr (.inr (.inl ⟨rfl, hq⟩)), hb⟩
          case measure => simp [intOf]
        · have z1 : (n1 != 0) = true := by simpa using z
          have z2 : (n1 == 0) = false := by simpa using z
          rw [decide_eq_false z, Bool.false_and] at hq
          subst hq
          go_wp2_with fail
          go_ret
          exact ⟨rfl, hb⟩
      · have st : nuF 1 n0 n1 n2 2 = (noB 1 2 n2 && nuF 1 n0 n1 n2 3) := by simp [nuF]
        have e : noB 1 2 n2 = decide (n2 = 0) := by unfold noB; rw [hU]; rfl
        rw [st, e] at hq
        clear st e
        by_cases z : n2 = 0
        · subst z
          simp only [decide_true, Bool.true_and] at hq
          go_wp2_with fail
          go_roundw
          case rel => exact ⟨.inr (.inr (.inr ⟨rfl, hq⟩)), hb⟩
          case measure => simp [intOf]
        · have z1 : (n2 != 0) = true := by simpa using z
          have z2 : (n2 == 0) = false := by simpa using z
          rw [decide_eq_false z, Bool.false_and] at hq
          subst hq
          go_wp2_with fail
          go_ret
          exact ⟨rfl, hb⟩
      · have e : nuF 1 n0 n1 n2 3 = true := rfl
        rw [e] at hq
        clear e
        subst hq
        go_wp2_with fail
        go_ret
        exact ⟨rfl, hb⟩
  by_cases k7 : kd = 7
  · subst k7
    have hU : usN 7 = 1 := by unfold usN; simp_all
    have hL : leN 7 = -2147483647 := by unfold leN; simp_all
    have x0 := fun W : World => (ix46 n0 n1 n2 W).1
    have x1 := fun W : World => (ix46 n0 n1 n2 W).2.1
    have x2 := fun W : World => (ix46 n0 n1 n2 W).2.2
    go_enter Tryd.func29, Tryd.ntmps29
    go_wp2_with fail
    go_loopw [19] (fun u wr => ((u = .int .i64 0 ∧ nuF 7 n0 n1 n2 0 = A) ∨ (u = .int .i64 1 ∧ nuF 7 n0 n1 n2 1 = A) ∨ (u = .int .i64 2 ∧ nuF 7 n0 n1 n2 2 = A) ∨ (u = .int .i64 3 ∧ nuF 7 n0 n1 n2 3 = A)) ∧ Hid (Below w.heap.size w wr)) (fun u _ => 3 - (intOf u).toNat)
    case atStart => exact ⟨.inl ⟨rfl, hA⟩, bel1 _⟩
    case round =>
      clear hA
      obtain ⟨hk, hb'⟩ := hrel
      have hb := hb'.out
      clear hb'
      rcases hk with ⟨rfl, hq⟩ | ⟨rfl, hq⟩ | ⟨rfl, hq⟩ | ⟨rfl, hq⟩
      · have st : nuF 7 n0 n1 n2 0 = (noB 7 0 n0 && nuF 7 n0 n1 n2 1) := by simp [nuF]
        have e : noB 7 0 n0 = decide ((-2147483647) ≤ n0) := by unfold noB; rw [hU, hL]; rfl
        rw [st, e] at hq
        clear st e
        by_cases z : (-2147483647) ≤ n0
        · have z1 : ¬ n0 < (-2147483647) := by omega
          rw [decide_eq_true z, Bool.true_and] at hq
          go_wp2_with fail
          go_roundw
          case rel => exact ⟨.inr (.inl ⟨rfl, hq⟩), hb⟩
          case measure => simp [intOf]
        · have z1 : n0 < (-2147483647) := by omega
          rw [decide_eq_false z, Bool.false_and] at hq
          subst hq
          go_wp2_with fail
          go_ret
          exact ⟨rfl, hb⟩
      · have st : nuF 7 n0 n1 n2 1 = (noB 7 1 n1 && nuF 7 n0 n1 n2 2) := by simp [nuF]
        have e : noB 7 1 n1 = decide (n1 = 0) := by unfold noB; rw [hU]; rfl
        rw [st, e] at hq
        clear st e
        by_cases z : n1 = 0
        · subst z
          simp only [decide_true, Bool.true_and] at hq
          go_wp2_with fail
          go_roundw
          case rel => exact ⟨.inr (.inr (.inl ⟨rfl, hq⟩)), hb⟩
          case measure => simp [intOf]
        · have z1 : (n1 != 0) = true := by simpa using z
          have z2 : (n1 == 0) = false := by simpa using z
          rw [decide_eq_false z, Bool.false_and] at hq
          subst hq
          go_wp2_with fail
          go_ret
          exact ⟨rfl, hb⟩
      · have st : nuF 7 n0 n1 n2 2 = (noB 7 2 n2 && nuF 7 n0 n1 n2 3) := by simp [nuF]
        have e : noB 7 2 n2 = decide (n2 = 0) := by unfold noB; rw [hU]; rfl
        rw [st, e] at hq
        clear st e
        by_cases z : n2 = 0
        · subst z
          simp only [decide_true, Bool.true_and] at hq
          go_wp2_with fail
          go_roundw
          case rel => exact ⟨.inr (.inr (.inr ⟨rfl, hq⟩)), hb⟩
          case measure => simp [intOf]
        · have z1 : (n2 != 0) = true := by simpa using z
          have z2 : (n2 == 0) = false := by simpa using z
          rw [decide_eq_false z, Bool.false_and] at hq
          subst hq
          go_wp2_with fail
          go_ret
          exact ⟨rfl, hb⟩
      · have e : nuF 7 n0 n1 n2 3 = true := rfl
        rw [e] at hq
        clear e
        subst hq
        go_wp2_with fail
        go_ret
        exact ⟨rfl, hb⟩
  by_cases k2 : kd = 2
  · subst k2
    have hU : usN 2 = 3 := by unfold usN; simp_all
    have hL : leN 2 = 0 := by unfold leN; simp_all
    have x0 := fun W : World => (ix46 n0 n1 n2 W).1
    have x1 := fun W : World => (ix46 n0 n1 n2 W).2.1
    have x2 := fun W : World => (ix46 n0 n1 n2 W).2.2
    go_enter Tryd.func29, Tryd.ntmps29
    go_wp2_with fail
    go_loopw [19] (fun u wr => ((u = .int .i64 0 ∧ nuF 2 n0 n1 n2 0 = A) ∨ (u = .int .i64 1 ∧ nuF 2 n0 n1 n2 1 = A) ∨ (u = .int .i64 2 ∧ nuF 2 n0 n1 n2 2 = A) ∨ (u = .int .i64 3 ∧ nuF 2 n0 n1 n2 3 = A)) ∧ Hid (Below w.heap.size w wr)) (fun u _ => 3 - (intOf u).toNat)
    case atStart => exact ⟨.inl ⟨rfl, hA⟩, bel1 _⟩
    case round =>
      clear hA
      obtain ⟨hk, hb'⟩ := hrel
      have hb := hb'.out
      clear hb'
      rcases hk with ⟨rfl, hq⟩ | ⟨rfl, hq⟩ | ⟨rfl, hq⟩ | ⟨rfl, hq⟩
      · have st : nuF 2 n0 n1 n2 0 = (noB 2 0 n0 && nuF 2 n0 n1 n2 1) := by simp [nuF]
        have e : noB 2 0 n0 = decide ((0) ≤ n0) := by unfold noB; rw [hU, hL]; rfl
        rw [st, e] at hq
        clear st e
        by_cases z : (0) ≤ n0
        · have z1 : ¬ n0 < (0) := by omega
          rw [decide_eq_true z, Bool.true_and] at hq
          go_wp2_with fail
          go_roundw
          case rel => exact ⟨.inr (.inl ⟨rfl, hq⟩), hb⟩
          case measure => simp [intOf]
        · have z1 : n0 < (0) := by omega
          rw [decide_eq_false z, Bool.false_and] at hq
          subst hq
          go_wp2_with fail
          go_ret
          exact ⟨rfl, hb⟩
      · have st : nuF 2 n0 n1 n2 1 = (noB 2 1 n1 && nuF 2 n0 n1 n2 2) := by simp [nuF]
        have e : noB 2 1 n1 = decide ((0) ≤ n1) := by unfold noB; rw [hU, hL]; rfl
        rw [st, e] at hq
        clear st e
        by_cases z : (0) ≤ n1
        · have z1 : ¬ n1 < (0) := by omega
          rw [decide_eq_true z, Bool.true_and] at hq
          go_wp2_with fail
          go_roundw
          case rel => exact ⟨.inr (.inr (.inl ⟨rfl, hq⟩)), hb⟩
          case measure => simp [intOf]
        · have z1 : n1 < (0) := by omega
          rw [decide_eq_false z, Bool.false_and] at hq
          subst hq
          go_wp2_with fail
          go_ret
          exact ⟨rfl, hb⟩
      · have st : nuF 2 n0 n1 n2 2 = (noB 2 2 n2 && nuF 2 n0 n1 n2 3) := by simp [nuF]
        have e : noB 2 2 n2 = decide ((0) ≤ n2) := by unfold noB; rw [hU, hL]; rfl
        rw [st, e] at hq
        clear st e
        by_cases z : (0) ≤ n2
        · have z1 : ¬ n2 < (0) := by omega
          rw [decide_eq_true z, Bool.true_and] at hq
          go_wp2_with fail
          go_roundw
          case rel => exact ⟨.inr (.inr (.inr ⟨rfl, hq⟩)), hb⟩
          case measure => simp [intOf]
        · have z1 : n2 < (0) := by omega
          rw [decide_eq_false z, Bool.false_and] at hq
          subst hq
          go_wp2_with fail
          go_ret
          exact ⟨rfl, hb⟩
      · have e : nuF 2 n0 n1 n2 3 = true := rfl
        rw [e] at hq
        clear e
        subst hq
        go_wp2_with fail
        go_ret
        exact ⟨rfl, hb⟩
  by_cases k3 : kd = 3
  · subst k3
    have hU : usN 3 = 2 := by unfold usN; simp_all
    have hL : leN 3 = 0 := by unfold leN; simp_all
    have x0 := fun W : World => (ix46 n0 n1 n2 W).1
    have x1 := fun W : World => (ix46 n0 n1 n2 W).2.1
    have x2 := fun W : World => (ix46 n0 n1 n2 W).2.2
    go_enter Tryd.func29, Tryd.ntmps29
    go_wp2_with fail
    go_loopw [19] (fun u wr => ((u = .int .i64 0 ∧ nuF 3 n0 n1 n2 0 = A) ∨ (u = .int .i64 1 ∧ nuF 3 n0 n1 n2 1 = A) ∨ (u = .int .i64 2 ∧ nuF 3 n0 n1 n2 2 = A) ∨ (u = .int .i64 3 ∧ nuF 3 n0 n1 n2 3 = A)) ∧ Hid (Below w.heap.size w wr)) (fun u _ => 3 - (intOf u).toNat)
    case atStart => exact ⟨.inl ⟨rfl, hA⟩, bel1 _⟩
    case round =>
      clear hA
      obtain ⟨hk, hb'⟩ := hrel
      have hb := hb'.out
      clear hb'
      rcases hk with ⟨rfl, hq⟩ | ⟨rfl, hq⟩ | ⟨rfl, hq⟩ | ⟨rfl, hq⟩
      · have st : nuF 3 n0 n1 n2 0 = (noB 3 0 n0 && nuF 3 n0 n1 n2 1) := by simp [nuF]
        have e : noB 3 0 n0 = decide ((0) ≤ n0) := by unfold noB; rw [hU, hL]; rfl
        rw [st, e] at hq
        clear st e
        by_cases z : (0) ≤ n0
        · have z1 : ¬ n0 < (0) := by omega
          rw [decide_eq_true z, Bool.true_and] at hq
          go_wp2_with fail
          go_roundw
          case rel => exact ⟨.inr (.inl ⟨rfl, hq⟩), hb⟩
          case measure => simp [intOf]
        · have z1 : n0 < (0) := by omega
          rw [decide_eq_false z, Bool.false_and] at hq
          subst hq
          go_wp2_with fail
          go_ret
          exact ⟨rfl, hb⟩
      · have st : nuF 3 n0 n1 n2 1 = (noB 3 1 n1 && nuF 3 n0 n1 n2 2) := by simp [nuF]
        have e : noB 3 1 n1 = decide ((0) ≤ n1) := by unfold noB; rw [hU, hL]; rfl
        rw [st, e] at hq
        clear st e
        by_cases z : (0) ≤ n1
        · have z1 : ¬ n1 < (0) := by omega
          rw [decide_eq_true z, Bool.true_and] at hq
          go_wp2_with fail
          go_roundw
          case rel => exact ⟨.inr (.inr (.inl ⟨rfl, hq⟩)), hb⟩
          case measure => simp [intOf]
        · have z1 : n1 < (0) := by omega
          rw [decide_eq_false z, Bool.false_and] at hq
          subst hq
          go_wp2_with fail
          go_ret
          exact ⟨rfl, hb⟩
      · have st : nuF 3 n0 n1 n2 2 = (noB 3 2 n2 && nuF 3 n0 n1 n2 3) := by simp [nuF]
        have e : noB 3 2 n2 = decide (n2 = 0) := by unfold noB; rw [hU]; rfl
        rw [st, e] at hq
        clear st e
        by_cases z : n2 = 0
        · subst z
          simp only [decide_true, Bool.true_and] at hq
          go_wp2_with fail
          go_roundw
          case rel => exact ⟨.inr (.inr (.inr ⟨rfl, hq⟩)), hb⟩
          case measure => simp [intOf]
        · have z1 : (n2 != 0) = true := by simpa using z
          have z2 : (n2 == 0) = false := by simpa using z
          rw [decide_eq_false z, Bool.false_and] at hq
          subst hq
          go_wp2_with fail
          go_ret
          exact ⟨rfl, hb⟩
      · have e : nuF 3 n0 n1 n2 3 = true := rfl
        rw [e] at hq
        clear e
        subst hq
        go_wp2_with fail
        go_ret
        exact ⟨rfl, hb⟩
  by_cases k4 : kd = 4
  · subst k4
    have hU : usN 4 = 2 := by unfold usN; simp_all
    have hL : leN 4 = 0 := by unfold leN; simp_all
    have x0 := fun W : World => (ix46 n0 n1 n2 W).1
    have x1 := fun W : World => (ix46 n0 n1 n2 W).2.1
    have x2 := fun W : World => (ix46 n0 n1 n2 W).2.2
    go_enter Tryd.func29, Tryd.ntmps29
    go_wp2_with fail
    go_loopw [19] (fun u wr => ((u = .int .i64 0 ∧ nuF 4 n0 n1 n2 0 = A) ∨ (u = .int .i64 1 ∧ nuF 4 n0 n1 n2 1 = A) ∨ (u = .int .i64 2 ∧ nuF 4 n0 n1 n2 2 = A) ∨ (u = .int .i64 3 ∧ nuF 4 n0 n1 n2 3 = A)) ∧ Hid (Below w.heap.size w wr)) (fun u _ => 3 - (intOf u).toNat)
    case atStart => exact ⟨.inl ⟨rfl, hA⟩, bel1 _⟩
    case round =>
      clear hA
      obtain ⟨hk, hb'⟩ := hrel
      have hb := hb'.out
      clear hb'
      rcases hk with ⟨rfl, hq⟩ | ⟨rfl, hq⟩ | ⟨rfl, hq⟩ | ⟨rfl, hq⟩
      · have st : nuF 4 n0 n1 n2 0 = (noB 4 0 n0 && nuF 4 n0 n1 n2 1) := by simp [nuF]
        have e : noB 4 0 n0 = decide ((0) ≤ n0) := by unfold noB; rw [hU, hL]; rfl
        rw [st, e] at hq
        clear st e
        by_cases z : (0) ≤ n0
        · have z1 : ¬ n0 < (0) := by omega
          rw [decide_eq_true z, Bool.true_and] at hq
          go_wp2_with fail
          go_roundw
          case rel => exact ⟨.inr (.inl ⟨rfl, hq⟩), hb⟩
          case measure => simp [intOf]
        · have z1 : n0 < (0) := by omega
          rw [decide_eq_false z, Bool.false_and] at hq
          subst hq
          go_wp2_with fail
          go_ret
          exact ⟨rfl, hb⟩
      · have st : nuF 4 n0 n1 n2 1 = (noB 4 1 n1 && nuF 4 n0 n1 n2 2) := by simp [nuF]
        have e : noB 4 1 n1 = decide ((0) ≤ n1) := by unfold noB; rw [hU, hL]; rfl
        rw [st, e] at hq
        clear st e
        by_cases z : (0) ≤ n1
        · have z1 : ¬ n1 < (0) := by omega
          rw [decide_eq_true z, Bool.true_and] at hq
          go_wp2_with fail
          go_roundw
          case rel => exact ⟨.inr (.inr (.inl ⟨rfl, hq⟩)), hb⟩
          case measure => simp [intOf]
        · have z1 : n1 < (0) := by omega
          rw [decide_eq_false z, Bool.false_and] at hq
          subst hq
          go_wp2_with fail
          go_ret
          exact ⟨rfl, hb⟩
      · have st : nuF 4 n0 n1 n2 2 = (noB 4 2 n2 && nuF 4 n0 n1 n2 3) := by simp [nuF]
        have e : noB 4 2 n2 = decide (n2 = 0) := by unfold noB; rw [hU]; rfl
        rw [st, e] at hq
        clear st e
        by_cases z : n2 = 0
        · subst z
          simp only [decide_true, Bool.true_and] at hq
          go_wp2_with fail
          go_roundw
          case rel => exact ⟨.inr (.inr (.inr ⟨rfl, hq⟩)), hb⟩
          case measure => simp [intOf]
        · have z1 : (n2 != 0) = true := by simpa using z
          have z2 : (n2 == 0) = false := by simpa using z
          rw [decide_eq_false z, Bool.false_and] at hq
          subst hq
          go_wp2_with fail
          go_ret
          exact ⟨rfl, hb⟩
      · have e : nuF 4 n0 n1 n2 3 = true := rfl
        rw [e] at hq
        clear e
        subst hq
        go_wp2_with fail
        go_ret
        exact ⟨rfl, hb⟩
  have E1 : (kd == 1) = false := by simpa using k1
  have E7 : (kd == 7) = false := by simpa using k7
  have E2 : (kd == 2) = false := by simpa using k2
  have E3 : (kd == 3) = false := by simpa using k3
  have E4 : (kd == 4) = false := by simpa using k4
  have hU : usN kd = 0 := by unfold usN; simp_all
  have hL : leN kd = 0 := by unfold leN; simp_all
  have x0 := fun W : World => (ix46 n0 n1 n2 W).1
  have x1 := fun W : World => (ix46 n0 n1 n2 W).2.1
  have x2 := fun W : World => (ix46 n0 n1 n2 W).2.2
  go_enter Tryd.func29, Tryd.ntmps29
  go_wp2_with fail
  go_loopw [19] (fun u wr => ((u = .int .i64 0 ∧ nuF kd n0 n1 n2 0 = A) ∨ (u = .int .i64 1 ∧ nuF kd n0 n1 n2 1 = A) ∨ (u = .int .i64 2 ∧ nuF kd n0 n1 n2 2 = A) ∨ (u = .int .i64 3 ∧ nuF kd n0 n1 n2 3 = A)) ∧ Hid (Below w.heap.size w wr)) (fun u _ => 3 - (intOf u).toNat)
  case atStart => exact ⟨.inl ⟨rfl, hA⟩, bel1 _⟩
  case round =>
    clear hA
    obtain ⟨hk, hb'⟩ := hrel
    have hb := hb'.out
    clear hb'
    rcases hk with ⟨rfl, hq⟩ | ⟨rfl, hq⟩ | ⟨rfl, hq⟩ | ⟨rfl, hq⟩
    · have st : nuF kd n0 n1 n2 0 = (noB kd 0 n0 && nuF kd n0 n1 n2 1) := by simp [nuF]
      have e : noB kd 0 n0 = decide (n0 = 0) := by unfold noB; rw [hU]; rfl
      rw [st, e] at hq
      clear st e
      by_cases z : n0 = 0
      · subst z
        simp only [decide_true, Bool.true_and] at hq
        go_wp2_with fail
        go_roundw
        case rel => exact ⟨.inr (.inl ⟨rfl, hq⟩), hb⟩
        case measure => simp [intOf]
      · have z1 : (n0 != 0) = true := by simpa using z
        have z2 : (n0 == 0) = false := by simpa using z
        rw [decide_eq_false z, Bool.false_and] at hq
        subst hq
        go_wp2_with fail
        go_ret
        exact ⟨rfl, hb⟩
    · have st : nuF kd n0 n1 n2 1 = (noB kd 1 n1 && nuF kd n0 n1 n2 2) := by simp [nuF]
      have e : noB kd 1 n1 = decide (n1 = 0) := by unfold noB; rw [hU]; rfl
      rw [st, e] at hq
      clear st e
      by_cases z : n1 = 0
      · subst z
        simp only [decide_true, Bool.true_and] at hq
        go_wp2_with fail
        go_roundw
        case rel => exact ⟨.inr (.inr (.inl ⟨rfl, hq⟩)), hb⟩
        case measure => simp [intOf]
      · have z1 : (n1 != 0) = true := by simpa using z
        have z2 : (n1 == 0) = false := by simpa using z
        rw [decide_eq_false z, Bool.false_and] at hq
        subst hq
        go_wp2_with fail
        go_ret
        exact ⟨rfl, hb⟩
    · have st : nuF kd n0 n1 n2 2 = (noB kd 2 n2 && nuF kd n0 n1 n2 3) := by simp [nuF]
      have e : noB kd 2 n2 = decide (n2 = 0) := by unfold noB; rw [hU]; rfl
      rw [st, e] at hq
      clear st e
      by_cases z : n2 = 0
      · subst z
        simp only [decide_true, Bool.true_and] at hq
        go_wp2_with fail
        go_roundw
        case rel => exact ⟨.inr (.inr (.inr ⟨rfl, hq⟩)), hb⟩
        case measure => simp [intOf]
      · have z1 : (n2 != 0) = true := by simpa using z
        have z2 : (n2 == 0) = false := by simpa using z
        rw [decide_eq_false z, Bool.false_and] at hq
        subst hq
        go_wp2_with fail
        go_ret
        exact ⟨rfl, hb⟩
    · have e : nuF kd n0 n1 n2 3 = true := rfl
      rw [e] at hq
      clear e
      subst hq
      go_wp2_with fail
      go_ret
      exact ⟨rfl, hb⟩
end Go.Proofs.YthjdflcakngpiaaDoor
