import Derived.Test.YtfmdlcfkfglnhaaDoorFmB
import Derived.Test.YtfmdlcfkfglnhaaDoorNesC
import Derived.Test.YtfmdlcfkfglnhaaDoorNesD
namespace Go.Proofs.YtfmdlcfkfglnhaaDoor
open Go.RowKit
set_option linter.unusedVariables false

theorem nest_ar {L : List Nd} (h : 0 ≤ nestF L) : ∀ j (hj : j < L.length), arF L[j].op ≠ -1 := by
  unfold nestF at h
  by_cases q : spanF L (L.length - 1) = 0
  · unfold spanF at q
    by_cases p : 0 ≤ (L.length : Int) - 1 ∧ (L.length : Int) - 1 < L.length
    · rw [if_pos p] at q
      have e : ((L.length : Int) - 1).toNat + 1 = L.length := by omega
      rw [e] at q
      intro j hj
      exact ((span_high L L.length 1 (Nat.le_refl _) (by omega) q).2 j hj hj).1
    · intro j hj; omega
  · rw [if_neg q] at h; omega
theorem all_at {α : Type} (p : α → Bool) (L : List α) (k : Nat) (h : k < L.length) : (L.drop k).all p = (p L[k] && (L.drop (k + 1)).all p) := by
  rw [List.drop_eq_getElem_cons h]; rfl
theorem all_no {α : Type} (p : α → Bool) (L : List α) (k : Nat) (h : L.length ≤ k) : (L.drop k).all p = true := by
  rw [List.drop_eq_nil_of_le h]; rfl
set_option maxRecDepth 100000 in
set_option maxHeartbeats 4000000 in
theorem expr_any (L : List Nd) (v : Value) (w : World) (hN : Nds w v L) (hl : L.length ≤ 2932031007317) (hs : SmE L) (t : Tb w) :
    Calls Tryd.prog 11 #[v] w fun e w' => e = .returned (.bool (fEx L)) ∧ Below w.heap.size w w' := by
  have kN := fun (X : World) (hX : Below w.heap.size w X) => nest_any L v X (hN.below hX) hl
  have kA := fun (k : Nat) (hk : k < L.length) (X : World) (tX : Tb X) => node_any L[k] X (hs _ (List.getElem_mem hk)) tX
  obtain ⟨a, cap, rfl, hc⟩ := hN
  by_cases l1 : L.length ≤ 256
  case neg =>
    have t1 : (L.length : Int) > 256 := by omega
    have e : fEx L = false := by unfold fEx; rw [decide_eq_false l1]; rfl
    rw [e]
    go_enter Tryd.func11, Tryd.ntmps11
    go_wp2_with fail
    go_ret
    exact ⟨rfl, Below.refl _ _⟩
  have t1 : ¬ (L.length : Int) > 256 := by omega
  by_cases n0 : 0 ≤ nestF L
  case neg =>
    have t2 : nestF L < 0 := by omega
    have e : fEx L = false := by unfold fEx; rw [decide_eq_false n0]; simp
    rw [e]
    generalize nestF L = N at *
    go_enter Tryd.func11, Tryd.ntmps11
    go_wp2_with (go_at_call 18; (with_reducible refine Calls.mono (kN _ (Below.refl _ _)) ?_); rintro e w1 ⟨rfl, hb1⟩)
    go_ret
    exact ⟨rfl, hb1⟩
  have t2 : ¬ nestF L < 0 := by omega
  by_cases n1 : nestF L ≤ 64
  case neg =>
    have t3 : nestF L > 64 := by omega
    have e : fEx L = false := by unfold fEx; rw [decide_eq_false n1]; simp
    rw [e]
    generalize nestF L = N at *
    go_enter Tryd.func11, Tryd.ntmps11
    go_wp2_with (go_at_call 18; (with_reducible refine Calls.mono (kN _ (Below.refl _ _)) ?_); rintro e w1 ⟨rfl, hb1⟩)
    go_ret
    exact ⟨rfl, hb1⟩
  have t3 : ¬ nestF L > 64 := by omega
  have e : fEx L = L.all fNd := by unfold fEx; simp [l1, n0, n1]
  have har := nest_ar n0
  rw [e]
  clear e
  generalize nestF L = N at *
  generalize hA : L.all fNd = A
  have hA0 : (L.drop 0).all fNd = A := hA
  clear hA
  go_enter Tryd.func11, Tryd.ntmps11
  go_wp2_with (go_at_call 18; (with_reducible refine Calls.mono (kN _ (Below.refl _ _)) ?_); rintro e w1 ⟨rfl, hb1⟩)
  go_loopw [19] (fun u wr => ∃ k : Nat, k ≤ L.length ∧ u = .int .i64 (k : Int) ∧ Hid ((L.drop k).all fNd = A) ∧ Hid (Below w.heap.size w wr)) (fun u _ => L.length - (intOf u).toNat)
  case atStart => exact ⟨0, by omega, rfl, hA0, hb1⟩
  case round =>
    clear hA0 hb1
    obtain ⟨k, hkl, rfl, hs', hb'⟩ := hrel
    have hq := hs'.out
    have hb := hb'.out
    clear hs' hb'
    by_cases hlt : k < L.length
    · obtain ⟨g, o, rfl, hg, hx⟩ := hc.resolve_left (by intro e; rw [e] at hlt; simp at hlt)
      obtain ⟨x0, x1, x2, x3, x4⟩ := hx k hlt
      have p0 := (hb.cell (p := ⟨g, _, none⟩) hg).trans x0
      have p1 := (hb.cell (p := ⟨g, _, none⟩) hg).trans x1
      have p2 := (hb.cell (p := ⟨g, _, none⟩) hg).trans x2
      have p3 := (hb.cell (p := ⟨g, _, none⟩) hg).trans x3
      have p4 := (hb.cell (p := ⟨g, _, none⟩) hg).trans x4
      rw [all_at fNd L k hlt] at hq
      have s1 : (k : Int) < (L.length : Int) := by omega
      have s0 : (0 : Int) ≤ (k : Int) := by omega
      have tw := t.below hb
      have cA := fun (X : World) (tX : Tb X) => kA k hlt X tX
      clear x0 x1 x2 x3 x4 hx hc kA kN har
      generalize L[k] = x at *
      obtain ⟨xo, xv, xn, xl, xc⟩ := x
      simp only at *
      cases hf : fNd ⟨xo, xv, xn, xl, xc⟩ with
      | true =>
        rw [hf] at hq cA
        rw [Bool.true_and] at hq
        go_wp2_with (go_at_call 19; (with_reducible refine Calls.mono (cA _ (tw.alloc _)) ?_); rintro e w2 ⟨rfl, hb2⟩; have hbM := bel_after (hb.alloc hb.size _) (hb.alloc hb.size _).size hb2)
        go_roundw
        case rel => exact ⟨k + 1, by omega, by go_num, hq, hbM⟩
        case measure => simp [intOf]; omega
      | false =>
        rw [hf] at hq cA
        rw [Bool.false_and] at hq
        subst hq
        go_wp2_with (go_at_call 19; (with_reducible refine Calls.mono (cA _ (tw.alloc _)) ?_); rintro e w2 ⟨rfl, hb2⟩; have hbM := bel_after (hb.alloc hb.size _) (hb.alloc hb.size _).size hb2)
        go_ret
        exact ⟨rfl, hbM⟩
    · have s1 : ¬ (k : Int) < (L.length : Int) := by omega
      rw [all_no fNd L k (by omega)] at hq
      subst hq
      go_wp2_with fail
      go_ret
      exact ⟨rfl, hb⟩
set_option maxRecDepth 100000 in
set_option maxHeartbeats 4000000 in
theorem refExpr_any (L : List Nd) (v : Value) (w : World) (hN : Nds w v L) (hl : L.length ≤ 2932031007317) (hs : SmE L) (t : Tb w) :
    Calls Tryd.prog 14 #[v] w fun e w' => e = .returned (.bool (fEx L)) ∧ Below w.heap.size w w' := by
  have kN := fun (X : World) (hX : Below w.heap.size w X) => refNest_any L v X (hN.below hX) hl
  have kA := fun (k : Nat) (hk : k < L.length) (X : World) (tX : Tb X) (ha : arF L[k].op ≠ -1) => refNode_any L[k] X (hs _ (List.getElem_mem hk)) tX ha
  obtain ⟨a, cap, rfl, hc⟩ := hN
  by_cases l1 : L.length ≤ 256
  case neg =>
    have t1 : (L.length : Int) > 256 := by omega
    have e : fEx L = false := by unfold fEx; rw [decide_eq_false l1]; rfl
    rw [e]
    go_enter Tryd.func14, Tryd.ntmps14
    go_wp2_with fail
    go_ret
    exact ⟨rfl, Below.refl _ _⟩
  have t1 : ¬ (L.length : Int) > 256 := by omega
  by_cases n0 : 0 ≤ nestF L
  case neg =>
    have t2 : nestF L < 0 := by omega
    have e : fEx L = false := by unfold fEx; rw [decide_eq_false n0]; simp
    rw [e]
    generalize nestF L = N at *
    go_enter Tryd.func14, Tryd.ntmps14
    go_wp2_with (go_at_call 23; (with_reducible refine Calls.mono (kN _ (Below.refl _ _)) ?_); rintro e w1 ⟨rfl, hb1⟩)
    go_ret
    exact ⟨rfl, hb1⟩
  have t2 : ¬ nestF L < 0 := by omega
  by_cases n1 : nestF L ≤ 64
  case neg =>
    have t3 : nestF L > 64 := by omega
    have e : fEx L = false := by unfold fEx; rw [decide_eq_false n1]; simp
    rw [e]
    generalize nestF L = N at *
    go_enter Tryd.func14, Tryd.ntmps14
    go_wp2_with (go_at_call 23; (with_reducible refine Calls.mono (kN _ (Below.refl _ _)) ?_); rintro e w1 ⟨rfl, hb1⟩)
    go_ret
    exact ⟨rfl, hb1⟩
  have t3 : ¬ nestF L > 64 := by omega
  have e : fEx L = L.all fNd := by unfold fEx; simp [l1, n0, n1]
  have har := nest_ar n0
  rw [e]
  clear e
  generalize nestF L = N at *
  generalize hA : L.all fNd = A
  have hA0 : (L.drop 0).all fNd = A := hA
  clear hA
  go_enter Tryd.func14, Tryd.ntmps14
  go_wp2_with (go_at_call 23; (with_reducible refine Calls.mono (kN _ (Below.refl _ _)) ?_); rintro e w1 ⟨rfl, hb1⟩)
  go_loopw [4] (fun u wr => ∃ k : Nat, k ≤ L.length ∧ u = .int .i64 (k : Int) ∧ Hid ((L.drop k).all fNd = A) ∧ Hid (Below w.heap.size w wr)) (fun u _ => L.length - (intOf u).toNat)
  case atStart => exact ⟨0, by omega, rfl, hA0, hb1⟩
  case round =>
    clear hA0 hb1
    obtain ⟨k, hkl, rfl, hs', hb'⟩ := hrel
    have hq := hs'.out
    have hb := hb'.out
    clear hs' hb'
    by_cases hlt : k < L.length
    · obtain ⟨g, o, rfl, hg, hx⟩ := hc.resolve_left (by intro e; rw [e] at hlt; simp at hlt)
      obtain ⟨x0, x1, x2, x3, x4⟩ := hx k hlt
      have p0 := (hb.cell (p := ⟨g, _, none⟩) hg).trans x0
      have p1 := (hb.cell (p := ⟨g, _, none⟩) hg).trans x1
      have p2 := (hb.cell (p := ⟨g, _, none⟩) hg).trans x2
      have p3 := (hb.cell (p := ⟨g, _, none⟩) hg).trans x3
      have p4 := (hb.cell (p := ⟨g, _, none⟩) hg).trans x4
      rw [all_at fNd L k hlt] at hq
      have s1 : (k : Int) < (L.length : Int) := by omega
      have s0 : (0 : Int) ≤ (k : Int) := by omega
      have tw := t.below hb
      have cA := fun (X : World) (tX : Tb X) => kA k hlt X tX (har k hlt)
      clear x0 x1 x2 x3 x4 hx hc kA kN har
      generalize L[k] = x at *
      obtain ⟨xo, xv, xn, xl, xc⟩ := x
      simp only at *
      cases hf : fNd ⟨xo, xv, xn, xl, xc⟩ with
      | true =>
        rw [hf] at hq cA
        rw [Bool.true_and] at hq
        go_wp2_with (go_at_call 24; (with_reducible refine Calls.mono (cA _ tw) ?_); rintro e w2 ⟨rfl, hb2⟩; have hbM := bel_after hb hb.size hb2)
        go_roundw
        case rel => exact ⟨k + 1, by omega, by go_num, hq, hbM⟩
        case measure => simp [intOf]; omega
      | false =>
        rw [hf] at hq cA
        rw [Bool.false_and] at hq
        subst hq
        go_wp2_with (go_at_call 24; (with_reducible refine Calls.mono (cA _ tw) ?_); rintro e w2 ⟨rfl, hb2⟩; have hbM := bel_after hb hb.size hb2)
        go_ret
        exact ⟨rfl, hbM⟩
    · have s1 : ¬ (k : Int) < (L.length : Int) := by omega
      rw [all_no fNd L k (by omega)] at hq
      subst hq
      go_wp2_with fail
      go_ret
      exact ⟨rfl, hb⟩
end Go.Proofs.YtfmdlcfkfglnhaaDoor
