import Derived.Test.YtbfojlfdiallnaaSamC
import Derived.Test.YtbfojlfdiallnaaSamD
namespace Go.Proofs.Ytbfojlfdiallnaa
open Go.RowKit
set_option linter.unusedVariables false

set_option maxRecDepth 100000 in
set_option maxHeartbeats 4000000 in
theorem equalTexts_any (L1 L2 : List ByteArray) (u1 u2 : Value) (S1 S2 : Nat → Prop) (w : World) (h1 : Txs S1 w u1 L1) (h2 : Txs S2 w u2 L2) :
    Calls Try.prog 60 #[u1, u2] w fun e w' => e = .returned (.bool (eqF txt L1 L2)) ∧ Below w.heap.size w w' := by
  obtain ⟨a1, c1, rfl, hlen, k1⟩ := Rows.any h1
  obtain ⟨a2, c2, rfl, _, k2⟩ := Rows.any h2
  clear h1 h2
  by_cases hl : L1.length = L2.length
  · generalize hA : eqF txt L1 L2 = A
    have hl' : Hid (L1.length = L2.length) := hl
    rw [← hl]
    by_cases h0 : L1 = []
    · subst h0
      have h0' : L2 = [] := List.length_eq_zero_iff.1 (by rw [← hl]; rfl)
      subst h0'
      have hA' : A = true := by rw [← hA]; rfl
      subst hA'
      clear k1 k2 hl' hl
      go_enter Try.func60, Try.ntmps60
      go_wp2
      go_loop [13] (fun t => t = .int .i64 0) (fun _ => 0)
      case atStart => exact rfl
      case round =>
        obtain rfl := hrel
        go_wp2
        go_ret
        exact ⟨rfl, Below.refl _ _⟩
    · obtain ⟨g1, o1, rfl, _, hg1, H1⟩ := k1.resolve_left h0
      obtain ⟨g2, o2, rfl, _, hg2, H2⟩ := k2.resolve_left (by intro e; rw [e] at hl; exact h0 (List.length_eq_zero_iff.1 hl))
      clear h0 k1 k2 hl
      go_enter Try.func60, Try.ntmps60
      go_wp2
      go_loopw [13] (fun t wr => ∃ k q : Nat, k ≤ L1.length ∧ t = .int .i64 (k : Int) ∧ eqF txt (L1.drop k) (L2.drop k) = A ∧ wr = w.drewN q) (fun t _ => L1.length - (intOf t).toNat)
      case atStart => exact ⟨0, 0, by omega, rfl, hA, rfl⟩
      case round =>
        obtain ⟨k, q, hk, rfl, hs, rfl⟩ := hrel
        by_cases hlt : k < L1.length
        · obtain ⟨cs1, _, rfl, p⟩ := H1 k hlt
          obtain ⟨cs2, _, rfl, r⟩ := H2 k (by have := hl'.out; omega)
          have p0 := p 0 _ rfl
          have r0 := r 0 _ rfl
          have hstep := eqF_step txt L1 L2 k hlt (by have := hl'.out; omega)
          rw [hs] at hstep
          have k1 : (k : Int) < (L1.length : Int) := by omega
          have k0 : (0 : Int) ≤ (k : Int) := by omega
          clear p r hs
          generalize L1[k] = x at *
          generalize L2[k]'(by have := hl'.out; omega) = y at *
          simp only [Nat.add_zero, Nat.mul_one] at p0 r0
          cases hxy : txt x y with
          | true =>
            have hstep' : Hid (eqF txt (L1.drop (k + 1)) (L2.drop (k + 1)) = A) := by show _ = _; rw [hstep, hxy]; rfl
            have hxy' : (x.toList == y.toList) = true := hxy
            clear hstep hxy H1 H2
            go_wp2
            go_quiet (fail)
            go_wp2
            go_roundw
            case rel => exact ⟨k + 1, q + nq, by omega, by go_num, hstep'.out, rfl⟩
            case measure => simp [intOf]; omega
          | false =>
            have hA' : A = false := by rw [hstep, hxy]; rfl
            subst hA'
            have hxy' : (x.toList == y.toList) = false := hxy
            clear hstep hxy H1 H2
            go_wp2
            go_quiet (fail)
            go_wp2
            go_ret
            exact ⟨rfl, bel_drewN (bel_drewN (Below.refl _ _))⟩
        · have k1 : ¬ (k : Int) < (L1.length : Int) := by omega
          have hA' : A = true := by rw [← hs]; exact eqF_end _ _ _ _ (by omega) (by have := hl'.out; omega)
          subst hA'
          clear H1 H2
          go_wp2
          go_ret
          exact ⟨rfl, bel_drewN (Below.refl _ _)⟩
  · rw [eqF_len _ _ _ hl]
    go_enter Try.func60, Try.ntmps60
    go_wp2
    go_ret
    exact ⟨rfl, Below.refl _ _⟩

set_option maxRecDepth 100000 in
set_option maxHeartbeats 4000000 in
theorem sameStage_any (x y : Sg) (s1 s2 : SgV) (S1 S2 : Nat → Prop) (w : World) (h1 : SgR S1 w s1 x) (h2 : SgR S2 w s2 y) :
    Calls Try.prog 52 #[.agg #[s1.green, s1.enter, s1.during, s1.leave, s1.nexts], .agg #[s2.green, s2.enter, s2.during, s2.leave, s2.nexts]] w fun e w' => e = .returned (.bool (sameSg x y)) ∧ Below w.heap.size w w' := by
  obtain ⟨a1, a2, a3, a4, a5⟩ := h1
  obtain ⟨b1, b2, b3, b4, b5⟩ := h2
  have hG := fun (W : World) (hW : Below w.heap.size w W) => equalTexts_any _ _ _ _ S1 S2 W (a1.below hW) (b1.below hW)
  have hE := fun (W : World) (hW : Below w.heap.size w W) => sameStmts_any _ _ _ _ S1 S2 W (a2.below hW) (b2.below hW)
  have hD := fun (W : World) (hW : Below w.heap.size w W) => sameStmts_any _ _ _ _ S1 S2 W (a3.below hW) (b3.below hW)
  have hL := fun (W : World) (hW : Below w.heap.size w W) => sameStmts_any _ _ _ _ S1 S2 W (a4.below hW) (b4.below hW)
  have hN := fun (W : World) (hW : Below w.heap.size w W) => equalNexts_any _ _ _ _ S1 S2 W (a5.below hW) (b5.below hW)
  have key : sameSg x y = (eqF txt x.green y.green && (eqF sameSt x.enter y.enter && (eqF sameSt x.during y.during && (eqF sameSt x.leave y.leave && eqF sameNx x.nexts y.nexts)))) := rfl
  generalize sameSg x y = A at *
  generalize eqF txt x.green y.green = B1 at *
  generalize eqF sameSt x.enter y.enter = B2 at *
  generalize eqF sameSt x.during y.during = B3 at *
  generalize eqF sameSt x.leave y.leave = B4 at *
  generalize eqF sameNx x.nexts y.nexts = B5 at *
  obtain ⟨s10, s11, s12, s13, s14⟩ := s1
  obtain ⟨s20, s21, s22, s23, s24⟩ := s2
  simp only at *
  obtain ⟨_, _, rfl, -, -⟩ := Rows.any a1
  obtain ⟨_, _, rfl, -, -⟩ := Rows.any a2
  obtain ⟨_, _, rfl, -, -⟩ := Rows.any a3
  obtain ⟨_, _, rfl, -, -⟩ := Rows.any a4
  obtain ⟨_, _, rfl, -, -⟩ := Rows.any a5
  obtain ⟨_, _, rfl, -, -⟩ := Rows.any b1
  obtain ⟨_, _, rfl, -, -⟩ := Rows.any b2
  obtain ⟨_, _, rfl, -, -⟩ := Rows.any b3
  obtain ⟨_, _, rfl, -, -⟩ := Rows.any b4
  obtain ⟨_, _, rfl, -, -⟩ := Rows.any b5
  clear a1 a2 a3 a4 a5 b1 b2 b3 b4 b5
  go_enter Try.func52, Try.ntmps52
  go_wp2_with (first
    | (go_at_call 60; (with_reducible refine Calls.mono (hG _ (by exact ((Below.refl _ _).alloc (Nat.le_refl _) _).alloc (by simp) _)) ?_); rintro e w1 ⟨rfl, hb1⟩; have HB1 : Below w.heap.size w w1 := bel_after (((Below.refl _ _).alloc (Nat.le_refl _) _).alloc (by simp) _) (by simp; omega) hb1; have K1 := ((Has.new w _ _ rfl).alloc _).below hb1; have K2 : Has w1 (w.heap.size + 1) _ := (Has.new (w.alloc _) _ _ (by simp)).below hb1; obtain ⟨_, c1, _⟩ := id K1; obtain ⟨_, c2, _⟩ := id K2)
    | (go_at_call 61; (with_reducible refine Calls.mono (hE _ (by exact HB1)) ?_); rintro e w2 ⟨rfl, hb2⟩; have HB2 : Below w.heap.size w w2 := bel_after HB1 HB1.size hb2; have K3 := K1.below hb2; have K4 := K2.below hb2; obtain ⟨_, c3, _⟩ := id K3; obtain ⟨_, c4, _⟩ := id K4)
    | (go_at_call 61; (with_reducible refine Calls.mono (hD _ (by exact HB2)) ?_); rintro e w3 ⟨rfl, hb3⟩; have HB3 : Below w.heap.size w w3 := bel_after HB2 HB2.size hb3; have K5 := K3.below hb3; have K6 := K4.below hb3; obtain ⟨_, c5, _⟩ := id K5; obtain ⟨_, c6, _⟩ := id K6)
    | (go_at_call 61; (with_reducible refine Calls.mono (hL _ (by exact HB3)) ?_); rintro e w4 ⟨rfl, hb4⟩; have HB4 : Below w.heap.size w w4 := bel_after HB3 HB3.size hb4; have K7 := K5.below hb4; have K8 := K6.below hb4; obtain ⟨_, c7, _⟩ := id K7; obtain ⟨_, c8, _⟩ := id K8)
    | (go_at_call 62; (with_reducible refine Calls.mono (hN _ (by exact HB4)) ?_); rintro e w5 ⟨rfl, hb5⟩; have HB5 : Below w.heap.size w w5 := bel_after HB4 HB4.size hb5; have K9 := K7.below hb5; have K10 := K8.below hb5; obtain ⟨_, c9, _⟩ := id K9; obtain ⟨_, c10, _⟩ := id K10))
  all_goals (refine bodyPost_ret (v := .bool A) (by simp_all [results, Try.results52, go_sem]) rfl ⟨rfl, by assumption⟩)
end Go.Proofs.Ytbfojlfdiallnaa
