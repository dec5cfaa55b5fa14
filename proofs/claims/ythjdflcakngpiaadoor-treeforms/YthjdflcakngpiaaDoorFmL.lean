import Derived.Test.YthjdflcakngpiaaDoorFmG
namespace Go.Proofs.YthjdflcakngpiaaDoor
open Go.RowKit
set_option linter.unusedVariables false

set_option maxRecDepth 100000 in
set_option maxHeartbeats 4000000 in
theorem rd2a (l0 c0 : Int) (nm wi : ByteArray) (n0 n1 n2 : Int) (xa ga ea da la na : Option Addr) (xe xc gn gc en ec dn dc ln lc nn nc : Nat) (w : World) (w6 x7 g8 : Bool) (e6 : wi.toList.isEmpty = w6) (e7 : ((xe : Int) == 0) = x7) (k0 : ∀ X : World, Below w.heap.size w X → Calls Tryd.prog 20 #[.string nm] X fun e w' => e = .returned (.bool true) ∧ Below X.heap.size X w') (k1 : ∀ X : World, Below w.heap.size w X → Calls Tryd.prog 36 #[.agg #[.slice ga gn gc, .slice ea en ec, .slice da dn dc, .slice la ln lc, .slice na nn nc]] X fun e w' => e = .returned (.bool g8) ∧ Below X.heap.size X w') :
    Calls Tryd.prog 21 #[.agg #[.int .i64 2, .int .i64 l0, .int .i64 c0, .string nm, .string wi, .int .i64 1, .int .i32 n0, .int .i32 n1, .int .i32 n2, .slice xa xe xc, .slice ga gn gc, .slice ea en ec, .slice da dn dc, .slice la ln lc, .slice na nn nc]] w fun e w' => e = .returned (.bool (nuF 2 n0 n1 n2 0 && (true && (w6 && (x7 && g8))))) ∧ Below w.heap.size w w' := by
  have hb0 : Below w.heap.size w (w.alloc (.cells #[.int .i64 2, .int .i64 l0, .int .i64 c0, .string nm, .string wi, .int .i64 1, .int .i32 n0, .int .i32 n1, .int .i32 n2, .slice xa xe xc, .slice ga gn gc, .slice ea en ec, .slice da dn dc, .slice la ln lc, .slice na nn nc] 53)) := bel1 _
  have K0 : Has (w.alloc (.cells #[.int .i64 2, .int .i64 l0, .int .i64 c0, .string nm, .string wi, .int .i64 1, .int .i32 n0, .int .i32 n1, .int .i32 n2, .slice xa xe xc, .slice ga gn gc, .slice ea en ec, .slice da dn dc, .slice la ln lc, .slice na nn nc] 53)) w.heap.size #[.int .i64 2, .int .i64 l0, .int .i64 c0, .string nm, .string wi, .int .i64 1, .int .i32 n0, .int .i32 n1, .int .i32 n2, .slice xa xe xc, .slice ga gn gc, .slice ea en ec, .slice da dn dc, .slice la ln lc, .slice na nn nc] := Has.new _ _ _ rfl
  have hU : usN 2 = 3 := rfl
  generalize hA : (nuF 2 n0 n1 n2 0 && (true && (w6 && (x7 && g8)))) = A
  go_enter Tryd.func21, Tryd.ntmps21
  go_upto_region 32 with (first | (go_at_call 20; (with_reducible refine Calls.mono (k0 _ (by exact hb0)) ?_); rintro e w1 ⟨rfl, h1⟩; have hb1 := bel_after hb0 hb0.size h1; have K1 := K0.below h1; obtain ⟨_, c1, _⟩ := id K1) | (go_at_call 36; (with_reducible refine Calls.mono (k1 _ (by exact hb1)) ?_); rintro e w2 ⟨rfl, h2⟩; have hb2 := bel_after hb1 hb1.size h2; have K2 := K1.below h2; obtain ⟨_, c2, _⟩ := id K2))
  clear hb0 K0 k0 k1 c1 h1
  go_wp2_with fail
  go_loopw [10] (fun u wr => ((u = .int .i64 0 ∧ (nuF 2 n0 n1 n2 0 && (true && (w6 && (x7 && g8)))) = A) ∨ (u = .int .i64 1 ∧ (nuF 2 n0 n1 n2 1 && (true && (w6 && (x7 && g8)))) = A) ∨ (u = .int .i64 2 ∧ (nuF 2 n0 n1 n2 2 && (true && (w6 && (x7 && g8)))) = A) ∨ (u = .int .i64 3 ∧ (nuF 2 n0 n1 n2 3 && (true && (w6 && (x7 && g8)))) = A)) ∧ Hid (Has wr w.heap.size #[.int .i64 2, .int .i64 l0, .int .i64 c0, .string nm, .string wi, .int .i64 1, .int .i32 n0, .int .i32 n1, .int .i32 n2, .slice xa xe xc, .slice ga gn gc, .slice ea en ec, .slice da dn dc, .slice la ln lc, .slice na nn nc]) ∧ Hid (Below w.heap.size w wr)) (fun u _ => 3 - (intOf u).toNat)
  case atStart => exact ⟨.inl ⟨rfl, hA⟩, K2, hb2⟩
  case round =>
    clear hA
    obtain ⟨hk, K', hb'⟩ := hrel
    have K := K'.out
    have hb := hb'.out
    clear K' hb'
    obtain ⟨_, cc, _⟩ := id K
    rcases hk with ⟨rfl, hq⟩ | ⟨rfl, hq⟩ | ⟨rfl, hq⟩ | ⟨rfl, hq⟩
    · have st : nuF 2 n0 n1 n2 0 = (noB 2 0 n0 && nuF 2 n0 n1 n2 1) := by simp [nuF]
      have e : noB 2 0 n0 = decide (0 ≤ n0) := by unfold noB; rw [hU]; rfl
      rw [st, e] at hq
      clear st e
      by_cases z : 0 ≤ n0
      · have z1 : ¬ n0 < 0 := by omega
        have z2 : (n0 == -2147483648) = false := by simp; omega
        rw [decide_eq_true z, Bool.true_and] at hq
        go_wp2_with fail
        go_roundw
        case rel => exact ⟨.inr (.inl ⟨rfl, hq⟩), K, hb⟩
        case measure => simp [intOf]
      · have z1 : n0 < 0 := by omega
        rw [decide_eq_false z, Bool.false_and, Bool.false_and] at hq
        subst hq
        go_wp2_with fail
        go_ret
        exact ⟨rfl, hb⟩
    · have st : nuF 2 n0 n1 n2 1 = (noB 2 1 n1 && nuF 2 n0 n1 n2 2) := by simp [nuF]
      have e : noB 2 1 n1 = decide (0 ≤ n1) := by unfold noB; rw [hU]; rfl
      rw [st, e] at hq
      clear st e
      by_cases z : 0 ≤ n1
      · have z1 : ¬ n1 < 0 := by omega
        have z2 : (n1 == -2147483648) = false := by simp; omega
        rw [decide_eq_true z, Bool.true_and] at hq
        go_wp2_with fail
        go_roundw
        case rel => exact ⟨.inr (.inr (.inl ⟨rfl, hq⟩)), K, hb⟩
        case measure => simp [intOf]
      · have z1 : n1 < 0 := by omega
        rw [decide_eq_false z, Bool.false_and, Bool.false_and] at hq
        subst hq
        go_wp2_with fail
        go_ret
        exact ⟨rfl, hb⟩
    · have st : nuF 2 n0 n1 n2 2 = (noB 2 2 n2 && nuF 2 n0 n1 n2 3) := by simp [nuF]
      have e : noB 2 2 n2 = decide (0 ≤ n2) := by unfold noB; rw [hU]; rfl
      rw [st, e] at hq
      clear st e
      by_cases z : 0 ≤ n2
      · have z1 : ¬ n2 < 0 := by omega
        have z2 : (n2 == -2147483648) = false := by simp; omega
        rw [decide_eq_true z, Bool.true_and] at hq
        go_wp2_with fail
        go_roundw
        case rel => exact ⟨.inr (.inr (.inr ⟨rfl, hq⟩)), K, hb⟩
        case measure => simp [intOf]
      · have z1 : n2 < 0 := by omega
        rw [decide_eq_false z, Bool.false_and, Bool.false_and] at hq
        subst hq
        go_wp2_with fail
        go_ret
        exact ⟨rfl, hb⟩
    · have e : nuF 2 n0 n1 n2 3 = true := rfl
      rw [e, Bool.true_and] at hq
      clear e
      subst hq
      cases w6 <;> cases x7 <;> (go_wp2_with fail; go_ret; exact ⟨rfl, hb⟩)
set_option maxRecDepth 100000 in
set_option maxHeartbeats 4000000 in
theorem rd2b (l0 c0 : Int) (nm wi : ByteArray) (n0 n1 n2 : Int) (xa ga ea da la na : Option Addr) (xe xc gn gc en ec dn dc ln lc nn nc : Nat) (w : World) (w6 x7 g8 : Bool) (e6 : wi.toList.isEmpty = w6) (e7 : ((xe : Int) == 0) = x7) (k0 : ∀ X : World, Below w.heap.size w X → Calls Tryd.prog 20 #[.string nm] X fun e w' => e = .returned (.bool true) ∧ Below X.heap.size X w') (k1 : ∀ X : World, Below w.heap.size w X → Calls Tryd.prog 36 #[.agg #[.slice ga gn gc, .slice ea en ec, .slice da dn dc, .slice la ln lc, .slice na nn nc]] X fun e w' => e = .returned (.bool g8) ∧ Below X.heap.size X w') :
    Calls Tryd.prog 21 #[.agg #[.int .i64 2, .int .i64 l0, .int .i64 c0, .string nm, .string wi, .int .i64 2, .int .i32 n0, .int .i32 n1, .int .i32 n2, .slice xa xe xc, .slice ga gn gc, .slice ea en ec, .slice da dn dc, .slice la ln lc, .slice na nn nc]] w fun e w' => e = .returned (.bool (nuF 2 n0 n1 n2 0 && (true && (w6 && (x7 && g8))))) ∧ Below w.heap.size w w' := by
  have hb0 : Below w.heap.size w (w.alloc (.cells #[.int .i64 2, .int .i64 l0, .int .i64 c0, .string nm, .string wi, .int .i64 2, .int .i32 n0, .int .i32 n1, .int .i32 n2, .slice xa xe xc, .slice ga gn gc, .slice ea en ec, .slice da dn dc, .slice la ln lc, .slice na nn nc] 53)) := bel1 _
  have K0 : Has (w.alloc (.cells #[.int .i64 2, .int .i64 l0, .int .i64 c0, .string nm, .string wi, .int .i64 2, .int .i32 n0, .int .i32 n1, .int .i32 n2, .slice xa xe xc, .slice ga gn gc, .slice ea en ec, .slice da dn dc, .slice la ln lc, .slice na nn nc] 53)) w.heap.size #[.int .i64 2, .int .i64 l0, .int .i64 c0, .string nm, .string wi, .int .i64 2, .int .i32 n0, .int .i32 n1, .int .i32 n2, .slice xa xe xc, .slice ga gn gc, .slice ea en ec, .slice da dn dc, .slice la ln lc, .slice na nn nc] := Has.new _ _ _ rfl
  have hU : usN 2 = 3 := rfl
  generalize hA : (nuF 2 n0 n1 n2 0 && (true && (w6 && (x7 && g8)))) = A
  go_enter Tryd.func21, Tryd.ntmps21
  go_upto_region 32 with (first | (go_at_call 20; (with_reducible refine Calls.mono (k0 _ (by exact hb0)) ?_); rintro e w1 ⟨rfl, h1⟩; have hb1 := bel_after hb0 hb0.size h1; have K1 := K0.below h1; obtain ⟨_, c1, _⟩ := id K1) | (go_at_call 36; (with_reducible refine Calls.mono (k1 _ (by exact hb1)) ?_); rintro e w2 ⟨rfl, h2⟩; have hb2 := bel_after hb1 hb1.size h2; have K2 := K1.below h2; obtain ⟨_, c2, _⟩ := id K2))
  clear hb0 K0 k0 k1 c1 h1
  go_wp2_with fail
  go_loopw [10] (fun u wr => ((u = .int .i64 0 ∧ (nuF 2 n0 n1 n2 0 && (true && (w6 && (x7 && g8)))) = A) ∨ (u = .int .i64 1 ∧ (nuF 2 n0 n1 n2 1 && (true && (w6 && (x7 && g8)))) = A) ∨ (u = .int .i64 2 ∧ (nuF 2 n0 n1 n2 2 && (true && (w6 && (x7 && g8)))) = A) ∨ (u = .int .i64 3 ∧ (nuF 2 n0 n1 n2 3 && (true && (w6 && (x7 && g8)))) = A)) ∧ Hid (Has wr w.heap.size #[.int .i64 2, .int .i64 l0, .int .i64 c0, .string nm, .string wi, .int .i64 2, .int .i32 n0, .int .i32 n1, .int .i32 n2, .slice xa xe xc, .slice ga gn gc, .slice ea en ec, .slice da dn dc, .slice la ln lc, .slice na nn nc]) ∧ Hid (Below w.heap.size w wr)) (fun u _ => 3 - (intOf u).toNat)
  case atStart => exact ⟨.inl ⟨rfl, hA⟩, K2, hb2⟩
  case round =>
    clear hA
    obtain ⟨hk, K', hb'⟩ := hrel
    have K := K'.out
    have hb := hb'.out
    clear K' hb'
    obtain ⟨_, cc, _⟩ := id K
    rcases hk with ⟨rfl, hq⟩ | ⟨rfl, hq⟩ | ⟨rfl, hq⟩ | ⟨rfl, hq⟩
    · have st : nuF 2 n0 n1 n2 0 = (noB 2 0 n0 && nuF 2 n0 n1 n2 1) := by simp [nuF]
      have e : noB 2 0 n0 = decide (0 ≤ n0) := by unfold noB; rw [hU]; rfl
      rw [st, e] at hq
      clear st e
      by_cases z : 0 ≤ n0
      · have z1 : ¬ n0 < 0 := by omega
        have z2 : (n0 == -2147483648) = false := by simp; omega
        rw [decide_eq_true z, Bool.true_and] at hq
        go_wp2_with fail
        go_roundw
        case rel => exact ⟨.inr (.inl ⟨rfl, hq⟩), K, hb⟩
        case measure => simp [intOf]
      · have z1 : n0 < 0 := by omega
        rw [decide_eq_false z, Bool.false_and, Bool.false_and] at hq
        subst hq
        go_wp2_with fail
        go_ret
        exact ⟨rfl, hb⟩
    · have st : nuF 2 n0 n1 n2 1 = (noB 2 1 n1 && nuF 2 n0 n1 n2 2) := by simp [nuF]
      have e : noB 2 1 n1 = decide (0 ≤ n1) := by unfold noB; rw [hU]; rfl
      rw [st, e] at hq
      clear st e
      by_cases z : 0 ≤ n1
      · have z1 : ¬ n1 < 0 := by omega
        have z2 : (n1 == -2147483648) = false := by simp; omega
        rw [decide_eq_true z, Bool.true_and] at hq
        go_wp2_with fail
        go_roundw
        case rel => exact ⟨.inr (.inr (.inl ⟨rfl, hq⟩)), K, hb⟩
        case measure => simp [intOf]
      · have z1 : n1 < 0 := by omega
        rw [decide_eq_false z, Bool.false_and, Bool.false_and] at hq
        subst hq
        go_wp2_with fail
        go_ret
        exact ⟨rfl, hb⟩
    · have st : nuF 2 n0 n1 n2 2 = (noB 2 2 n2 && nuF 2 n0 n1 n2 3) := by simp [nuF]
      have e : noB 2 2 n2 = decide (0 ≤ n2) := by unfold noB; rw [hU]; rfl
      rw [st, e] at hq
      clear st e
      by_cases z : 0 ≤ n2
      · have z1 : ¬ n2 < 0 := by omega
        have z2 : (n2 == -2147483648) = false := by simp; omega
        rw [decide_eq_true z, Bool.true_and] at hq
        go_wp2_with fail
        go_roundw
        case rel => exact ⟨.inr (.inr (.inr ⟨rfl, hq⟩)), K, hb⟩
        case measure => simp [intOf]
      · have z1 : n2 < 0 := by omega
        rw [decide_eq_false z, Bool.false_and, Bool.false_and] at hq
        subst hq
        go_wp2_with fail
        go_ret
        exact ⟨rfl, hb⟩
    · have e : nuF 2 n0 n1 n2 3 = true := rfl
      rw [e, Bool.true_and] at hq
      clear e
      subst hq
      cases w6 <;> cases x7 <;> (go_wp2_with fail; go_ret; exact ⟨rfl, hb⟩)
set_option maxRecDepth 100000 in
set_option maxHeartbeats 4000000 in
theorem rd2c (l0 c0 : Int) (nm wi : ByteArray) (so n0 n1 n2 : Int) (xa ga ea da la na : Option Addr) (xe xc gn gc en ec dn dc ln lc nn nc : Nat) (w : World) (w6 x7 g8 : Bool) (f1 : (so == 1) = false) (f2 : (so == 2) = false) (e6 : wi.toList.isEmpty = w6) (e7 : ((xe : Int) == 0) = x7) (k0 : ∀ X : World, Below w.heap.size w X → Calls Tryd.prog 20 #[.string nm] X fun e w' => e = .returned (.bool true) ∧ Below X.heap.size X w') (k1 : ∀ X : World, Below w.heap.size w X → Calls Tryd.prog 36 #[.agg #[.slice ga gn gc, .slice ea en ec, .slice da dn dc, .slice la ln lc, .slice na nn nc]] X fun e w' => e = .returned (.bool g8) ∧ Below X.heap.size X w') :
    Calls Tryd.prog 21 #[.agg #[.int .i64 2, .int .i64 l0, .int .i64 c0, .string nm, .string wi, .int .i64 so, .int .i32 n0, .int .i32 n1, .int .i32 n2, .slice xa xe xc, .slice ga gn gc, .slice ea en ec, .slice da dn dc, .slice la ln lc, .slice na nn nc]] w fun e w' => e = .returned (.bool (nuF 2 n0 n1 n2 0 && (false && (w6 && (x7 && g8))))) ∧ Below w.heap.size w w' := by
  have hb0 : Below w.heap.size w (w.alloc (.cells #[.int .i64 2, .int .i64 l0, .int .i64 c0, .string nm, .string wi, .int .i64 so, .int .i32 n0, .int .i32 n1, .int .i32 n2, .slice xa xe xc, .slice ga gn gc, .slice ea en ec, .slice da dn dc, .slice la ln lc, .slice na nn nc] 53)) := bel1 _
  have K0 : Has (w.alloc (.cells #[.int .i64 2, .int .i64 l0, .int .i64 c0, .string nm, .string wi, .int .i64 so, .int .i32 n0, .int .i32 n1, .int .i32 n2, .slice xa xe xc, .slice ga gn gc, .slice ea en ec, .slice da dn dc, .slice la ln lc, .slice na nn nc] 53)) w.heap.size #[.int .i64 2, .int .i64 l0, .int .i64 c0, .string nm, .string wi, .int .i64 so, .int .i32 n0, .int .i32 n1, .int .i32 n2, .slice xa xe xc, .slice ga gn gc, .slice ea en ec, .slice da dn dc, .slice la ln lc, .slice na nn nc] := Has.new _ _ _ rfl
  have hU : usN 2 = 3 := rfl
  generalize hA : (nuF 2 n0 n1 n2 0 && (false && (w6 && (x7 && g8)))) = A
  go_enter Tryd.func21, Tryd.ntmps21
  go_upto_region 32 with (first | (go_at_call 20; (with_reducible refine Calls.mono (k0 _ (by exact hb0)) ?_); rintro e w1 ⟨rfl, h1⟩; have hb1 := bel_after hb0 hb0.size h1; have K1 := K0.below h1; obtain ⟨_, c1, _⟩ := id K1) | (go_at_call 36; (with_reducible refine Calls.mono (k1 _ (by exact hb1)) ?_); rintro e w2 ⟨rfl, h2⟩; have hb2 := bel_after hb1 hb1.size h2; have K2 := K1.below h2; obtain ⟨_, c2, _⟩ := id K2))
  clear hb0 K0 k0 k1 c1 h1
  go_wp2_with fail
  go_loopw [10] (fun u wr => ((u = .int .i64 0 ∧ (nuF 2 n0 n1 n2 0 && (false && (w6 && (x7 && g8)))) = A) ∨ (u = .int .i64 1 ∧ (nuF 2 n0 n1 n2 1 && (false && (w6 && (x7 && g8)))) = A) ∨ (u = .int .i64 2 ∧ (nuF 2 n0 n1 n2 2 && (false && (w6 && (x7 && g8)))) = A) ∨ (u = .int .i64 3 ∧ (nuF 2 n0 n1 n2 3 && (false && (w6 && (x7 && g8)))) = A)) ∧ Hid (Has wr w.heap.size #[.int .i64 2, .int .i64 l0, .int .i64 c0, .string nm, .string wi, .int .i64 so, .int .i32 n0, .int .i32 n1, .int .i32 n2, .slice xa xe xc, .slice ga gn gc, .slice ea en ec, .slice da dn dc, .slice la ln lc, .slice na nn nc]) ∧ Hid (Below w.heap.size w wr)) (fun u _ => 3 - (intOf u).toNat)
  case atStart => exact ⟨.inl ⟨rfl, hA⟩, K2, hb2⟩
  case round =>
    clear hA
    obtain ⟨hk, K', hb'⟩ := hrel
    have K := K'.out
    have hb := hb'.out
    clear K' hb'
    obtain ⟨_, cc, _⟩ := id K
    rcases hk with ⟨rfl, hq⟩ | ⟨rfl, hq⟩ | ⟨rfl, hq⟩ | ⟨rfl, hq⟩
    · have st : nuF 2 n0 n1 n2 0 = (noB 2 0 n0 && nuF 2 n0 n1 n2 1) := by simp [nuF]
      have e : noB 2 0 n0 = decide (0 ≤ n0) := by unfold noB; rw [hU]; rfl
      rw [st, e] at hq
      clear st e
      by_cases z : 0 ≤ n0
      · have z1 : ¬ n0 < 0 := by omega
        have z2 : (n0 == -2147483648) = false := by simp; omega
        rw [decide_eq_true z, Bool.true_and] at hq
        go_wp2_with fail
        go_roundw
        case rel => exact ⟨.inr (.inl ⟨rfl, hq⟩), K, hb⟩
        case measure => simp [intOf]
      · have z1 : n0 < 0 := by omega
        rw [decide_eq_false z, Bool.false_and, Bool.false_and] at hq
        subst hq
        go_wp2_with fail
        go_ret
        exact ⟨rfl, hb⟩
    · have st : nuF 2 n0 n1 n2 1 = (noB 2 1 n1 && nuF 2 n0 n1 n2 2) := by simp [nuF]
      have e : noB 2 1 n1 = decide (0 ≤ n1) := by unfold noB; rw [hU]; rfl
      rw [st, e] at hq
      clear st e
      by_cases z : 0 ≤ n1
      · have z1 : ¬ n1 < 0 := by omega
        have z2 : (n1 == -2147483648) = false := by simp; omega
        rw [decide_eq_true z, Bool.true_and] at hq
        go_wp2_with fail
        go_roundw
        case rel => exact ⟨.inr (.inr (.inl ⟨rfl, hq⟩)), K, hb⟩
        case measure => simp [intOf]
      · have z1 : n1 < 0 := by omega
        rw [decide_eq_false z, Bool.false_and, Bool.false_and] at hq
        subst hq
        go_wp2_with fail
        go_ret
        exact ⟨rfl, hb⟩
    · have st : nuF 2 n0 n1 n2 2 = (noB 2 2 n2 && nuF 2 n0 n1 n2 3) := by simp [nuF]
      have e : noB 2 2 n2 = decide (0 ≤ n2) := by unfold noB; rw [hU]; rfl
      rw [st, e] at hq
      clear st e
      by_cases z : 0 ≤ n2
      · have z1 : ¬ n2 < 0 := by omega
        have z2 : (n2 == -2147483648) = false := by simp; omega
        rw [decide_eq_true z, Bool.true_and] at hq
        go_wp2_with fail
        go_roundw
        case rel => exact ⟨.inr (.inr (.inr ⟨rfl, hq⟩)), K, hb⟩
        case measure => simp [intOf]
      · have z1 : n2 < 0 := by omega
        rw [decide_eq_false z, Bool.false_and, Bool.false_and] at hq
        subst hq
        go_wp2_with fail
        go_ret
        exact ⟨rfl, hb⟩
    · have e : nuF 2 n0 n1 n2 3 = true := rfl
      rw [e, Bool.true_and] at hq
      clear e
      subst hq
      cases w6 <;> cases x7 <;> (go_wp2_with fail; go_ret; exact ⟨rfl, hb⟩)
set_option maxRecDepth 100000 in
set_option maxHeartbeats 4000000 in
theorem rd6 (l0 c0 : Int) (nm wi : ByteArray) (so n0 n1 n2 : Int) (xa ga ea da la na : Option Addr) (xe xc gn gc en ec dn dc ln lc nn nc : Nat) (w : World) (s5 w6 x7 g8 : Bool) (e5 : (so == 0) = s5) (e6 : wi.toList.isEmpty = w6) (e7 : ((xe : Int) == 0) = x7) (k0 : ∀ X : World, Below w.heap.size w X → Calls Tryd.prog 20 #[.string nm] X fun e w' => e = .returned (.bool true) ∧ Below X.heap.size X w') (k1 : ∀ X : World, Below w.heap.size w X → Calls Tryd.prog 36 #[.agg #[.slice ga gn gc, .slice ea en ec, .slice da dn dc, .slice la ln lc, .slice na nn nc]] X fun e w' => e = .returned (.bool g8) ∧ Below X.heap.size X w') :
    Calls Tryd.prog 21 #[.agg #[.int .i64 6, .int .i64 l0, .int .i64 c0, .string nm, .string wi, .int .i64 so, .int .i32 n0, .int .i32 n1, .int .i32 n2, .slice xa xe xc, .slice ga gn gc, .slice ea en ec, .slice da dn dc, .slice la ln lc, .slice na nn nc]] w fun e w' => e = .returned (.bool (nuF 6 n0 n1 n2 0 && (s5 && (w6 && (x7 && g8))))) ∧ Below w.heap.size w w' := by
  have hb0 : Below w.heap.size w (w.alloc (.cells #[.int .i64 6, .int .i64 l0, .int .i64 c0, .string nm, .string wi, .int .i64 so, .int .i32 n0, .int .i32 n1, .int .i32 n2, .slice xa xe xc, .slice ga gn gc, .slice ea en ec, .slice da dn dc, .slice la ln lc, .slice na nn nc] 53)) := bel1 _
  have K0 : Has (w.alloc (.cells #[.int .i64 6, .int .i64 l0, .int .i64 c0, .string nm, .string wi, .int .i64 so, .int .i32 n0, .int .i32 n1, .int .i32 n2, .slice xa xe xc, .slice ga gn gc, .slice ea en ec, .slice da dn dc, .slice la ln lc, .slice na nn nc] 53)) w.heap.size #[.int .i64 6, .int .i64 l0, .int .i64 c0, .string nm, .string wi, .int .i64 so, .int .i32 n0, .int .i32 n1, .int .i32 n2, .slice xa xe xc, .slice ga gn gc, .slice ea en ec, .slice da dn dc, .slice la ln lc, .slice na nn nc] := Has.new _ _ _ rfl
  have hU : usN 6 = 0 := rfl
  generalize hA : (nuF 6 n0 n1 n2 0 && (s5 && (w6 && (x7 && g8)))) = A
  go_enter Tryd.func21, Tryd.ntmps21
  go_upto_region 32 with (first | (go_at_call 20; (with_reducible refine Calls.mono (k0 _ (by exact hb0)) ?_); rintro e w1 ⟨rfl, h1⟩; have hb1 := bel_after hb0 hb0.size h1; have K1 := K0.below h1; obtain ⟨_, c1, _⟩ := id K1) | (go_at_call 36; (with_reducible refine Calls.mono (k1 _ (by exact hb1)) ?_); rintro e w2 ⟨rfl, h2⟩; have hb2 := bel_after hb1 hb1.size h2; have K2 := K1.below h2; obtain ⟨_, c2, _⟩ := id K2))
  clear hb0 K0 k0 k1 c1 h1
  go_wp2_with fail
  go_loopw [10] (fun u wr => ((u = .int .i64 0 ∧ (nuF 6 n0 n1 n2 0 && (s5 && (w6 && (x7 && g8)))) = A) ∨ (u = .int .i64 1 ∧ (nuF 6 n0 n1 n2 1 && (s5 && (w6 && (x7 && g8)))) = A) ∨ (u = .int .i64 2 ∧ (nuF 6 n0 n1 n2 2 && (s5 && (w6 && (x7 && g8)))) = A) ∨ (u = .int .i64 3 ∧ (nuF 6 n0 n1 n2 3 && (s5 && (w6 && (x7 && g8)))) = A)) ∧ Hid (Has wr w.heap.size #[.int .i64 6, .int .i64 l0, .int .i64 c0, .string nm, .string wi, .int .i64 so, .int .i32 n0, .int .i32 n1, .int .i32 n2, .slice xa xe xc, .slice ga gn gc, .slice ea en ec, .slice da dn dc, .slice la ln lc, .slice na nn nc]) ∧ Hid (Below w.heap.size w wr)) (fun u _ => 3 - (intOf u).toNat)
  case atStart => exact ⟨.inl ⟨rfl, hA⟩, K2, hb2⟩
  case round =>
    clear hA
    obtain ⟨hk, K', hb'⟩ := hrel
    have K := K'.out
    have hb := hb'.out
    clear K' hb'
    obtain ⟨_, cc, _⟩ := id K
    rcases hk with ⟨rfl, hq⟩ | ⟨rfl, hq⟩ | ⟨rfl, hq⟩ | ⟨rfl, hq⟩
    · have st : nuF 6 n0 n1 n2 0 = (noB 6 0 n0 && nuF 6 n0 n1 n2 1) := by simp [nuF]
      have e : noB 6 0 n0 = decide (n0 = 0) := by unfold noB; rw [hU]; rfl
      rw [st, e] at hq
      clear st e
      by_cases z : n0 = 0
      · subst z
        simp only [decide_true, Bool.true_and] at hq
        go_wp2_with fail
        go_roundw
        case rel => exact ⟨.inr (.inl ⟨rfl, hq⟩), K, hb⟩
        case measure => simp [intOf]
      · have z1 : (n0 != 0) = true := by simpa using z
        have z2 : (n0 == 0) = false := by simpa using z
        rw [decide_eq_false z, Bool.false_and, Bool.false_and] at hq
        subst hq
        go_wp2_with fail
        go_ret
        exact ⟨rfl, hb⟩
    · have st : nuF 6 n0 n1 n2 1 = (noB 6 1 n1 && nuF 6 n0 n1 n2 2) := by simp [nuF]
      have e : noB 6 1 n1 = decide (n1 = 0) := by unfold noB; rw [hU]; rfl
      rw [st, e] at hq
      clear st e
      by_cases z : n1 = 0
      · subst z
        simp only [decide_true, Bool.true_and] at hq
        go_wp2_with fail
        go_roundw
        case rel => exact ⟨.inr (.inr (.inl ⟨rfl, hq⟩)), K, hb⟩
        case measure => simp [intOf]
      · have z1 : (n1 != 0) = true := by simpa using z
        have z2 : (n1 == 0) = false := by simpa using z
        rw [decide_eq_false z, Bool.false_and, Bool.false_and] at hq
        subst hq
        go_wp2_with fail
        go_ret
        exact ⟨rfl, hb⟩
    · have st : nuF 6 n0 n1 n2 2 = (noB 6 2 n2 && nuF 6 n0 n1 n2 3) := by simp [nuF]
      have e : noB 6 2 n2 = decide (n2 = 0) := by unfold noB; rw [hU]; rfl
      rw [st, e] at hq
      clear st e
      by_cases z : n2 = 0
      · subst z
        simp only [decide_true, Bool.true_and] at hq
        go_wp2_with fail
        go_roundw
        case rel => exact ⟨.inr (.inr (.inr ⟨rfl, hq⟩)), K, hb⟩
        case measure => simp [intOf]
      · have z1 : (n2 != 0) = true := by simpa using z
        have z2 : (n2 == 0) = false := by simpa using z
        rw [decide_eq_false z, Bool.false_and, Bool.false_and] at hq
        subst hq
        go_wp2_with fail
        go_ret
        exact ⟨rfl, hb⟩
    · have e : nuF 6 n0 n1 n2 3 = true := rfl
      rw [e, Bool.true_and] at hq
      clear e
      subst hq
      cases s5 <;> cases w6 <;> cases x7 <;> (go_wp2_with fail; go_ret; exact ⟨rfl, hb⟩)
end Go.Proofs.YthjdflcakngpiaaDoor
