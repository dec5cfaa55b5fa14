import Derived.Test.YtjohnhaahpggkaaDoorPcsB
namespace Go.Proofs.YtjohnhaahpggkaaDoor
open Go.RowKit
set_option linter.unusedVariables false

/-- A name that the statements write: no keyword. -/
def NameL (l : List UInt8) : Prop := l.length ≤ 32 ∧ l.all isR = true ∧ ∃ r, l = 81 :: r
theorem decL_all (n : Nat) : (decL n).all isD = true := by
  induction n using Nat.strongRecOn with
  | ind n ih =>
    have hd : ∀ d, d < 10 → isD (dg d) = true := by decide
    by_cases h : n < 10
    · rw [decL_small h]; simp [hd n h]
    · rw [decL_big h, List.all_append, ih (n / 10) (by omega)]; simp [hd (n % 10) (by omega)]
theorem all_R_of_D {l : List UInt8} (h : l.all isD = true) : l.all isR = true := by
  rw [List.all_eq_true] at h ⊢
  exact fun x hx => isR_of_D (h x hx)
theorem decL_short (n k : Nat) (h : n < 10 ^ (k + 1)) : (decL n).length ≤ k + 1 := by
  induction k generalizing n with
  | zero => rw [decL_small (by simpa using h)]; simp
  | succ k ih =>
    by_cases h10 : n < 10
    · rw [decL_small h10]; simp
    · rw [decL_big h10, List.length_append]
      have := ih (n / 10) (by rw [Nat.pow_succ] at h; omega)
      simp; omega

theorem ext_take (l : List UInt8) (k : Nat) : (bs l).extract 0 k = bs (l.take k) := by
  have e := Lib.extract_data (bs l) 0 k
  have h1 : ((bs l).extract 0 k).data.toList = l.take k := by rw [e]; unfold bs; simp
  have h2 : ((bs l).extract 0 k).data = (l.take k).toArray := by rw [← h1]
  cases hx : (bs l).extract 0 k with
  | mk d => rw [hx] at h2; exact congrArg ByteArray.mk h2

set_option maxRecDepth 100000 in
set_option maxHeartbeats 2000000 in
theorem named_any (n : Nat) (w : World) (hn : n < 1099511627776) :
    Calls Tryd.prog 51 #[.int .i64 n] w fun e w' => (∃ l, e = .returned (.string (bs l)) ∧ NameL l) ∧ Below w.heap.size w w' := by
  have hn0 : (0 : Int) ≤ (n : Int) := by omega
  have hq : (n : Int).tdiv 1000 = (n : Int) / 1000 := Int.tdiv_eq_ediv_of_nonneg hn0
  have hq2 : (n : Int).tdiv 30000 = (n : Int) / 30000 := Int.tdiv_eq_ediv_of_nonneg hn0
  have hB1 := fun W => below_any (n : Int) 1000 W (by omega) (by omega) (by omega) (by omega)
  have hB2 := fun W => below_any ((n : Int) / 1000) 27 W (by omega) (by omega) (by omega) (by omega)
  have hB3 : ∀ (m : Int) W, 0 < m → m ≤ 1000 → Calls Tryd.prog 34 #[.int .i64 ((n : Int) / 30000), .int .i64 m] W fun e w' => e = .returned (.int .i64 ((n : Int) / 30000 % m)) ∧ w' = W := fun m W h1 h2 => below_any ((n : Int) / 30000) m W h1 (by omega) (by omega) (by omega)
  obtain ⟨m, hm, hm2⟩ : ∃ m : Nat, (n : Int) % 1000 = m ∧ m < 1000 := ⟨n % 1000, by omega, by omega⟩
  obtain ⟨k, hk, hk2⟩ : ∃ k : Nat, (n : Int) / 1000 % 27 = k ∧ k < 27 := ⟨n / 1000 % 27, by omega, by omega⟩
  rw [hm] at hB1
  rw [hk] at hB2
  clear hm hk
  have hD := fun W => decimal_any m W (by omega)
  have hlen := decL_short m 2 (by omega)
  have hall := all_R_of_D (decL_all m)
  have hsz := bs_sz (decL m)
  generalize hdl : decL m = D at *
  have hs1 : ¬ 9223372036854775807 < 1 + (bs D).size := by omega
  have hs2 : ¬ 9223372036854775807 < 1 + (bs D).size + 2 := by omega
  have hcat : (⟨#[81]⟩ : ByteArray) ++ bs D ++ ⟨#[95, 122]⟩ = bs (81 :: D ++ [95, 122]) := by
    rw [show (⟨#[81]⟩ : ByteArray) = bs [81] from rfl, show (⟨#[95, 122]⟩ : ByteArray) = bs [95, 122] from rfl, bs_app, bs_app]; rfl
  go_enter Tryd.func51, Tryd.ntmps51
  go_wp2_with (first
    | (go_at_call 34; (with_reducible refine (hB1 _).mono ?_); rintro e w9 ⟨rfl, hw9⟩; have hw9' := hw9.symm; subst hw9')
    | (go_at_call 34; (with_reducible refine (hB2 _).mono ?_); rintro e w9 ⟨rfl, hw9⟩; have hw9' := hw9.symm; subst hw9')
    | (go_at_call 59; (with_reducible refine (hD _).mono ?_); rintro e w1 ⟨rfl, hb1⟩))
  go_loopw [3, 4] (fun t3 t4 wr => ∃ (kk : Nat) (S : List UInt8), kk ≤ k ∧ t4 = .int .i64 (kk : Int) ∧ t3 = .string (bs S) ∧ (∃ r, S = 81 :: r) ∧ S.all isR = true ∧ S.length + kk ≤ 32 ∧ wr = w1) (fun _ t _ => (intOf t).toNat)
  case atStart => exact ⟨k, 81 :: (D ++ [95, 122]), by omega, rfl, rfl, ⟨_, rfl⟩, by simp only [List.all_cons, List.all_append, hall]; decide, by simp; omega, rfl⟩
  case round =>
    obtain ⟨kk, S, hkk, rfl, rfl, ⟨r, hr0⟩, hSa, hSl, rfl⟩ := hrel
    have hSz := bs_sz S
    have hSp : 1 ≤ S.length := by rw [hr0]; simp
    have hr : Hid (S = 81 :: r) := hr0
    clear hr0
    by_cases h0 : kk = 0
    · subst h0
      have hm1 : (0 : Int) < (S.length : Int) := by omega
      obtain ⟨t, ht1, ht2⟩ : ∃ t : Nat, (n : Int) / 30000 % (S.length : Int) = t ∧ t < S.length := ⟨((n : Int) / 30000 % (S.length : Int)).toNat, by
        have := Int.emod_nonneg ((n : Int) / 30000) (show (S.length : Int) ≠ 0 by omega)
        omega, by
        have h1 := Int.emod_lt_of_pos ((n : Int) / 30000) hm1
        have := Int.emod_nonneg ((n : Int) / 30000) (show (S.length : Int) ≠ 0 by omega)
        omega⟩
      have hB4 := fun W => hB3 (S.length : Int) W hm1 (by omega)
      rw [ht1] at hB4
      have hex : (bs S).extract 0 (1 + t) = bs (S.take (1 + t)) := ext_take S (1 + t)
      have hup : (1 : Int) + (t : Int) ≤ ((bs S).size : Int) := by omega
      have hN : NameL (S.take (1 + t)) := by
        refine ⟨by simp; omega, ?_, ?_⟩
        · rw [List.all_eq_true] at hSa ⊢
          exact fun x hx => hSa x (List.mem_of_mem_take hx)
        · rw [hr.out, Nat.add_comm]; exact ⟨r.take t, rfl⟩
      clear hB1 hB2 hB3 hD ht1
      generalize hSS : bs S = SS at *
      go_wp2_with (go_at_call 34; (with_reducible refine (hB4 _).mono ?_); rintro e w9 ⟨rfl, hw9⟩; have hw9' := hw9.symm; subst hw9')
      go_ret
      exact ⟨⟨S.take (1 + t), by rw [hex]; rfl, hN⟩, hb1⟩
    · have hk0 : (0 : Int) < (kk : Int) := by omega
      have hs3 : ¬ 9223372036854775807 < (bs S).size + 1 := by omega
      have hc3 : bs S ++ ⟨#[121]⟩ = bs (S ++ [121]) := by rw [show (⟨#[121]⟩ : ByteArray) = bs [121] from rfl, bs_app]
      clear hB1 hB2 hB3 hD
      go_wp2
      go_roundw
      case rel => exact ⟨kk - 1, S ++ [121], by omega, by go_num, rfl, ⟨r ++ [121], by rw [hr.out]; rfl⟩, by rw [List.all_append, hSa]; rfl, by simp; omega, by first | rfl | trivial⟩
      case measure => simp [intOf]; omega

/-- Would the two, one right behind the other, not be the two that they are? -/
def meldF (a b : List UInt8) : Bool := match a.getLast?, b.head? with
  | some x, some y => (decide (y = 61) && (decide (a = [61]) || decide (a = [60]) || decide (a = [62]))) || (isR x && isR y)
  | _, _ => false
theorem bs_inj {a b : List UInt8} : bs a = bs b ↔ a = b := by
  constructor
  · intro h; have := congrArg (fun x : ByteArray => x.data.toList) h; simpa [bs] using this
  · rintro rfl; rfl

set_option maxRecDepth 100000 in
set_option maxHeartbeats 4000000 in
theorem meld_any (a b : List UInt8) (w : World) (ha : a.length ≤ 1000000) (hb : b.length ≤ 1000000) :
    Calls Tryd.prog 32 #[.string (bs a), .string (bs b)] w fun e w' => e = .returned (.bool (meldF a b)) ∧ ∃ n, w' = w.drewN n := by
  have em : ∀ l : List UInt8, (bs l).toList.isEmpty = l.isEmpty := fun l => by
    rw [bs_toList]
  cases a with
  | nil =>
    have h1 := em []
    go_enter Tryd.func32, Tryd.ntmps32
    go_wp2
    go_ret
    exact ⟨rfl, 0, rfl⟩
  | cons a0 a' =>
    cases b with
    | nil =>
      have h1 := em (a0 :: a')
      have h2 := em []
      have hr : meldF (a0 :: a') [] = false := by unfold meldF; cases h : (a0 :: a').getLast? <;> rfl
      rw [hr]
      simp only [List.isEmpty_cons, List.isEmpty_nil] at h1 h2
      go_enter Tryd.func32, Tryd.ntmps32
      go_wp2
      go_ret
      exact ⟨rfl, 0, rfl⟩
    | cons y b' =>
      have hA1 : 0 < (a0 :: a').length := by simp
      generalize ha' : a0 :: a' = A at *
      have hz := bs_sz A
      have hzB := bs_sz (y :: b')
      obtain ⟨x, hx⟩ : ∃ x, x = A[A.length - 1] := ⟨_, rfl⟩
      have hm : meldF A (y :: b') = ((decide (y = 61) && (decide (A = [61]) || decide (A = [60]) || decide (A = [62]))) || (isR x && isR y)) := by
        unfold meldF
        rw [List.getLast?_eq_getElem?, List.getElem?_eq_getElem (by omega), ← hx]; rfl
      rw [hm]
      have hAx : ∀ h, (bs A)[A.length - 1]'h = x := fun h => by rw [hx]; rfl
      have hB0 : ∀ h, (bs (y :: b'))[0]'h = y := fun h => rfl
      have tA := bs_toList A
      have tB := bs_toList (y :: b')
      have hA0 : (A == []) = false := by rw [← ha']; rfl
      have hIe : A.isEmpty = false := by rw [← ha']; rfl
      have hBl : 0 < (y :: b').length := by simp
      have hR := fun c W => run_any c W
      have d1 : decide (A = [61]) = (A == [61]) := by rw [Bool.eq_iff_iff]; simp
      have d2 : decide (A = [60]) = (A == [60]) := by rw [Bool.eq_iff_iff]; simp
      have d3 : decide (A = [62]) = (A == [62]) := by rw [Bool.eq_iff_iff]; simp
      have hy : decide (y = 61) = ((y.toNat : Int) == 61) := by
        rw [Bool.eq_iff_iff]; simp only [decide_eq_true_eq, beq_iff_eq]
        constructor
        · rintro rfl; rfl
        · intro h; apply UInt8.toNat_inj.1; show y.toNat = 61; omega
      rw [d1, d2, d3, hy]
      have hIB : (y :: b').isEmpty = false := rfl
      clear hx hm em ha' d1 d2 d3 hy
      generalize hBB : y :: b' = B at *
      clear hBB
      cases c1 : ((y.toNat : Int) == 61) <;> cases c2 : (A == [61]) <;> cases c3 : (A == [60]) <;> cases c4 : (A == [62])
      all_goals
        cases r1 : isR x <;> cases r2 : isR y
      all_goals
        go_enter Tryd.func32, Tryd.ntmps32
        go_wp2_with (go_at_call 53; (with_reducible refine (hR _ _).mono ?_); rintro e w9 ⟨rfl, hw9⟩; have hw9' := hw9.symm; subst hw9')
        go_ret
        exact ⟨rfl, 0, rfl⟩
end Go.Proofs.YtjohnhaahpggkaaDoor
