import Derived.Test.YtjohnhaahpggkabDoorPcsB
namespace Go.Proofs.YtjohnhaahpggkabDoor
open Go.RowKit
set_option linter.unusedVariables false

/-- A name that the statements write: no keyword. -/
def NameL (l : List UInt8) : Prop := l.length ≤ 32 ∧ l.all isR = true ∧ ∃ r, l = 81 :: r
theorem decL_all (n : Nat) : (decL n).all isD = true := by
  induction n using Nat.strongRecOn with
  | ind n ih =>
    have hd : ∀ d, d < 10 → isD (dg d) = true := by decide
    by_cases h : n < 10
    · rw [decL_small h]; simp [hd n h]
    · rw [decL_big h, List.all_append, ih (n / 10) (by omega)]; simp [hd (n % 10) (by omega)]
theorem all_R_of_D {l : List UInt8} (h : l.all isD = true) : l.all isR = true := by
  rw [List.all_eq_true] at h ⊢
  exact fun x hx => isR_of_D (h x hx)
theorem decL_short (n k : Nat) (h : n < 10 ^ (k + 1)) : (decL n).length ≤ k + 1 := by
  induction k generalizing n with
  | zero => rw [decL_small (by simpa using h)]; simp
  | succ k ih =>
    by_cases h10 : n < 10
    · rw [decL_small h10]; simp
    · rw [decL_big h10, List.length_append]
      have := ih (n / 10) (by rw [Nat.pow_succ] at h; omega)
      simp; omega

theorem ext_take (l : List UInt8) (k : Nat) : (bs l).extract 0 k = bs (l.take k) := by
  have e := Lib.extract_data (bs l) 0 k
  have h1 : ((bs l).extract 0 k).data.toList = l.take k := by rw [e]; unfold bs; simp
  have h2 : ((bs l).extract 0 k).data = (l.take k).toArray := by rw [← h1]
  cases hx : (bs l).extract 0 k with
  | mk d => rw [hx] at h2; exact congrArg ByteArray.mk h2

set_option maxRecDepth 100000 in
set_option maxHeartbeats 2000000 in
theorem named_any (n : Nat) (w : World) (hn : n < 1099511627776) :
    Calls Tryd.prog 12 #[.int .i64 n] w fun e w' => (∃ l, e = .returned (.string (bs l)) ∧ NameL l) ∧ Below w.heap.size w w' := by
  have hn0 : (0 : Int) ≤ (n : Int) := by omega
  have hq : (n : Int).tdiv 1000 = (n : Int) / 1000 := Int.tdiv_eq_ediv_of_nonneg hn0
  have hq2 : (n : Int).tdiv 30000 = (n : Int) / 30000 := Int.tdiv_eq_ediv_of_nonneg hn0
  have hB1 := fun W => below_any (n : Int) 1000 W (by omega) (by omega) (by omega) (by omega)
  have hB2 := fun W => below_any ((n : Int) / 1000) 27 W (by omega) (by omega) (by omega) (by omega)
  have hB3 : ∀ (m : Int) W, 0 < m → m ≤ 1000 → Calls Tryd.prog 11 #[.int .i64 ((n : Int) / 30000), .int .i64 m] W fun e w' => e = .returned (.int .i64 ((n : Int) / 30000 % m)) ∧ w' = W := fun m W h1 h2 => below_any ((n : Int) / 30000) m W h1 (by omega) (by omega) (by omega)
  obtain ⟨m, hm, hm2⟩ : ∃ m : Nat, (n : Int) % 1000 = m ∧ m < 1000 := ⟨n % 1000, by omega, by omega⟩
  obtain ⟨k, hk, hk2⟩ : ∃ k : Nat, (n : Int) / 1000 % 27 = k ∧ k < 27 := ⟨n / 1000 % 27, by omega, by omega⟩
  rw [hm] at hB1
  rw [hk] at hB2
  clear hm hk
  have hD := fun W => decimal_any m W (by omega)
  have hlen := decL_short m 2 (by omega)
  have hall := all_R_of_D (decL_all m)
  have hsz := bs_szp (decL m)
  generalize hdl : decL m = D at *
  have hs1 : ¬ 9223372036854775807 < 1 + (bs D).size := by omega
  have hs2 : ¬ 9223372036854775807 < 1 + (bs D).size + 2 := by omega
  have hcat : (⟨#[81]⟩ : ByteArray) ++ bs D ++ ⟨#[95, 122]⟩ = bs (81 :: D ++ [95, 122]) := by
    rw [show (⟨#[81]⟩ : ByteArray) = bs [81] from rfl, show (⟨#[95, 122]⟩ : ByteArray) = bs [95, 122] from rfl, bs_app, bs_app]; rfl
  go_enter Tryd.func12, Tryd.ntmps12
  go_wp2_with (first
    | (go_at_call 11; (with_reducible refine (hB1 _).mono ?_); rintro e w9 ⟨rfl, hw9⟩; have hw9' := hw9.symm; subst hw9')
    | (go_at_call 11; (with_reducible refine (hB2 _).mono ?_); rintro e w9 ⟨rfl, hw9⟩; have hw9' := hw9.symm; subst hw9')
    | (go_at_call 22; (with_reducible refine (hD _).mono ?_); rintro e w1 ⟨rfl, hb1⟩))
  go_loopw [3, 4] (fun t3 t4 wr => ∃ (kk : Nat) (S : List UInt8), kk ≤ k ∧ t4 = .int .i64 (kk : Int) ∧ t3 = .string (bs S) ∧ (∃ r, S = 81 :: r) ∧ S.all isR = true ∧ S.length + kk ≤ 32 ∧ wr = w1) (fun _ t _ => (intOf t).toNat)
  case atStart => exact ⟨k, 81 :: (D ++ [95, 122]), by omega, rfl, rfl, ⟨_, rfl⟩, by simp only [List.all_cons, List.all_append, hall]; decide, by simp; omega, rfl⟩
  case round =>
    obtain ⟨kk, S, hkk, rfl, rfl, ⟨r, hr0⟩, hSa, hSl, rfl⟩ := hrel
    have hSz := bs_szp S
    have hSp : 1 ≤ S.length := by rw [hr0]; simp
    have hr : Hid (S = 81 :: r) := hr0
    clear hr0
    by_cases h0 : kk = 0
    · subst h0
      have hm1 : (0 : Int) < (S.length : Int) := by omega
      obtain ⟨t, ht1, ht2⟩ : ∃ t : Nat, (n : Int) / 30000 % (S.length : Int) = t ∧ t < S.length := ⟨((n : Int) / 30000 % (S.length : Int)).toNat, by
        have := Int.emod_nonneg ((n : Int) / 30000) (show (S.length : Int) ≠ 0 by omega)
        omega, by
        have h1 := Int.emod_lt_of_pos ((n : Int) / 30000) hm1
        have := Int.emod_nonneg ((n : Int) / 30000) (show (S.length : Int) ≠ 0 by omega)
        omega⟩
      have hB4 := fun W => hB3 (S.length : Int) W hm1 (by omega)
      rw [ht1] at hB4
      have hex : (bs S).extract 0 (1 + t) = bs (S.take (1 + t)) := ext_take S (1 + t)
      have hup : (1 : Int) + (t : Int) ≤ ((bs S).size : Int) := by omega
      have hN : NameL (S.take (1 + t)) := by
        refine ⟨by simp; omega, ?_, ?_⟩
        · rw [List.all_eq_true] at hSa ⊢
          exact fun x hx => hSa x (List.mem_of_mem_take hx)
        · rw [hr.out, Nat.add_comm]; exact ⟨r.take t, rfl⟩
      clear hB1 hB2 hB3 hD ht1
      generalize hSS : bs S = SS at *
      go_wp2_with (go_at_call 11; (with_reducible refine (hB4 _).mono ?_); rintro e w9 ⟨rfl, hw9⟩; have hw9' := hw9.symm; subst hw9')
      go_ret
      exact ⟨⟨S.take (1 + t), by rw [hex]; rfl, hN⟩, hb1⟩
    · have hk0 : (0 : Int) < (kk : Int) := by omega
      have hs3 : ¬ 9223372036854775807 < (bs S).size + 1 := by omega
      have hc3 : bs S ++ ⟨#[121]⟩ = bs (S ++ [121]) := by rw [show (⟨#[121]⟩ : ByteArray) = bs [121] from rfl, bs_app]
      clear hB1 hB2 hB3 hD
      go_wp2
      go_roundw
      case rel => exact ⟨kk - 1, S ++ [121], by omega, by go_num, rfl, ⟨r ++ [121], by rw [hr.out]; rfl⟩, by rw [List.all_append, hSa]; rfl, by simp; omega, by first | rfl | trivial⟩
      case measure => simp [intOf]; omega

/-- Would the two, one right behind the other, not be the two that they are? -/
def meldF (a b : List UInt8) : Bool := match a.getLast?, b.head? with
  | some x, some y => (decide (y = 61) && (decide (a = [61]) || decide (a = [60]) || decide (a = [62]))) || (isR x && isR y)
  | _, _ => false
theorem bs_inj {a b : List UInt8} : bs a = bs b ↔ a = b := by
  constructor
  · intro h; have := congrArg (fun x : ByteArray => x.data.toList) h; simpa [bs] using this
  · rintro rfl; rfl

end Go.Proofs.YtjohnhaahpggkabDoor
