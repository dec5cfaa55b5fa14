import Derived.Test.YtjohnhaahpggkabDoorStrB
import Derived.Test.YtjohnhaahpggkabDoorJnB
import Derived.Laws.IdiomStrings
namespace Go.Proofs.YtjohnhaahpggkabDoor
open Go.RowKit
set_option linter.unusedVariables false

/-! The small functions of the statements that write a text of pieces. -/
theorem tm_cases (n m : Int) (hm : 0 < m) : (n.tmod m = n % m ∨ n.tmod m = n % m - m) ∧ 0 ≤ n % m ∧ n % m < m ∧ (n.tmod m = n % m ↔ 0 ≤ n.tmod m) := by
  have h2 := Int.emod_nonneg n (show m ≠ 0 by omega)
  have h3 := Int.emod_lt_of_pos n hm
  have h := Int.tmod_eq_emod (a := n) (b := m)
  have hb : (m.natAbs : Int) = m := by omega
  split at h
  · refine ⟨.inl (by simpa using h), h2, h3, ?_⟩
    simp at h; omega
  · rw [hb] at h
    exact ⟨.inr h, h2, h3, by omega⟩

set_option maxHeartbeats 1000000 in
theorem below_any (n m : Int) (w : World) (hm : 0 < m) (hm2 : m ≤ 4611686018427387904) (hn1 : -9223372036854775808 ≤ n) (hn2 : n < 9223372036854775808) :
    Calls Tryd.prog 11 #[.int .i64 n, .int .i64 m] w fun e w' => e = .returned (.int .i64 (n % m)) ∧ w' = w := by
  have hm0 : ¬ m = 0 := by omega
  have hmz : (m == 0) = false := by simp; omega
  obtain ⟨hc, h1, h2, h3⟩ := tm_cases n m hm
  by_cases h : n.tmod m < 0
  · have e : n.tmod m + m = n % m := by omega
    clear hc h3
    go_enter Tryd.func11, Tryd.ntmps11
    go_wp2
    go_ret
    exact ⟨rfl, rfl⟩
  · have e : n.tmod m = n % m := by omega
    clear hc h3
    go_enter Tryd.func11, Tryd.ntmps11
    go_wp2
    go_ret
    exact ⟨rfl, rfl⟩

/-- A digit's sign. -/
def dg (d : Nat) : UInt8 := UInt8.ofNat (48 + d)
/-- A number's decimal digits. -/
def decL (n : Nat) : List UInt8 := if h : n < 10 then [dg n] else decL (n / 10) ++ [dg (n % 10)]
termination_by n
decreasing_by omega
theorem decL_small {n : Nat} (h : n < 10) : decL n = [dg n] := by rw [decL, dif_pos h]
theorem decL_big {n : Nat} (h : ¬ n < 10) : decL n = decL (n / 10) ++ [dg (n % 10)] := by rw [decL, dif_neg h]
theorem decL_len (n : Nat) : 1 ≤ (decL n).length ∧ (decL n).length ≤ n + 1 := by
  induction n using Nat.strongRecOn with
  | ind n ih =>
    by_cases h : n < 10
    · rw [decL_small h]; simp
    · rw [decL_big h]
      have := ih (n / 10) (by omega)
      simp; omega
theorem dg_toNat (d : Nat) (h : d < 10) : (dg d).toNat = 48 + d := by unfold dg; simp [UInt8.toNat_ofNat']; omega

theorem bs_szp (l : List UInt8) : (bs l).size = l.length := by unfold bs; simp [ByteArray.size]
theorem conv_at (w : World) (x : Int) (h0 : 0 ≤ x) (h1 : x < 256) : (convert 48 9 (.slice (some ⟨w.heap.size, 0, none⟩) 1 1)).run Tryd.prog (w.alloc (.cells #[.int .u8 x] 5)) = .ok (.string ⟨#[UInt8.ofNat x.toNat]⟩) (w.alloc (.cells #[.int .u8 x] 5)) := by
  have := run_convert_bytes_back (P := Tryd.prog) (w.alloc (.cells #[.int .u8 x] 5)) 48 9 5 ⟨w.heap.size, 0, none⟩ 1 [UInt8.ofNat x.toNat] und48 und5 und9 (by
    intro j hj
    obtain rfl : j = 0 := by simpa using hj
    have := (Has.new w #[.int .u8 x] 5 rfl).2.1 0
    have e : ((⟨w.heap.size, 0, none⟩ : Addr).add 0) = ⟨w.heap.size, 0, none⟩ := rfl
    rw [e, this]
    have hx : ((UInt8.ofNat x.toNat).toNat : Int) = x := by simp [UInt8.toNat_ofNat']; omega
    simp; omega)
  exact this
theorem dg_of (m : Nat) : UInt8.ofNat (48 + (m : Int) % 10).toNat = dg (m % 10) := by
  unfold dg; congr 1
attribute [local go_sem] conv_at

set_option maxRecDepth 100000 in
set_option maxHeartbeats 2000000 in
theorem decimal_any (n : Nat) (w : World) (hn : n < 4611686018427387904) :
    Calls Tryd.prog 22 #[.int .i64 n] w fun e w' => e = .returned (.string (bs (decL n))) ∧ Below w.heap.size w w' := by
  have hn0 : (0 : Int) ≤ (n : Int) := by omega
  have ha : (0 : Int) ≤ 48 + (n : Int) % 10 := by omega
  have hb : 48 + (n : Int) % 10 < 256 := by omega
  have hd := dg_of n
  go_enter Tryd.func22, Tryd.ntmps22
  go_wp2
  go_loopw [0, 3] (fun t0 t3 wr => ∃ (m : Nat) (S : List UInt8), m ≤ n ∧ t0 = .int .i64 (m : Int) ∧ t3 = .string (bs S) ∧ S.length ≤ n + 1 ∧ ((m = 0 ∧ S = decL n) ∨ (0 < m ∧ decL m ++ S = decL n)) ∧ Below w.heap.size w wr) (fun t _ _ => (intOf t).toNat)
  case atStart =>
    refine ⟨n / 10, [dg (n % 10)], by omega, by go_num, rfl, by simp, ?_, (Below.refl _ _).alloc (Nat.le_refl _) _⟩
    by_cases h : n < 10
    · left; exact ⟨by omega, by rw [decL_small h, Nat.mod_eq_of_lt h]⟩
    · right; exact ⟨by omega, (decL_big h).symm⟩
  case round =>
    obtain ⟨m, S, hm, rfl, rfl, hl, hS, hb9⟩ := hrel
    by_cases h0 : m = 0
    · subst h0
      obtain ⟨_, hS⟩ := hS.resolve_right (by omega)
      subst hS
      go_wp2
      go_ret
      exact ⟨rfl, hb9⟩
    · obtain ⟨_, hS⟩ := hS.resolve_left (by omega)
      have hm0 : (0 : Int) < (m : Int) := by omega
      have ha' : (0 : Int) ≤ 48 + (m : Int) % 10 := by omega
      have hb' : 48 + (m : Int) % 10 < 256 := by omega
      have hd' := dg_of m
      have hbz := hb9.size
      have hcat : (⟨#[dg (m % 10)]⟩ : ByteArray) ++ bs S = bs (dg (m % 10) :: S) := by
        unfold bs; rfl
      have hsz : ¬ 9223372036854775807 < 1 + (bs S).size := by rw [bs_szp]; omega
      go_wp2
      go_roundw
      case rel =>
        have hlS : (decL m).length + S.length ≤ n + 1 := by
          have h1 := congrArg List.length hS
          have h2 := (decL_len n).2
          rw [List.length_append] at h1; omega
        have hm1 := (decL_len m).1
        refine ⟨m / 10, dg (m % 10) :: S, by omega, by go_num, rfl, by simp; omega, ?_, hb9.alloc (by omega) _⟩
        by_cases h : m < 10
        · left; exact ⟨by omega, by rw [← hS, decL_small h, Nat.mod_eq_of_lt h]; rfl⟩
        · right; exact ⟨by omega, by rw [← hS, decL_big h, List.append_assoc]; rfl⟩
      case measure => simp [intOf]; omega
end Go.Proofs.YtjohnhaahpggkabDoor
