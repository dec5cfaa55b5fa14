import Derived.Test.YthflpnahifpdnaaSpC
import Derived.Laws.Bits64
import Derived.Laws.Bits64b
namespace Go.Proofs.Ythflpnahifpdnaa
open Go.RowKit
set_option linter.unusedVariables false


def litM (f : Nat → Int) : Nat → Nat
  | 0 => 0
  | k + 1 => if f k = 0 then litM f k else litM f k ||| 2 ^ k
theorem litM_bit (f : Nat → Int) : ∀ (k j : Nat), (litM f k).testBit j = (decide (j < k) && decide (f j ≠ 0))
  | 0, j => by simp [litM]
  | k + 1, j => by
    unfold litM
    by_cases h : f k = 0
    · rw [if_pos h, litM_bit f k j]
      by_cases e : j = k
      · subst e; simp [h]
      · have : decide (j < k + 1) = decide (j < k) := by apply decide_eq_decide.2; omega
        rw [this]
    · rw [if_neg h, Nat.testBit_or, litM_bit f k j, Nat.testBit_two_pow]
      by_cases e : k = j
      · subst e; simp [h]
      · have : decide (j < k + 1) = decide (j < k) := by apply decide_eq_decide.2; omega
        rw [this]; simp [e]
theorem or_lt {a b : Nat} (ha : a < 18446744073709551616) (hb : b < 18446744073709551616) : a ||| b < 18446744073709551616 := Nat.or_lt_two_pow (n := 64) ha hb
theorem pow_lt {k : Nat} (h : k < 64) : 2 ^ k < 18446744073709551616 := Nat.lt_of_lt_of_le (Nat.pow_lt_pow_right (by decide) h) (by decide)
theorem or_pow {m k : Nat} (hm : m < 18446744073709551616) (hk : k < 64) : bits .or .u64 (m : Int) (IntKind.u64.wrap ((2 : Int) ^ k)) = ((m ||| 2 ^ k : Nat) : Int) := by
  have e : ((2 : Int) ^ k) = ((2 ^ k : Nat) : Int) := by simp
  have hp := pow_lt hk
  have e2 : IntKind.u64.wrap ((2 ^ k : Nat) : Int) = ((2 ^ k : Nat) : Int) := by
    rw [IntKind.wrap_u64]
    generalize 2 ^ k = z at *
    omega
  rw [e, e2]; exact bits_or_u64_nat m (2 ^ k) hm (pow_lt hk)
theorem litM_lt (f : Nat → Int) : ∀ (k : Nat), k ≤ 64 → litM f k < 18446744073709551616
  | 0, _ => by simp [litM]
  | k + 1, h => by
    unfold litM
    have := litM_lt f k (by omega)
    split
    · exact this
    · exact or_lt this (pow_lt (by omega))
theorem own_cell {w : World} {base e n r c : Nat} {f : Nat → Int} (h : w.ownsRow base e 1 (.slice (some ⟨r, 0, none⟩) n c) n (valR n f)) {k : Nat} (hk : k < n) : w.cell? ⟨r, k, none⟩ = some (.int .i64 (f k)) := by
  rw [h.cellAt k (by omega)]; exact valR_get hk
set_option maxRecDepth 100000 in
set_option maxHeartbeats 4000000 in
theorem lit_any (w : World) (b : Nat) (G : List Gp) (C : List Cf) (A I W : List Int) (M : Nat) (vg vc v1 v2 v3 vn : Value) (hs : Sp w b G C A I W M vg vc v1 v2 v3 vn) (ok : SpOk G C A I W M) (B r : Nat) (f : Nat → Int) (hvn : vn = .slice (some ⟨r, 0, none⟩) G.length G.length) (hown : w.ownsRow B 3 1 (.slice (some ⟨r, 0, none⟩) G.length G.length) G.length (valR G.length f)) :
    Calls Try.prog 62 #[.pointer (some ⟨b, 0, none⟩)] w fun e w' => e = .returned (.int .u64 (litM f G.length : Nat)) ∧ w' = w := by
  subst hvn
  have h64 := grid_len ok.grid
  obtain ⟨_, b1, _⟩ := id hs.bx
  have hc := fun (k : Nat) (hk : k < G.length) => own_cell hown hk
  clear hs ok hown
  go_enter Try.func62, Try.ntmps62
  go_wp2
  go_loopw [3, 11] (fun m t wr => ∃ k : Nat, k ≤ G.length ∧ t = .int .i64 (k : Int) ∧ m = .int .u64 ((litM f k : Nat) : Int) ∧ wr = w) (fun _ t _ => G.length - (intOf t).toNat)
  case atStart => exact ⟨0, by omega, rfl, rfl, rfl⟩
  case round =>
    obtain ⟨k, hkl, rfl, rfl, rfl⟩ := hrel
    by_cases hlt : k < G.length
    · have p0 := hc k hlt
      have t1 : (k : Int) < (G.length : Int) := by omega
      have t0 : (0 : Int) ≤ (k : Int) := by omega
      have t2 : k + 1 ≤ G.length := hlt
      have st : Hid (litM f (k + 1) = if f k = 0 then litM f k else litM f k ||| 2 ^ k) := rfl
      have hL := litM_lt f k (by omega)
      have s1 : min k 64 = k := by omega
      have s3 : Hid (_ = _) := or_pow (m := litM f k) (k := k) hL (by omega)
      clear hc
      generalize f k = y at *
      generalize litM f k = m at *
      by_cases d : y = 0
      · subst d
        go_wp2
        go_roundw
        case rel => exact ⟨k + 1, by omega, by go_num, by rw [st.out]; simp, by first | rfl | trivial⟩
        case measure => simp [intOf]; omega
      · have D : (y != 0) = true := by simpa using d
        go_wp2
        go_roundw
        case rel => exact ⟨k + 1, by omega, by go_num, by rw [st.out, if_neg d]; exact congrArg (Value.int .u64) s3.out, by first | rfl | trivial⟩
        case measure => simp [intOf]; omega
    · have t1 : ¬ (k : Int) < (G.length : Int) := by omega
      obtain rfl : k = G.length := by omega
      clear hc
      go_wp2
      go_ret
      exact ⟨rfl, rfl⟩
end Go.Proofs.Ythflpnahifpdnaa
