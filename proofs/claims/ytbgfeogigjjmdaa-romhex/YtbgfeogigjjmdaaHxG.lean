import Derived.Test.YtbgfeogigjjmdaaHxF
namespace Go.Proofs.Ytbgfeogigjjmdaa
open Go.RowKit
set_option linter.unusedVariables false

set_option maxRecDepth 100000 in
set_option maxHeartbeats 1000000 in
theorem toHex_big (D : List Nat) (a : Option Addr) (cap : Nat) (w : World) (h : 1048576 < D.length) :
    Calls Try.prog 6 #[.slice a D.length cap] w fun e w' => e = .returned (.tuple #[.string ⟨#[]⟩, .int .i64 100]) ∧ w = w' := by
  have h1 : (1048576 : Int) < (D.length : Int) := by omega
  go_enter Try.func6, Try.ntmps6
  go_wp2
  go_ret2
  exact ⟨rfl, rfl⟩
set_option maxRecDepth 100000 in
set_option maxHeartbeats 1000000 in
theorem toHex_ok (D : List Nat) (a : Option Addr) (cap : Nat) (w : World) (hD : Bs w a D) (hc : D.length ≤ cap) (hcm : cap ≤ 9223372036854775807) (h : D.length ≤ 1048576) :
    Calls Try.prog 6 #[.slice a D.length cap] w fun e w' => e = .returned (.tuple #[.string (ba (hexT D)), .int .i64 0]) ∧ Below w.heap.size w w' := by
  have h1 : ¬ (1048576 : Int) < (D.length : Int) := by omega
  have hH := hexOf_any D a cap w hD hc (by omega) hcm
  generalize ba (hexT D) = tx at hH
  go_enter Try.func6, Try.ntmps6
  go_wp2_with (go_at_call 11; (with_reducible refine Calls.mono hH ?_); rintro e w2 ⟨rfl, hE2⟩)
  go_ret2
  exact ⟨rfl, hE2⟩

theorem join16 (a b : Nat) (ha : a ≤ 15) (hb : b ≤ 15) : bits .or .u8 ((a : Int) * 16) (b : Int) = ((16 * a + b : Nat) : Int) := by
  rw [show (a : Int) * 16 = ((16 * a : Nat) : Int) by simp [Int.mul_comm], u8_or_nat _ _ (by omega) (by omega), nat_join 4 (16 * a) b (by omega) (by omega)]

theorem idx (s : ByteArray) (i : Nat) (h : i < s.size) (w : World) : Sem.run Try.prog (Instr.index 9 (.string s) (.int .i64 (i : Int))) w = .ok (.int .u8 (s[i].toNat : Int)) w := by
  have e0 : (0 : Int) ≤ (i : Int) := by omega
  have e2 : (i : Int) < (s.size : Int) := by omega
  simp [go_sem, e0, e2]

set_option maxRecDepth 100000 in
set_option maxHeartbeats 400000 in
theorem pair_any (s : ByteArray) (k : Nat) (w : World) (hs : s.size < 4611686018427387904) (hk : k + 1 < s.size) (h1 : dg s[k].toNat ≤ 15) (h2 : dg s[k + 1].toNat ≤ 15) :
    Calls Try.prog 42 #[.string s, .int .i64 ((k : Int) + 1)] w fun e w' => e = .returned (.int .u8 ((16 * dg s[k].toNat + dg s[k + 1].toNat : Nat) : Int)) ∧ Below w.heap.size w w' := by
  have hD1 := fun w => (digit_any s[k].toNat w (UInt8.toNat_lt _)).mono fun e w' h => (⟨h.1, h.2.symm⟩ : e = _ ∧ w' = w)
  have hD2 := fun w => (digit_any s[k + 1].toNat w (UInt8.toNat_lt _)).mono fun e w' h => (⟨h.1, h.2.symm⟩ : e = _ ∧ w' = w)
  have q0 := join16 _ _ h1 h2
  have e0 : (0 : Int) ≤ (k : Int) := by omega
  have e1 := idx s k (by omega)
  have e2 : ∀ w : World, Sem.run Try.prog (Instr.index 9 (.string s) (.int .i64 ((k : Int) + 1))) w = .ok (.int .u8 (s[k + 1].toNat : Int)) w := idx s (k + 1) hk
  have d1 : dg s[k].toNat < 256 := by omega
  generalize 16 * dg s[k].toNat + dg s[k + 1].toNat = R at q0
  generalize hd1 : dg s[k].toNat = x1 at *
  generalize hd2 : dg s[k + 1].toNat = x2 at *
  generalize hc1 : s[k].toNat = c1 at *
  generalize hc2 : s[k + 1].toNat = c2 at *
  clear hd1 hd2 hc1 hc2
  have q1 : (x1 : Int) * 16 % 256 = (x1 : Int) * 16 := by omega
  go_enter Try.func42, Try.ntmps42
  go_wp2
  go_quiet ((go_at_call 52; first | with_reducible exact Calls.quiet_of_same (hD1 _) | with_reducible exact Calls.quiet_of_same (hD2 _)))
  go_wp2
  go_ret
  exact ⟨rfl, bel_drewN (Below.refl _ _)⟩

theorem or256 (x y : Nat) (hx : x < 256) (hy : y < 256) : bits .or .i64 ((x : Int) * 256) (y : Int) = ((256 * x + y : Nat) : Int) := by
  rw [show (x : Int) * 256 = ((256 * x : Nat) : Int) by simp [Int.mul_comm]]
  show IntKind.i64.wrap ((BitVec.ofInt 64 ((256 * x : Nat) : Int) ||| BitVec.ofInt 64 (y : Int)).toNat : Int) = _
  rw [BitVec.toNat_or, ofInt_u64 _ (by omega), ofInt_u64 _ (by omega), nat_join 8 (256 * x) y (by omega) (by omega), IntKind.wrap_i64]
  omega

set_option maxRecDepth 100000 in
set_option maxHeartbeats 400000 in
theorem number_any (g o cap x y : Nat) (w : World) (hx : x < 256) (hy : y < 256) (c0 : w.cell? ⟨g, o, none⟩ = some (.int .u8 (x : Int))) (c1 : w.cell? ⟨g, o + 1, none⟩ = some (.int .u8 (y : Int))) :
    Calls Try.prog 33 #[.slice (some ⟨g, o, none⟩) 2 cap] w fun e w' => e = .returned (.int .i64 ((256 * x + y : Nat) : Int)) ∧ ∃ n, w' = w.drewN n := by
  have q0 := or256 x y hx hy
  generalize 256 * x + y = R at q0
  go_enter Try.func33, Try.ntmps33
  go_wp2
  go_quiet (fail)
  go_wp2
  go_ret
  exact ⟨rfl, _, rfl⟩
end Go.Proofs.Ytbgfeogigjjmdaa
