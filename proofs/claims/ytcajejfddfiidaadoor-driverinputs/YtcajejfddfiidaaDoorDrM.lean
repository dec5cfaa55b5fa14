import Derived.Test.YtcajejfddfiidaaDoorDrL
import Derived.Test.YtcajejfddfiidaaDoorShelf
namespace Go.Proofs.YtcajejfddfiidaaDoor
open Go.RowKit
set_option linter.unusedVariables false
set_option linter.unusedSimpArgs false

set_option maxRecDepth 100000 in
set_option maxHeartbeats 2000000 in
theorem index1_any (s : ByteArray) (c : UInt8) (w : World) (hs : s.size ≤ 9223372036854775807) (K : ∀ X : World, Calls Tryd.prog 53 #[.string s, .int .u8 (c.toNat : Int)] X fun e w' => e = .returned (.int .i64 (Lib.indexByte s.data.toList c)) ∧ w' = X) : Calls Tryd.prog 59 #[.string s, .string ⟨#[c]⟩] w fun e w' => e = .returned (.int .i64 (Lib.indexByte s.data.toList c)) ∧ w' = w := by
  have hsz : ((⟨#[c]⟩ : ByteArray).size) = 1 := rfl
  have hK : Hid _ := K
  clear K
  cases q : ([c] == s.toList) with
  | true =>
    have hl : s.data.toList = [c] := by rw [← ByteArray.toList_eq]; exact (eq_of_beq q).symm
    have h0 : Lib.indexByte s.data.toList c = 0 := by rw [hl]; simp [Lib.indexByte]
    clear hK
    rw [h0]
    go_enter Tryd.func59, Tryd.ntmps59
    go_wp2_with fail
    go_ret
    exact ⟨rfl, rfl⟩
  | false =>
    go_enter Tryd.func59, Tryd.ntmps59
    go_wp2_with fail
    go_at_call 53
    refine Calls.mono (hK.out _) ?_
    rintro e w1 ⟨rfl, hw1⟩
    have hw2 := hw1.symm
    clear hw1
    subst hw2
    go_wp2_with fail
    go_ret
    exact ⟨rfl, rfl⟩
end Go.Proofs.YtcajejfddfiidaaDoor
