import Derived.Test.YtcajejfddfiidaaDoorDrK
namespace Go.Proofs.YtcajejfddfiidaaDoor
open Go.RowKit
set_option linter.unusedVariables false
set_option linter.unusedSimpArgs false

/-- What readCount answers: the count, or some number and false. -/
def CtP (ct : List UInt8 → Option Nat) (t : ByteArray) (e : Ending) : Prop :=
  match ct t.data.toList with
  | some n => e = .returned (.tuple #[.int .i64 (n : Int), .bool true])
  | none => ∃ u : Int, e = .returned (.tuple #[.int .i64 u, .bool false])
/-- readCount, as it is called. -/
def CtC (ct : List UInt8 → Option Nat) (t : ByteArray) (w : World) : Prop := ∀ X : World, Below w.heap.size w X → Calls Tryd.prog 55 #[.string t] X fun e w' => CtP ct t e ∧ Below X.heap.size X w'
def SgP (ct : List UInt8 → Option Nat) (t : ByteArray) (e : Ending) : Prop :=
  match sgR ct t.data.toList with
  | some s => e = .returned (.tuple #[.int .i64 s, .bool true])
  | none => ∃ u : Int, e = .returned (.tuple #[.int .i64 u, .bool false])
set_option maxRecDepth 100000 in
set_option maxHeartbeats 2000000 in
theorem readStage_any (ct : List UInt8 → Option Nat) (t : ByteArray) (w : World) (hC : CtC ct t w) : Calls Tryd.prog 42 #[.string t] w fun e w' => SgP ct t e ∧ Below w.heap.size w w' := by
  by_cases h1 : t.data.toList = [45]
  case pos =>
    have q1 : (t.toList == [45]) = true := by rw [ByteArray.toList_eq, h1]; rfl
    have hp : ∀ e, e = .returned (.tuple #[.int .i64 (-1), .bool true]) → SgP ct t e := by
      intro e he; unfold SgP sgR; rw [if_pos h1]; exact he
    go_enter Tryd.func42, Tryd.ntmps42
    go_wp2_with fail
    go_ret2
    exact ⟨hp _ rfl, Below.refl _ _⟩
  have q1 : (t.toList == [45]) = false := by rw [ByteArray.toList_eq]; exact beq_eq_false_iff_ne.2 h1
  have hC' : Hid (CtC ct t w) := hC
  clear hC
  cases hr : ct t.data.toList with
  | none =>
    have hp : ∀ (u : Int) e, e = .returned (.tuple #[.int .i64 u, .bool false]) → SgP ct t e := by
      intro u e he; unfold SgP sgR; rw [if_neg h1, hr]; exact ⟨u, he⟩
    go_enter Tryd.func42, Tryd.ntmps42
    go_wp2_with fail
    go_at_call 55
    refine Calls.mono (hC'.out _ (Below.refl _ _)) ?_
    rintro e w1 ⟨h2, hw1⟩
    unfold CtP at h2
    rw [hr] at h2
    obtain ⟨u, rfl⟩ := h2
    go_wp2_with fail
    go_ret2
    exact ⟨hp u _ rfl, hw1⟩
  | some n =>
    have hi := fun (X : World) => isStage_any (n : Int) X
    cases hB : stB (n : Int) with
    | true =>
      have hp : ∀ e, e = .returned (.tuple #[.int .i64 (n : Int), .bool true]) → SgP ct t e := by
        intro e he; unfold SgP sgR; rw [if_neg h1, hr]; simp only [Option.bind_some]; rw [if_pos hB]; exact he
      rw [hB] at hi
      go_enter Tryd.func42, Tryd.ntmps42
      go_wp2_with fail
      go_at_call 55
      refine Calls.mono (hC'.out _ (Below.refl _ _)) ?_
      rintro e w1 ⟨h2, hw1⟩
      unfold CtP at h2
      rw [hr] at h2
      cases h2
      go_wp2_with fail
      go_at_call 24
      refine Calls.mono (hi _) ?_
      rintro e w2 ⟨rfl, hw2⟩
      have hw3 := hw2.symm
      clear hw2
      subst hw3
      go_wp2_with fail
      go_ret2
      exact ⟨hp _ rfl, hw1⟩
    | false =>
      have hp : ∀ e, e = .returned (.tuple #[.int .i64 (n : Int), .bool false]) → SgP ct t e := by
        intro e he; unfold SgP sgR; rw [if_neg h1, hr]; simp only [Option.bind_some]; rw [if_neg (by rw [hB]; simp)]; exact ⟨_, he⟩
      rw [hB] at hi
      go_enter Tryd.func42, Tryd.ntmps42
      go_wp2_with fail
      go_at_call 55
      refine Calls.mono (hC'.out _ (Below.refl _ _)) ?_
      rintro e w1 ⟨h2, hw1⟩
      unfold CtP at h2
      rw [hr] at h2
      cases h2
      go_wp2_with fail
      go_at_call 24
      refine Calls.mono (hi _) ?_
      rintro e w2 ⟨rfl, hw2⟩
      have hw3 := hw2.symm
      clear hw2
      subst hw3
      go_wp2_with fail
      go_ret2
      exact ⟨hp _ rfl, hw1⟩
end Go.Proofs.YtcajejfddfiidaaDoor
