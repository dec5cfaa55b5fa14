import Derived.Test.YtcajejfddfiidaaDoorDrJ
namespace Go.Proofs.YtcajejfddfiidaaDoor
open Go.RowKit
set_option linter.unusedVariables false
set_option linter.unusedSimpArgs false

theorem list_of (t : ByteArray) : (⟨t.data.toList.toArray⟩ : ByteArray) = t := by apply WideShapes.bytes_inj; simp
/-- What readHeads answers: the heads, or some text and false. -/
def HdP (t : ByteArray) (e : Ending) : Prop :=
  match hdR t.data.toList with
  | some h => e = .returned (.tuple #[.string h, .bool true])
  | none => ∃ u : ByteArray, e = .returned (.tuple #[.string u, .bool false])
set_option maxRecDepth 100000 in
set_option maxHeartbeats 2000000 in
theorem readHeads_any (t : ByteArray) (w : World) (hs : t.size ≤ 9223372036854775807) : Calls Tryd.prog 41 #[.string t] w fun e w' => HdP t e ∧ w' = w := by
  have hi := fun (X : World) => isHeads_any t X hs
  by_cases h1 : t.data.toList = [46]
  case pos =>
    have q1 : (t.toList == [46]) = true := by rw [ByteArray.toList_eq, h1]; rfl
    have hp : ∀ e, e = .returned (.tuple #[.string ⟨#[]⟩, .bool true]) → HdP t e := by
      intro e he; unfold HdP hdR; rw [if_pos h1]; exact he
    go_enter Tryd.func41, Tryd.ntmps41
    go_wp2_with fail
    go_ret2
    exact ⟨hp _ rfl, rfl⟩
  have q1 : (t.toList == [46]) = false := by rw [ByteArray.toList_eq]; exact beq_eq_false_iff_ne.2 h1
  by_cases h2 : t.data.toList = []
  case pos =>
    have q2 : (t.toList == []) = true := by rw [ByteArray.toList_eq, h2]; rfl
    have hp : ∀ e, e = .returned (.tuple #[.string t, .bool false]) → HdP t e := by
      intro e he; unfold HdP hdR; rw [if_neg h1, if_neg (fun c => c.1 h2)]; exact ⟨_, he⟩
    go_enter Tryd.func41, Tryd.ntmps41
    go_wp2_with fail
    go_ret2
    exact ⟨hp _ rfl, rfl⟩
  have q2 : (t.toList == []) = false := by rw [ByteArray.toList_eq]; exact beq_eq_false_iff_ne.2 h2
  have hp : ∀ e, e = .returned (.tuple #[.string t, .bool (hdB t)]) → HdP t e := by
    intro e he
    unfold HdP hdR
    rw [if_neg h1, list_of]
    cases hB : hdB t with
    | true => rw [if_pos ⟨h2, rfl⟩]; rw [hB] at he; exact he
    | false => rw [if_neg (fun c => by cases c.2)]; rw [hB] at he; exact ⟨_, he⟩
  cases hB : hdB t with
  | true =>
    rw [hB] at hi hp
    go_enter Tryd.func41, Tryd.ntmps41
    go_wp2_with fail
    go_at_call 23
    refine Calls.mono (hi _) ?_
    rintro e w1 ⟨rfl, hw1⟩
    have hw2 := hw1.symm
    clear hw1
    subst hw2
    go_wp2_with fail
    go_ret2
    exact ⟨hp _ rfl, rfl⟩
  | false =>
    rw [hB] at hi hp
    go_enter Tryd.func41, Tryd.ntmps41
    go_wp2_with fail
    go_at_call 23
    refine Calls.mono (hi _) ?_
    rintro e w1 ⟨rfl, hw1⟩
    have hw2 := hw1.symm
    clear hw1
    subst hw2
    go_wp2_with fail
    go_ret2
    exact ⟨hp _ rfl, rfl⟩
end Go.Proofs.YtcajejfddfiidaaDoor
