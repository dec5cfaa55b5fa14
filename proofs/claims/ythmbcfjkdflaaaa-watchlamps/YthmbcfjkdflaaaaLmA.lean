import Derived.Test.YthmbcfjkdflaaaaShelf
import Derived.Test.YthmbcfjkdflaaaaChecked
import Derived.ProofKit
import Derived.WalkKit
import Derived.Below
import Derived.WalkSmall
import Derived.WalkMore
import Derived.Deep.LoopGhost
import Derived.Laws.IdiomStrings
import Derived.WideShapes
namespace Go.Proofs.Ythmbcfjkdflaaaa
open Go.RowKit
set_option linter.unusedVariables false
set_option linter.unusedSimpArgs false

/-- The byte that a tripped junction shows. -/
def lb (tick : Int) : UInt8 := if tick.tmod 2 = 0 then 114 else 46
/-- What the street sees. -/
def lampS (s : ByteArray) (tr : Bool) (tick : Int) : ByteArray := if tr then ⟨(List.replicate s.size (lb tick)).toArray⟩ else s

theorem rep_one (x : UInt8) (n : Nat) : Lib.repeatL (⟨#[x]⟩ : ByteArray).data.toList n = List.replicate n x := by
  have := Lib.repeatL_replicate x 1 n
  simpa using this

set_option maxRecDepth 100000 in
set_option maxHeartbeats 1000000 in
theorem lamps_any (s : ByteArray) (tr : Bool) (tick : Int) (w : World) (hs : s.size < 140737488355328) :
    Calls Try.prog 4 #[.string s, .bool tr, .int .i64 tick] w fun e w' => e = .returned (.string (lampS s tr tick)) ∧ Below w.heap.size w w' := by
  have hr1 : ∀ w, Calls Try.prog 6 #[.string ⟨#[114]⟩, .int .i64 s.size] w fun e w' => e = .returned (.string ⟨(List.replicate s.size 114).toArray⟩) ∧ Below w.heap.size w w' := by
    intro w
    have := Try.strings_Repeat ⟨#[114]⟩ s.size w (by omega) (by show 1 * s.size ≤ _; omega)
    rwa [rep_one] at this
  have hr2 : ∀ w, Calls Try.prog 6 #[.string ⟨#[46]⟩, .int .i64 s.size] w fun e w' => e = .returned (.string ⟨(List.replicate s.size 46).toArray⟩) ∧ Below w.heap.size w w' := by
    intro w
    have := Try.strings_Repeat ⟨#[46]⟩ s.size w (by omega) (by show 1 * s.size ≤ _; omega)
    rwa [rep_one] at this
  cases tr with
  | false =>
    have e0 : lampS s false tick = s := by simp [lampS]
    rw [e0]
    go_enter Try.func4, Try.ntmps4
    go_wp2
    go_ret
    exact ⟨rfl, Below.refl _ _⟩
  | true =>
    by_cases h : tick.tmod 2 = 0
    · have e0 : lampS s true tick = ⟨(List.replicate s.size 114).toArray⟩ := by simp [lampS, lb, h]
      rw [e0]
      generalize (⟨(List.replicate s.size 114).toArray⟩ : ByteArray) = R at *
      go_enter Try.func4, Try.ntmps4
      go_wp2_with (go_at_call 6; refine (hr1 _).mono ?_; rintro e w' ⟨rfl, hb⟩)
      go_ret
      exact ⟨rfl, hb⟩
    · have e0 : lampS s true tick = ⟨(List.replicate s.size 46).toArray⟩ := by simp [lampS, lb, h]
      rw [e0]
      generalize (⟨(List.replicate s.size 46).toArray⟩ : ByteArray) = R at *
      have h' : (tick.tmod 2 == 0) = false := beq_eq_false_iff_ne.2 h
      go_enter Try.func4, Try.ntmps4
      go_wp2_with (go_at_call 6; refine (hr2 _).mono ?_; rintro e w' ⟨rfl, hb⟩)
      go_ret
      exact ⟨rfl, hb⟩
end Go.Proofs.Ythmbcfjkdflaaaa
