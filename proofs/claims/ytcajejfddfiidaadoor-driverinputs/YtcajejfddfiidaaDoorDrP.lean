import Derived.Test.YtcajejfddfiidaaDoorDrO
namespace Go.Proofs.YtcajejfddfiidaaDoor
open Go.RowKit
set_option linter.unusedVariables false
set_option linter.unusedSimpArgs false

theorem suf_yes (l : List UInt8) (c : UInt8) (h : l.getLast? = some c) : Lib.hasSuffix l [c] = true := by
  obtain ⟨ys, rfl⟩ := List.getLast?_eq_some_iff.1 h
  simp [Lib.hasSuffix]
theorem suf_no (l : List UInt8) (c : UInt8) (h : ¬ l.getLast? = some c) : Lib.hasSuffix l [c] = false := by
  rw [← Bool.not_eq_true]
  intro hc
  apply h
  obtain ⟨ys, rfl⟩ : [c] <:+ l := by simpa [Lib.hasSuffix] using hc
  simp
set_option maxRecDepth 100000 in
set_option maxHeartbeats 2000000 in
theorem cutSuf54_any (s : ByteArray) (w : World) (hs : s.size ≤ 9223372036854775806) : Calls Tryd.prog 54 #[.string s, .string ⟨#[10]⟩] w fun e w' => (e = .returned (if s.data.toList.getLast? = some 10 then .tuple #[.string ⟨s.data.toList.dropLast.toArray⟩, .bool true] else .tuple #[.string s, .bool false])) ∧ ∃ n, w' = w.drewN n := by
  have hI := fun X => Tryd.stringslite_HasSuffix s ⟨#[10]⟩ X (by omega)
  by_cases h : s.data.toList.getLast? = some 10
  · rw [suf_yes _ 10 h] at hI
    rw [if_pos h]
    obtain ⟨ys, hy⟩ := List.getLast?_eq_some_iff.1 h
    have hlen : s.size = ys.length + 1 := by
      have : s.size = s.data.toList.length := rfl
      rw [this, hy]; simp
    have x1 := ext_split s [] ys [10] hy
    simp only [List.length_nil, Nat.zero_add] at x1
    rw [hy, List.dropLast_concat, ← x1]
    clear h hy x1
    have c1 : (0 : Int) ≤ (s.size : Int) - 1 := by omega
    have c2 : (s.size : Int) - 1 ≤ (s.size : Int) := by omega
    have c3 : ((s.size : Int) - 1).toNat = ys.length := by omega
    have hwr : IntKind.i64.wrap ((s.size : Int) - 1) = (s.size : Int) - 1 := wrap64 _ (by omega)
    clear hlen
    go_enter Tryd.func54, Tryd.ntmps54
    go_wp2_with fail
    go_at_call 67
    refine Calls.mono (hI _) ?_
    rintro e w1 ⟨rfl, hw1⟩
    have hw2 := hw1.symm
    clear hw1
    subst hw2
    go_wp2_with fail
    go_ret2
    exact ⟨rfl, 0, rfl⟩
  · rw [suf_no _ 10 h] at hI
    rw [if_neg h]
    clear h
    go_enter Tryd.func54, Tryd.ntmps54
    go_wp2_with fail
    go_at_call 67
    refine Calls.mono (hI _) ?_
    rintro e w1 ⟨rfl, hw1⟩
    have hw2 := hw1.symm
    clear hw1
    subst hw2
    go_wp2_with fail
    go_ret2
    exact ⟨rfl, 0, rfl⟩
/-- A line's text and whether it has ended. -/
def csF (s : ByteArray) : ByteArray := if s.data.toList.getLast? = some 10 then ⟨s.data.toList.dropLast.toArray⟩ else s
def csB (s : ByteArray) : Bool := decide (s.data.toList.getLast? = some 10)
set_option maxRecDepth 100000 in
set_option maxHeartbeats 2000000 in
theorem cutSuf_any (s : ByteArray) (w : World) (hs : s.size ≤ 9223372036854775806) : Calls Tryd.prog 39 #[.string s, .string ⟨#[10]⟩] w fun e w' => e = .returned (.tuple #[.string (csF s), .bool (csB s)]) ∧ ∃ n, w' = w.drewN n := by
  have hI := fun X => cutSuf54_any s X hs
  have he : (if s.data.toList.getLast? = some 10 then Value.tuple #[.string ⟨s.data.toList.dropLast.toArray⟩, .bool true] else .tuple #[.string s, .bool false]) = .tuple #[.string (csF s), .bool (csB s)] := by
    unfold csF csB
    by_cases h : s.data.toList.getLast? = some 10
    · rw [if_pos h, if_pos h, decide_eq_true h]
    · rw [if_neg h, if_neg h, decide_eq_false h]
  rw [he] at hI
  clear he
  generalize csF s = A at *
  generalize csB s = b at *
  go_enter Tryd.func39, Tryd.ntmps39
  go_wp2_with fail
  go_at_call 54
  refine Calls.mono (hI _) ?_
  rintro e w1 ⟨rfl, n, hw1⟩
  have hw1' : Hid (w1 = w.drewN n) := hw1
  clear hw1 hI
  go_wp2_with fail
  go_ret2
  exact ⟨rfl, n, hw1'.out⟩
end Go.Proofs.YtcajejfddfiidaaDoor
