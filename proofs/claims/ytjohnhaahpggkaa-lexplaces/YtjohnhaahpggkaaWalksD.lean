import Derived.Test.YtjohnhaahpggkaaShelf
import Derived.Test.YtjohnhaahpggkaaWalksC
import Derived.Deep.QuietTactic
import Derived.BigQuiet
namespace Go.Proofs.Ytjohnhaahpggkaa
open Go.RowKit
set_option linter.unusedVariables false

set_option maxRecDepth 100000 in
set_option maxHeartbeats 1000000 in
theorem place_no (s : ByteArray) (a : Int) (w : World) (hs : s.size < 4611686018427387904) (h : a < 0 ∨ (s.size : Int) < a) :
    Calls Try.prog 4 #[.string s, .int .i64 a] w fun e w' => e = .returned (.agg #[.int .i64 0, .int .i64 0]) ∧ Below w.heap.size w w' := by
  rcases h with h | h
  · go_enter Try.func4, Try.ntmps4
    go_wp2
    exact bodyPost_ret (v := .agg #[.int .i64 0, .int .i64 0]) (by simp [results, Try.results4, go_sem]) rfl ⟨rfl, (Below.refl _ _).alloc (Nat.le_refl _) _⟩
  · have h' : ¬ a < 0 := by omega
    go_enter Try.func4, Try.ntmps4
    go_wp2
    exact bodyPost_ret (v := .agg #[.int .i64 0, .int .i64 0]) (by simp [results, Try.results4, go_sem]) rfl ⟨rfl, (Below.refl _ _).alloc (Nat.le_refl _) _⟩

set_option maxRecDepth 100000 in
set_option maxHeartbeats 1000000 in
theorem place_yes (s : ByteArray) (k : Nat) (w : World) (hs : s.size < 4611686018427387904) (h : k ≤ s.size) :
    Calls Try.prog 4 #[.string s, .int .i64 k] w fun e w' => e = .returned (.agg #[.int .i64 (lineAt s k), .int .i64 (colAt s k)]) ∧ Below w.heap.size w w' := by
  have h1 : ¬ (k : Int) < 0 := by omega
  have h2 : ¬ (s.size : Int) < k := by omega
  have hC := fun w => Try.strings_Count_one (s.extract 0 k) 10 w
  have hL := fun w => Try.strings_LastIndexByte (s.extract 0 k) 10 (by simp; omega) w
  have e1 := lineAt_eq s k h
  have e2 := colAt_eq s k h
  have b1 := lineAt_bd s k
  have b2 := colAt_bd s k
  generalize ((Lib.countByte (s.extract 0 k).data.toList 10 : Nat) : Int) = c at hC e1
  generalize Lib.lastIndexByte (s.extract 0 k) 10 = l at hL e2
  have f1 : c = lineAt s k - 1 := by omega
  have f2 : l = (k : Int) - colAt s k := by omega
  subst f1
  subst f2
  clear e1 e2
  generalize lineAt s k = L at *
  generalize colAt s k = C at *
  go_enter Try.func4, Try.ntmps4
  go_wp2_with (first
    | (go_at_call 8; refine (hC _).mono ?_; rintro e w' ⟨rfl, hwe⟩; subst hwe)
    | (go_at_call 9; refine (hL _).mono ?_; rintro e w' ⟨rfl, hwe⟩; subst hwe))
  have e : (k : Int) - (↑k - C) = C := by omega
  simp only [e]
  exact bodyPost_ret (v := .agg #[.int .i64 L, .int .i64 C]) (by simp [results, Try.results4, go_sem]) rfl ⟨rfl, (Below.refl _ _).alloc (Nat.le_refl _) _⟩

theorem indexByte_hit (c : UInt8) : ∀ (l : List UInt8) (i : Nat) (hi : i < l.length), l[i] = c → (∀ j (hj : j < l.length), j < i → ¬ l[j] = c) → Lib.indexByte l c = i
  | [], i, hi, _, _ => by simp at hi
  | a :: l, 0, _, e, _ => by simp only [List.getElem_cons_zero] at e; simp [Lib.indexByte, e]
  | a :: l, i + 1, hi, e, hf => by
    have ha : ¬ a = c := hf 0 (by simp) (by omega)
    have ih := indexByte_hit c l i (by simpa using hi) (by simpa using e) (fun j hj hji => by have := hf (j + 1) (by simpa using hj) (by omega); simpa using this)
    have ha' : (a == c) = false := by simpa using ha
    have hn : ((i : Int) == -1) = false := by rw [beq_eq_false_iff_ne]; omega
    unfold Lib.indexByte
    rw [ha', ih, hn]; simp
theorem indexByte_miss (c : UInt8) : ∀ (l : List UInt8), (∀ j (hj : j < l.length), ¬ l[j] = c) → Lib.indexByte l c = -1
  | [], _ => rfl
  | a :: l, hf => by
    have ha : ¬ a = c := hf 0 (by simp)
    have ih := indexByte_miss c l (fun j hj => by have := hf (j + 1) (by simpa using hj); simpa using this)
    have ha' : (a == c) = false := by simpa using ha
    unfold Lib.indexByte
    rw [ha', ih]; simp

set_option maxRecDepth 100000 in
set_option maxHeartbeats 1000000 in
theorem cut17_hit (s : ByteArray) (c : UInt8) (i : Nat) (hi : i < s.size) (w : World) (hs : s.size < 4611686018427387904) (e : s[i] = c) (hf : ∀ j (hj : j < s.size), j < i → ¬ s[j] = c) :
    Calls Try.prog 17 #[.string s, .string ⟨#[c]⟩] w fun e w' => e = .returned (.tuple #[.string (s.extract 0 i), .string (s.extract (i + 1) s.size), .bool true]) ∧ ∃ n, w' = w.drewN n := by
  have hI := fun w => Try.stringslite_Index_one s c w
  rw [indexByte_hit c s.data.toList i (by simpa using hi) e (fun j hj hji => hf j (by simpa using hj) hji)] at hI
  clear e hf
  have q0 : (0 : Int) ≤ (i : Int) := by omega
  have q1 : (i : Int) ≤ (s.size : Int) := by omega
  have q2 : (i : Int) + 1 ≤ (s.size : Int) := by omega
  go_enter Try.func17, Try.ntmps17
  go_wp2_with (go_at_call 19; refine (hI _).mono ?_; rintro e w' ⟨rfl, hwe⟩; subst hwe)
  go_quiet (fail)
  go_wp2
  go_ret3
  exact ⟨rfl, _, rfl⟩
set_option maxRecDepth 100000 in
set_option maxHeartbeats 1000000 in
theorem cut17_miss (s : ByteArray) (c : UInt8) (w : World) (hs : s.size < 4611686018427387904) (hf : ∀ j (hj : j < s.size), ¬ s[j] = c) :
    Calls Try.prog 17 #[.string s, .string ⟨#[c]⟩] w fun e w' => e = .returned (.tuple #[.string s, .string ByteArray.empty, .bool false]) ∧ w' = w := by
  have hI := fun w => Try.stringslite_Index_one s c w
  rw [indexByte_miss c s.data.toList (fun j hj => hf j (by simpa using hj))] at hI
  clear hf
  go_enter Try.func17, Try.ntmps17
  go_wp2_with (go_at_call 19; refine (hI _).mono ?_; rintro e w' ⟨rfl, hwe⟩; subst hwe)
  go_ret3
  exact ⟨rfl, rfl⟩
end Go.Proofs.Ytjohnhaahpggkaa
