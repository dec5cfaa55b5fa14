import Derived.Test.YtjohnhaahpggkabDoorShelf
import Derived.Test.YtjohnhaahpggkabDoorNumE
namespace Go.Proofs.YtjohnhaahpggkabDoor
open Go.RowKit
set_option linter.unusedVariables false

theorem indexByte_hit (c : UInt8) : ∀ (l : List UInt8) (i : Nat) (hi : i < l.length), l[i] = c → (∀ j (hj : j < l.length), j < i → ¬ l[j] = c) → Lib.indexByte l c = i
  | [], i, hi, _, _ => by simp at hi
  | a :: l, 0, _, e, _ => by simp only [List.getElem_cons_zero] at e; simp [Lib.indexByte, e]
  | a :: l, i + 1, hi, e, hf => by
    have ha : ¬ a = c := hf 0 (by simp) (by omega)
    have ih := indexByte_hit c l i (by simpa using hi) (by simpa using e) (fun j hj hji => by have := hf (j + 1) (by simpa using hj) (by omega); simpa using this)
    have ha' : (a == c) = false := by simpa using ha
    have hn : ((i : Int) == -1) = false := by rw [beq_eq_false_iff_ne]; omega
    unfold Lib.indexByte
    rw [ha', ih, hn]; simp
theorem indexByte_miss (c : UInt8) : ∀ (l : List UInt8), (∀ j (hj : j < l.length), ¬ l[j] = c) → Lib.indexByte l c = -1
  | [], _ => rfl
  | a :: l, hf => by
    have ha : ¬ a = c := hf 0 (by simp)
    have ih := indexByte_miss c l (fun j hj => by have := hf (j + 1) (by simpa using hj); simpa using this)
    have ha' : (a == c) = false := by simpa using ha
    unfold Lib.indexByte
    rw [ha', ih]; simp

set_option maxRecDepth 100000 in
set_option maxHeartbeats 1000000 in
theorem cut64_hit (s : ByteArray) (c : UInt8) (i : Nat) (hi : i < s.size) (w : World) (hs : s.size < 4611686018427387904) (e : s[i] = c) (hf : ∀ j (hj : j < s.size), j < i → ¬ s[j] = c) :
    Calls Tryd.prog 78 #[.string s, .string ⟨#[c]⟩] w fun e w' => e = .returned (.tuple #[.string (s.extract 0 i), .string (s.extract (i + 1) s.size), .bool true]) ∧ ∃ n, w' = w.drewN n := by
  have hI := fun w => Tryd.stringslite_Index_one s c w
  rw [indexByte_hit c s.data.toList i (by simpa using hi) e (fun j hj hji => hf j (by simpa using hj) hji)] at hI
  clear e hf
  have q0 : (0 : Int) ≤ (i : Int) := by omega
  have q1 : (i : Int) ≤ (s.size : Int) := by omega
  have q2 : (i : Int) + 1 ≤ (s.size : Int) := by omega
  go_enter Tryd.func78, Tryd.ntmps78
  go_wp2_with (go_at_call 79; refine (hI _).mono ?_; rintro e w' ⟨rfl, hwe⟩; subst hwe)
  go_quiet (fail)
  go_wp2
  go_ret3
  exact ⟨rfl, _, rfl⟩
set_option maxRecDepth 100000 in
set_option maxHeartbeats 1000000 in
theorem cut64_miss (s : ByteArray) (c : UInt8) (w : World) (hs : s.size < 4611686018427387904) (hf : ∀ j (hj : j < s.size), ¬ s[j] = c) :
    Calls Tryd.prog 78 #[.string s, .string ⟨#[c]⟩] w fun e w' => e = .returned (.tuple #[.string s, .string ByteArray.empty, .bool false]) ∧ w' = w := by
  have hI := fun w => Tryd.stringslite_Index_one s c w
  rw [indexByte_miss c s.data.toList (fun j hj => hf j (by simpa using hj))] at hI
  clear hf
  go_enter Tryd.func78, Tryd.ntmps78
  go_wp2_with (go_at_call 79; refine (hI _).mono ?_; rintro e w' ⟨rfl, hwe⟩; subst hwe)
  go_ret3
  exact ⟨rfl, rfl⟩
set_option maxRecDepth 100000 in
set_option maxHeartbeats 1000000 in
theorem cut_hit (s : ByteArray) (c : UInt8) (i : Nat) (hi : i < s.size) (w : World) (hs : s.size < 4611686018427387904) (e : s[i] = c) (hf : ∀ j (hj : j < s.size), j < i → ¬ s[j] = c) :
    Calls Tryd.prog 75 #[.string s, .string ⟨#[c]⟩] w fun e w' => e = .returned (.tuple #[.string (s.extract 0 i), .string (s.extract (i + 1) s.size), .bool true]) ∧ ∃ n, w' = w.drewN n := by
  have hI := fun w => cut64_hit s c i hi w hs e hf
  clear e hf
  go_enter Tryd.func75, Tryd.ntmps75
  go_wp2_with (go_at_call 78; refine (hI _).mono ?_; rintro e w' ⟨rfl, n, hwe⟩; subst hwe)
  go_ret3
  exact ⟨rfl, _, rfl⟩
set_option maxRecDepth 100000 in
set_option maxHeartbeats 1000000 in
theorem cut_miss (s : ByteArray) (c : UInt8) (w : World) (hs : s.size < 4611686018427387904) (hf : ∀ j (hj : j < s.size), ¬ s[j] = c) :
    Calls Tryd.prog 75 #[.string s, .string ⟨#[c]⟩] w fun e w' => e = .returned (.tuple #[.string s, .string ByteArray.empty, .bool false]) ∧ ∃ n, w' = w.drewN n := by
  have hI := fun w => cut64_miss s c w hs hf
  clear hf
  go_enter Tryd.func75, Tryd.ntmps75
  go_wp2_with (go_at_call 78; refine (hI _).mono ?_; rintro e w' ⟨rfl, hwe⟩; subst hwe)
  go_ret3
  exact ⟨rfl, 0, rfl⟩


set_option maxRecDepth 100000 in
set_option maxHeartbeats 1000000 in
theorem cutPrefix54 (s : ByteArray) (H : Bool) (w : World) (hs : s.size < 4611686018427387904) (hH : Lib.hasPrefix s.data.toList [48, 120] = H) (h2 : H = true → 2 ≤ s.size) :
    Calls Tryd.prog 72 #[.string s, .string ⟨#[48, 120]⟩] w fun e w' => e = .returned (.tuple #[.string (if H then s.extract 2 s.size else s), .bool H]) ∧ w' = w := by
  have hI := fun w => Tryd.stringslite_HasPrefix s ⟨#[48, 120]⟩ w
  have hH' : Lib.hasPrefix s.data.toList (ByteArray.mk #[48, 120]).data.toList = H := hH
  rw [hH'] at hI
  clear hH hH'
  cases H
  · clear h2
    go_enter Tryd.func72, Tryd.ntmps72
    go_wp2_with (go_at_call 76; with_reducible refine (hI _).mono ?_; rintro e w' ⟨rfl, hwe⟩; subst hwe)
    go_ret2
    exact ⟨rfl, rfl⟩
  · have h2' : (2 : Int) ≤ (s.size : Int) := by have := h2 rfl; omega
    clear h2
    go_enter Tryd.func72, Tryd.ntmps72
    go_wp2_with (go_at_call 76; with_reducible refine (hI _).mono ?_; rintro e w' ⟨rfl, hwe⟩; subst hwe)
    go_ret2
    exact ⟨rfl, rfl⟩
set_option maxRecDepth 100000 in
set_option maxHeartbeats 1000000 in
theorem cutPrefix_any (s : ByteArray) (H : Bool) (w : World) (hs : s.size < 4611686018427387904) (hH : Lib.hasPrefix s.data.toList [48, 120] = H) (h2 : H = true → 2 ≤ s.size) :
    Calls Tryd.prog 67 #[.string s, .string ⟨#[48, 120]⟩] w fun e w' => e = .returned (.tuple #[.string (if H then s.extract 2 s.size else s), .bool H]) ∧ w' = w := by
  have hI := fun w => cutPrefix54 s H w hs hH h2
  generalize (if H then s.extract 2 s.size else s) = X at hI
  clear hH h2
  go_enter Tryd.func67, Tryd.ntmps67
  go_wp2_with (go_at_call 72; with_reducible refine (hI _).mono ?_; rintro e w' ⟨rfl, hwe⟩; subst hwe)
  go_ret2
  exact ⟨rfl, rfl⟩

/-- What a sum that is held back tells of the whole one. -/
def Cl (v V : Nat) : Prop := (V ≤ 2147483647 → v = V) ∧ (2147483647 < V → 2147483647 < v)
theorem Cl.zero : Cl 0 0 := ⟨fun _ => rfl, fun h => by omega⟩
theorem Cl.step {v V x d n n' : Nat} (k : Nat) (hk : 1 ≤ k) (h : Cl v V) (hd : d = min x 2147483648) (e : n = v + d * k) (e' : n' = V + x * k) : Cl n n' := by
  subst e e'
  have h1 : x ≤ x * k := Nat.le_mul_of_pos_right x hk
  have h2 : d ≤ d * k := Nat.le_mul_of_pos_right d hk
  refine ⟨fun hV => ?_, fun hV => ?_⟩
  · have := h.1 (by omega)
    have hdx : d = x := by omega
    subst hdx; omega
  · by_cases hv : 2147483647 < V
    · have := h.2 hv; omega
    · have := h.1 (by omega)
      by_cases hx : x ≤ 2147483648
      · have hdx : d = x := by omega
        subst hdx; omega
      · omega
end Go.Proofs.YtjohnhaahpggkabDoor
