import Derived.Test.YtjohnhaahpggkabDoorNumM
import Derived.Test.YtjohnhaahpggkabDoorProg
import Derived.ProofKit
import Derived.WalkKit
import Derived.Below
import Derived.WalkSmall
import Derived.Deep.LoopGhost
import Derived.Deep.CutRange
import Derived.Deep.RegionWith
import Derived.Deep.Light
import Derived.Deep.QuietTactic
import Derived.BigQuiet
namespace Go.Proofs.YtjohnhaahpggkabDoor
open Go.RowKit
set_option linter.unusedVariables false

theorem ret_bool {a b : Bool} (h : a = b) : Ending.returned (.bool a) = .returned (.bool b) := by rw [h]
theorem ret_int {k : IntKind} {a b : Int} (h : a = b) : Ending.returned (.int k a) = .returned (.int k b) := by rw [h]
theorem ret_str {a b : ByteArray} (h : a = b) : Ending.returned (.string a) = .returned (.string b) := by rw [h]
theorem bel_drewN {B n : Nat} {a w : World} (h : Below B a w) : Below B a (w.drewN n) := by
  induction n generalizing w with
  | zero => exact h
  | succ n ih => exact (ih h).drew

/-- Block b holds just these cells, and may be written. -/
def Has (w : World) (b : Nat) (vs : Array Value) : Prop := b < w.heap.size ∧ (∀ i, w.cell? ⟨b, i, none⟩ = vs[i]?) ∧ ∀ i, w.frozen? ⟨b, i, none⟩ = false
theorem Has.below {w w' : World} {b : Nat} {vs : Array Value} (h : Has w b vs) (hb : Below w.heap.size w w') : Has w' b vs :=
  ⟨Nat.lt_of_lt_of_le h.1 hb.size, fun i => (hb.cell (p := ⟨b, i, none⟩) h.1).trans (h.2.1 i), fun i => (hb.frozen (p := ⟨b, i, none⟩) h.1).trans (h.2.2 i)⟩
theorem Has.alloc {w : World} {b : Nat} {vs : Array Value} (h : Has w b vs) (o : Obj) : Has (w.alloc o) b vs :=
  h.below ((Below.refl _ _).alloc (Nat.le_refl _) _)
theorem Has.drew {w : World} {b : Nat} {vs : Array Value} (h : Has w b vs) : Has w.drew b vs := h
theorem Has.new (w : World) (vs : Array Value) (t : TypeId) {b : Nat} (hb : b = w.heap.size) : Has (w.alloc (.cells vs t)) b vs :=
  ⟨by simp [hb], fun i => by simp [hb], fun i => World.frozen?_alloc_at _ _ _ _ hb⟩
theorem bel_after {w W w1 : World} {B : Nat} (h : Below B w W) (hB : B ≤ W.heap.size) (hb : Below W.heap.size W w1) : Below B w w1 := h.trans (hb.mono hB)
theorem Has.far {w : World} {b : Nat} {vs : Array Value} (h : Has w b vs) {c i : Nat} (hc : b ≠ c) (v : Value) : Has (w.setCell ⟨c, i, none⟩ v) b vs :=
  ⟨by simpa [World.setCell] using h.1, fun j => (World.cell?_setCell_other w ⟨c, i, none⟩ ⟨b, j, none⟩ v (by intro e; exact hc (congrArg Addr.block e).symm)).trans (h.2.1 j), fun j => by rw [World.frozen?_setCell]; exact h.2.2 j⟩
theorem Has.set {w : World} {b : Nat} {vs : Array Value} (h : Has w b vs) (i : Nat) (hi : i < vs.size) (v : Value) : Has (w.setCell ⟨b, i, none⟩ v) b (vs.setIfInBounds i v) :=
  ⟨by simpa [World.setCell] using h.1, fun j => by
    by_cases e : i = j
    · subst e
      rw [World.cell?_setCell_same w ⟨b, i, none⟩ v (u := vs[i]) (by rw [h.2.1 i]; simp [hi])]
      simp [hi]
    · rw [World.cell?_setCell_other w ⟨b, i, none⟩ ⟨b, j, none⟩ v (by intro h'; exact e (congrArg Addr.off h')), h.2.1 j]
      simp [e], fun j => by rw [World.frozen?_setCell]; exact h.2.2 j⟩
theorem Has.drewN {w : World} {b : Nat} {vs : Array Value} (h : Has w b vs) (n : Nat) : Has (w.drewN n) b vs := by
  induction n generalizing w with
  | zero => exact h
  | succ n ih => exact (ih h).drew

set_option maxRecDepth 100000 in
set_option maxHeartbeats 1000000 in
theorem isDigit_any (c : UInt8) (w : World) : Calls Tryd.prog 46 #[.int .u8 (c.toNat : Int)] w fun e w' => e = .returned (.bool (isD c)) ∧ w' = w := by
  by_cases h1 : (48 : Int) ≤ (c.toNat : Int)
  · by_cases h2 : (c.toNat : Int) ≤ 57
    · have e : isD c = true := by rw [isD_iff]; omega
      rw [e]; clear e; go_enter Tryd.func46, Tryd.ntmps46
      go_wp2
      go_ret
      exact ⟨rfl, rfl⟩
    · have e : isD c = false := by rw [← Bool.not_eq_true, isD_iff]; omega
      rw [e]; clear e; go_enter Tryd.func46, Tryd.ntmps46
      go_wp2
      go_ret
      exact ⟨rfl, rfl⟩
  · have e : isD c = false := by rw [← Bool.not_eq_true, isD_iff]; omega
    rw [e]; clear e; go_enter Tryd.func46, Tryd.ntmps46
    go_wp2
    go_ret
    exact ⟨rfl, rfl⟩

set_option maxRecDepth 100000 in
set_option maxHeartbeats 1000000 in
theorem digit_any (c : UInt8) (w : World) : Calls Tryd.prog 59 #[.int .u8 (c.toNat : Int)] w fun e w' => e = .returned (.bool (isD c)) ∧ w' = w := by
  by_cases h1 : (48 : Int) ≤ (c.toNat : Int)
  · by_cases h2 : (c.toNat : Int) ≤ 57
    · have e : isD c = true := by rw [isD_iff]; omega
      rw [e]; clear e; go_enter Tryd.func59, Tryd.ntmps59
      go_wp2
      go_ret
      exact ⟨rfl, rfl⟩
    · have e : isD c = false := by rw [← Bool.not_eq_true, isD_iff]; omega
      rw [e]; clear e; go_enter Tryd.func59, Tryd.ntmps59
      go_wp2
      go_ret
      exact ⟨rfl, rfl⟩
  · have e : isD c = false := by rw [← Bool.not_eq_true, isD_iff]; omega
    rw [e]; clear e; go_enter Tryd.func59, Tryd.ntmps59
    go_wp2
    go_ret
    exact ⟨rfl, rfl⟩

theorem isL_iff (c : UInt8) : isL c = true ↔ 97 ≤ c.toNat ∧ c.toNat ≤ 122 ∨ 65 ≤ c.toNat ∧ c.toNat ≤ 90 := by simp [isL]
set_option maxRecDepth 100000 in
set_option maxHeartbeats 1000000 in
theorem isLetter_any (c : UInt8) (w : World) : Calls Tryd.prog 43 #[.int .u8 (c.toNat : Int)] w fun e w' => e = .returned (.bool (isL c)) ∧ w' = w := by
  have e := isL_iff c
  generalize isL c = B at e
  have e' : Hid _ := e
  clear e
  by_cases h1 : (97 : Int) ≤ (c.toNat : Int) <;> by_cases h2 : (c.toNat : Int) ≤ 122 <;> by_cases h3 : (65 : Int) ≤ (c.toNat : Int) <;> by_cases h4 : (c.toNat : Int) ≤ 90
  all_goals
    go_enter Tryd.func43, Tryd.ntmps43
    go_wp2
    go_ret
    exact ⟨ret_bool (by
      have e : B = true ↔ 97 ≤ c.toNat ∧ c.toNat ≤ 122 ∨ 65 ≤ c.toNat ∧ c.toNat ≤ 90 := e'.out
      first | (symm; rw [e]; omega) | (symm; rw [← Bool.not_eq_true, e]; omega)), rfl⟩
set_option maxRecDepth 100000 in
set_option maxHeartbeats 1000000 in
theorem letter_any (c : UInt8) (w : World) : Calls Tryd.prog 41 #[.int .u8 (c.toNat : Int)] w fun e w' => e = .returned (.bool (isL c)) ∧ w' = w := by
  have e := isL_iff c
  generalize isL c = B at e
  have e' : Hid _ := e
  clear e
  by_cases h1 : (97 : Int) ≤ (c.toNat : Int) <;> by_cases h2 : (c.toNat : Int) ≤ 122 <;> by_cases h3 : (65 : Int) ≤ (c.toNat : Int) <;> by_cases h4 : (c.toNat : Int) ≤ 90
  all_goals
    go_enter Tryd.func41, Tryd.ntmps41
    go_wp2
    go_ret
    exact ⟨ret_bool (by
      have e : B = true ↔ 97 ≤ c.toNat ∧ c.toNat ≤ 122 ∨ 65 ≤ c.toNat ∧ c.toNat ≤ 90 := e'.out
      first | (symm; rw [e]; omega) | (symm; rw [← Bool.not_eq_true, e]; omega)), rfl⟩

theorem isR_iff (c : UInt8) : isR c = (isL c || isD c || decide (c.toNat = 95)) := rfl
set_option maxRecDepth 100000 in
set_option maxHeartbeats 1000000 in
theorem inRun_of (c : UInt8) (L D : Bool) (w : World) (hL : ∀ w, Calls Tryd.prog 41 #[.int .u8 (c.toNat : Int)] w fun e w' => e = .returned (.bool L) ∧ w' = w) (hD : ∀ w, Calls Tryd.prog 59 #[.int .u8 (c.toNat : Int)] w fun e w' => e = .returned (.bool D) ∧ w' = w) :
    Calls Tryd.prog 50 #[.int .u8 (c.toNat : Int)] w fun e w' => e = .returned (.bool (L || D || decide ((c.toNat : Int) = 95))) ∧ w' = w := by
  cases L
  · cases D
    · go_enter Tryd.func50, Tryd.ntmps50
      go_wp2_with (first
        | (go_at_call 41; with_reducible refine (hL _).mono ?_; rintro e w' ⟨rfl, hwe⟩; subst hwe)
        | (go_at_call 59; with_reducible refine (hD _).mono ?_; rintro e w' ⟨rfl, hwe⟩; subst hwe))
      go_ret
      exact ⟨rfl, rfl⟩
    · go_enter Tryd.func50, Tryd.ntmps50
      go_wp2_with (first
        | (go_at_call 41; with_reducible refine (hL _).mono ?_; rintro e w' ⟨rfl, hwe⟩; subst hwe)
        | (go_at_call 59; with_reducible refine (hD _).mono ?_; rintro e w' ⟨rfl, hwe⟩; subst hwe))
      go_ret
      exact ⟨rfl, rfl⟩
  · go_enter Tryd.func50, Tryd.ntmps50
    go_wp2_with (first
      | (go_at_call 41; with_reducible refine (hL _).mono ?_; rintro e w' ⟨rfl, hwe⟩; subst hwe)
      | (go_at_call 59; with_reducible refine (hD _).mono ?_; rintro e w' ⟨rfl, hwe⟩; subst hwe))
    go_ret
    exact ⟨rfl, rfl⟩
theorem inRun_any (c : UInt8) (w : World) : Calls Tryd.prog 50 #[.int .u8 (c.toNat : Int)] w fun e w' => e = .returned (.bool (isR c)) ∧ w' = w := by
  have h := inRun_of c (isL c) (isD c) w (fun w => letter_any c w) (fun w => digit_any c w)
  have e : (isL c || isD c || decide ((c.toNat : Int) = 95)) = isR c := by
    rw [isR_iff]
    have e2 : decide ((c.toNat : Int) = 95) = decide (c.toNat = 95) := by simp only [decide_eq_decide]; omega
    rw [e2]
  rw [e] at h
  exact h
end Go.Proofs.YtjohnhaahpggkabDoor
