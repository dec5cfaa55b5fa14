import Derived.Test.YtjohnhaahpggkabDoorNumK
namespace Go.Proofs.YtjohnhaahpggkabDoor
open Go.RowKit
set_option linter.unusedVariables false

/-- The answer of Number. -/
def numA (R : Option Nat) : Value := .tuple #[.int .i32 (numV R), .int .i64 (numE R)]

theorem numA_none : numA Option.none = .tuple #[.int .i32 0, .int .i64 22] := rfl
theorem numA_small (V : Nat) (h : V ≤ 2147483647) : numA (some V) = .tuple #[.int .i32 (V : Int), .int .i64 0] := by
  unfold numA numV numE; simp [h]
theorem numA_big (V : Nat) (h : 2147483647 < V) : numA (some V) = .tuple #[.int .i32 0, .int .i64 23] := by
  unfold numA numV numE; simp [show ¬ V ≤ 2147483647 by omega]

set_option maxRecDepth 100000 in
set_option maxHeartbeats 2000000 in
theorem number_of (s : ByteArray) (R : Option Nat) (w : World)
    (hN : ∀ w, Calls Tryd.prog 61 #[.string s] w fun e w' => (∃ (v : Nat) (ok : Bool), e = .returned (.tuple #[.int .i64 v, .bool ok]) ∧ v ≤ 9007199254740992 ∧ DurRes R ok v) ∧ Below w.heap.size w w') :
    Calls Tryd.prog 54 #[.string s] w fun e w' => e = .returned (numA R) ∧ Below w.heap.size w w' := by
  cases R with
  | none =>
    have hN' : ∀ w, Calls Tryd.prog 61 #[.string s] w fun e w' => (∃ v : Nat, e = .returned (.tuple #[.int .i64 v, .bool false]) ∧ v ≤ 9007199254740992) ∧ Below w.heap.size w w' := fun w =>
      (hN w).mono fun e w' ⟨⟨v, ok, he, hv, hd⟩, hb⟩ => ⟨⟨v, by rw [he, hd.1]; rfl, hv⟩, hb⟩
    clear hN
    rw [numA_none]
    go_enter Tryd.func54, Tryd.ntmps54
    go_wp2_with (go_at_call 61; with_reducible refine (hN' _).mono ?_; rintro e w1 ⟨⟨v, rfl, hv⟩, hb⟩)
    go_ret2
    exact ⟨rfl, hb⟩
  | some V =>
    by_cases hV : V ≤ 2147483647
    · have hN' : ∀ w, Calls Tryd.prog 61 #[.string s] w fun e w' => e = .returned (.tuple #[.int .i64 V, .bool true]) ∧ Below w.heap.size w w' := fun w =>
        (hN w).mono fun e w' ⟨⟨v, ok, he, hv, hd⟩, hb⟩ => ⟨by rw [he, hd.1, (hd.2 V rfl).1 hV]; rfl, hb⟩
      clear hN
      rw [numA_small V hV]
      have hV' : (V : Int) ≤ 2147483647 := by omega
      go_enter Tryd.func54, Tryd.ntmps54
      go_wp2_with (go_at_call 61; with_reducible refine (hN' _).mono ?_; rintro e w1 ⟨rfl, hb⟩)
      go_ret2
      exact ⟨rfl, hb⟩
    · have hN' : ∀ w, Calls Tryd.prog 61 #[.string s] w fun e w' => (∃ v : Nat, e = .returned (.tuple #[.int .i64 v, .bool true]) ∧ (2147483647 : Int) < (v : Int)) ∧ Below w.heap.size w w' := fun w =>
        (hN w).mono fun e w' ⟨⟨v, ok, he, hv, hd⟩, hb⟩ => ⟨⟨v, by rw [he, hd.1]; rfl, by have := (hd.2 V rfl).2 (by omega); omega⟩, hb⟩
      clear hN
      rw [numA_big V (by omega)]
      clear hV
      go_enter Tryd.func54, Tryd.ntmps54
      go_wp2_with (go_at_call 61; with_reducible refine (hN' _).mono ?_; rintro e w1 ⟨⟨v, rfl, hv⟩, hb⟩)
      go_ret2
      exact ⟨rfl, hb⟩

theorem number_any (s : ByteArray) (w : World) (hs : s.size < 4611686018427387904) :
    Calls Tryd.prog 54 #[.string s] w fun e w' => e = .returned (numA (numOf s.data.toList)) ∧ Below w.heap.size w w' :=
  number_of s _ w (fun w => numberValue_any s w hs)

set_option maxRecDepth 100000 in
set_option maxHeartbeats 4000000 in
theorem duration_zero (w : World) :
    Calls Tryd.prog 52 #[.string ByteArray.empty] w fun e w' => e = .returned (.tuple #[.int .i64 0, .bool false]) ∧ Below w.heap.size w w' := by
  go_enter Tryd.func52, Tryd.ntmps52
  go_wp2
  go_loopw [6, 7, 8] (fun tn ti tk wr => ∃ (k : Nat) (K : Int), K = k ∧ k ≤ 3 ∧ tn = .int .i64 0 ∧ ti = .int .i64 0 ∧ tk = .int .i64 K ∧ Below w.heap.size w wr) (fun _ _ tk _ => 3 - (intOf tk).toNat)
  case atStart => exact ⟨0, 0, rfl, by omega, rfl, rfl, rfl, (Below.refl _ _).alloc (Nat.le_refl _) _⟩
  case round =>
    obtain ⟨k, K, hK, hk, rfl, rfl, rfl, hB⟩ := hrel
    by_cases hk3 : K < 3
    · go_wp2
      go_loop [9] (fun tj => tj = .int .i64 0) (fun _ => 0)
      case atStart => exact rfl
      case round =>
        obtain rfl := hrel
        go_wp2
        go_quiet (fail)
        go_wp2
        go_roundw
        case rel => exact ⟨k + 1, K + 1, by omega, by omega, rfl, rfl, by go_num, bel_drewN hB⟩
        case measure => simp [intOf]; omega
    · go_wp2
      go_ret2
      exact ⟨rfl, hB⟩
end Go.Proofs.YtjohnhaahpggkabDoor
