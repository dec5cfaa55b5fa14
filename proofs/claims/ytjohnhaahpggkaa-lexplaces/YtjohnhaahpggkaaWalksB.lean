import Derived.Test.YtjohnhaahpggkaaWalksA
namespace Go.Proofs.Ytjohnhaahpggkaa
open Go.RowKit
set_option linter.unusedVariables false

theorem at_zero (s : ByteArray) : lineAt s 0 = 1 ∧ colAt s 0 = 1 := by unfold lineAt colAt Lib.lastIdx; simp

set_option maxRecDepth 100000 in
set_option maxHeartbeats 1000000 in
theorem refPlace_no (s : ByteArray) (a : Int) (w : World) (hs : s.size < 4611686018427387904) (h : a < 0 ∨ (s.size : Int) < a) :
    Calls Try.prog 5 #[.string s, .int .i64 a] w fun e w' => e = .returned (.agg #[.int .i64 0, .int .i64 0]) ∧ Below w.heap.size w w' := by
  rcases h with h | h
  · go_enter Try.func5, Try.ntmps5
    go_wp2
    exact bodyPost_ret (v := .agg #[.int .i64 0, .int .i64 0]) (by simp [results, Try.results5, go_sem]) rfl ⟨rfl, (Below.refl _ _).alloc (Nat.le_refl _) _⟩
  · have h' : ¬ a < 0 := by omega
    go_enter Try.func5, Try.ntmps5
    go_wp2
    exact bodyPost_ret (v := .agg #[.int .i64 0, .int .i64 0]) (by simp [results, Try.results5, go_sem]) rfl ⟨rfl, (Below.refl _ _).alloc (Nat.le_refl _) _⟩

set_option maxRecDepth 100000 in
set_option maxHeartbeats 1000000 in
theorem refPlace_yes (s : ByteArray) (k : Nat) (w : World) (hs : s.size < 4611686018427387904) (h : k ≤ s.size) :
    Calls Try.prog 5 #[.string s, .int .i64 k] w fun e w' => e = .returned (.agg #[.int .i64 (lineAt s k), .int .i64 (colAt s k)]) ∧ Below w.heap.size w w' := by
  have h1 : ¬ (k : Int) < 0 := by omega
  have h2 : ¬ (s.size : Int) < k := by omega
  have hN := fun w => next_any s 0 k w (Nat.zero_le _) h hs
  rw [(at_zero s).1, (at_zero s).2] at hN
  generalize lineAt s k = L at hN ⊢
  generalize colAt s k = C at hN ⊢
  go_enter Try.func5, Try.ntmps5
  go_wp2_with (go_at_call 10; refine (hN _).mono ?_; rintro e w1 ⟨rfl, hb1⟩; have hX := (Has.new w #[.int .i64 0, .int .i64 0] 23 rfl).below hb1; obtain ⟨x0, X1, x2⟩ := id hX)
  have hY : Has ((w1.setCell ⟨w.heap.size, 0, none⟩ (.int .i64 L)).setCell ⟨w.heap.size, 1, none⟩ (.int .i64 C)) w.heap.size #[.int .i64 L, .int .i64 C] := (hX.set 0 (by simp) _).set 1 (by simp) _
  obtain ⟨y0, Y1, y2⟩ := id hY
  exact bodyPost_ret (v := .agg #[.int .i64 L, .int .i64 C]) (by simp [results, Try.results5, go_sem, Y1]) rfl ⟨rfl, ((((Below.refl _ _).alloc (Nat.le_refl _) _).trans (hb1.mono (by simp))).setCell (by simp) _).setCell (by simp) _⟩
end Go.Proofs.Ytjohnhaahpggkaa
