import Derived.Test.YtjohnhaahpggkabDoorWrdC
namespace Go.Proofs.YtjohnhaahpggkabDoor
open Go.RowKit
set_option linter.unusedVariables false

/-- Five cells of a new token. -/
def zTok : Array Value := #[.int .i64 0, .int .i32 0, .string ⟨#[]⟩, .int .i64 0, .int .i64 0]

theorem numE_bd (R : Option Nat) : 0 ≤ numE R ∧ numE R ≤ 23 := by
  unfold numE; cases R with
  | none => simp
  | some v => simp only; split <;> omega

set_option maxRecDepth 100000 in
set_option maxHeartbeats 1000000 in
theorem numberToken_any (s : ByteArray) (w : World) (hs : s.size < 4611686018427387904) :
    Calls Tryd.prog 47 #[.string s] w fun e w' => e = .returned (tokV (numTk s.data.toList) 0 0) ∧ Below w.heap.size w w' := by
  have hN := fun w => number_any s w hs
  have hbd := numE_bd (numOf s.data.toList)
  unfold numA at hN
  by_cases hE : numE (numOf s.data.toList) = 0
  · have e : numTk s.data.toList = ⟨2, numV (numOf s.data.toList), []⟩ := by unfold numTk; rw [if_pos hE]
    rw [e, tokV_eq, bs_nil]
    rw [hE] at hN
    clear e
    generalize numV (numOf s.data.toList) = V at *
    go_enter Tryd.func47, Tryd.ntmps47
    go_wp2_with (go_at_call 54; (with_reducible refine (hN _).mono ?_); rintro e w1 ⟨rfl, hb1⟩; have hX := (Has.new w #[.int .i64 0, .int .i32 0, .string ⟨#[]⟩, .int .i64 0, .int .i64 0] 27 rfl).below hb1; obtain ⟨x0, X1, x2⟩ := id hX)
    obtain ⟨y0, Y1, y2⟩ := hX.set5 (.int .i64 2) (.int .i32 V) (.string ⟨#[]⟩) (.int .i64 0) (.int .i64 0)
    exact bodyPost_ret (v := .agg #[.int .i64 2, .int .i32 V, .string ⟨#[]⟩, .int .i64 0, .int .i64 0]) (by simp [results, Tryd.results47, go_sem, Y1]) rfl ⟨rfl, bel5 (((Below.refl _ _).alloc (Nat.le_refl _) _).trans (hb1.mono (by simp))) (Nat.le_refl _) _ _ _ _ _⟩
  · have e : numTk s.data.toList = ⟨-1, numE (numOf s.data.toList), []⟩ := by unfold numTk; rw [if_neg hE]
    have hBt := fun w => badToken_any (numE (numOf s.data.toList)) w hbd.1 (by omega)
    rw [e]
    rw [tokV_eq, bs_nil] at hBt ⊢
    clear e
    generalize numV (numOf s.data.toList) = V at *
    generalize numE (numOf s.data.toList) = E at *
    go_enter Tryd.func47, Tryd.ntmps47
    go_wp2_with (first
      | (go_at_call 54; (with_reducible refine (hN _).mono ?_); rintro e w1 ⟨rfl, hb1⟩; have hX := (Has.new w #[.int .i64 0, .int .i32 0, .string ⟨#[]⟩, .int .i64 0, .int .i64 0] 27 rfl).below hb1)
      | (go_at_call 30; (with_reducible refine (hBt _).mono ?_); rintro e w2 ⟨rfl, hb2⟩; have hX2 := hX.below hb2; obtain ⟨x0, X1, x2⟩ := id hX2))
    obtain ⟨y0, Y1, y2⟩ := hX2.set5 (.int .i64 (-1)) (.int .i32 E) (.string ⟨#[]⟩) (.int .i64 0) (.int .i64 0)
    exact bodyPost_ret (v := .agg #[.int .i64 (-1), .int .i32 E, .string ⟨#[]⟩, .int .i64 0, .int .i64 0]) (by simp [results, Tryd.results47, go_sem, Y1]) rfl ⟨rfl, bel5 ((((Below.refl _ _).alloc (Nat.le_refl _) _).trans (hb1.mono (by simp))).trans (hb2.mono (by have := hb1.size; simp at this; omega))) (Nat.le_refl _) _ _ _ _ _⟩

theorem take_extract (s : ByteArray) (n : Nat) : (s.extract 0 n).data.toList = s.data.toList.take n := by rw [Lib.extract_data]; simp

set_option maxRecDepth 100000 in
set_option maxHeartbeats 2000000 in
theorem signToken_any (s : ByteArray) (w : World) (hs : s.size < 4611686018427387904) (hne : 0 < s.size) (hW : Wt w) :
    Calls Tryd.prog 48 #[.string s] w fun e w' => e = .returned (.tuple #[tokV (signTk s.data.toList).1 0 0, .int .i64 ((signTk s.data.toList).2 : Nat)]) ∧ Below w.heap.size w w' := by
  have hsl : s.data.toList.length = s.size := by simp
  have h2 := fun w (h : Wt w) => kindAmong_sg (s.extract 0 2) w h
  have h1 := fun w (h : Wt w) => kindAmong_sg (s.extract 0 1) w h
  have hBt := fun w => badToken_any 21 w (by omega) (by omega)
  rw [tokV_eq, bs_nil] at hBt
  rw [take_extract] at h2 h1
  have hWa := hW.below ((Below.refl w.heap.size w).alloc (Nat.le_refl _) (.cells #[.int .i64 0, .int .i32 0, .string ⟨#[]⟩, .int .i64 0, .int .i64 0] 27)) hW.1
  have g2 := h2 _ hWa
  have g1 := h1 _ hWa
  clear h1 h2
  have hS : signTk s.data.toList = if 2 ≤ s.size ∧ sgK (s.data.toList.take 2) ≠ -1 then (⟨sgK (s.data.toList.take 2), 0, []⟩, 2) else if sgK (s.data.toList.take 1) ≠ -1 then (⟨sgK (s.data.toList.take 1), 0, []⟩, 1) else (⟨-1, 21, []⟩, 0) := by
    unfold signTk; rw [hsl]
  generalize signTk s.data.toList = R at hS ⊢
  generalize sgK (s.data.toList.take 2) = K2 at g2 hS
  generalize sgK (s.data.toList.take 1) = K1 at g1 hS
  have HS : Hid (R = if 2 ≤ s.size ∧ K2 ≠ -1 then (⟨K2, 0, []⟩, 2) else if K1 ≠ -1 then (⟨K1, 0, []⟩, 1) else (⟨-1, 21, []⟩, 0)) := hS
  clear hS hsl hW hWa
  go_enter Tryd.func48, Tryd.ntmps48
  go_wp2
  go_loop [4] (fun tq => ∃ Q : Int, tq = .int .i64 Q ∧ (Q = 2 ∧ 2 ≤ s.size ∨ Q = 1 ∧ ¬ (2 ≤ s.size ∧ K2 ≠ -1) ∨ Q = 0 ∧ ¬ (2 ≤ s.size ∧ K2 ≠ -1) ∧ K1 = -1)) (fun tq => (intOf tq).toNat)
  case atStart =>
    refine ⟨_, rfl, ?_⟩
    rcases Nat.lt_or_ge s.size 2 with h | h
    · right; left; exact ⟨by omega, by omega⟩
    · left; exact ⟨by omega, h⟩
  case round =>
    obtain ⟨Q, rfl, hQ⟩ := hrel
    rcases hQ with ⟨rfl, hq⟩ | ⟨rfl, hq⟩ | ⟨rfl, hq, hq1⟩
    · have hq' : (2 : Int) ≤ (s.size : Int) := by omega
      by_cases hk2 : K2 = -1
      · have HN : Hid (¬ (2 ≤ s.size ∧ K2 ≠ -1)) := by intro h; exact h.2 hk2
        have g2' := g2
        rw [hk2] at g2'
        clear hk2
        go_wp2_with (go_at_call 53; (with_reducible refine g2'.mono ?_); rintro e w1 ⟨rfl, hwe⟩; subst hwe)
        go_round
        case rel => exact ⟨1, by go_num, .inr (.inl ⟨rfl, HN.out⟩)⟩
        case measure => simp [intOf]
      · have HR : Hid (R = (⟨K2, 0, []⟩, 2)) := by
          show _ = _
          rw [HS.out, if_pos ⟨hq, hk2⟩]
        go_wp2_with (go_at_call 53; (with_reducible refine g2.mono ?_); rintro e w1 ⟨rfl, hwe⟩; subst hwe)
        rw [HR.out, tokV_eq, bs_nil]
        exact bodyPost_ret (v := .tuple #[.agg #[.int .i64 K2, .int .i32 0, .string ⟨#[]⟩, .int .i64 0, .int .i64 0], .int .i64 2]) (by simp [results, Tryd.results48, go_sem]) rfl ⟨rfl, (Below.refl _ _).alloc (Nat.le_refl _) _⟩
    · have hq' : (1 : Int) ≤ (s.size : Int) := by omega
      by_cases hk1 : K1 = -1
      · have HN : Hid (¬ (2 ≤ s.size ∧ K2 ≠ -1) ∧ K1 = -1) := ⟨hq, hk1⟩
        have g1' := g1
        rw [hk1] at g1'
        clear hk1 hq
        go_wp2_with (go_at_call 53; (with_reducible refine g1'.mono ?_); rintro e w1 ⟨rfl, hwe⟩; subst hwe)
        go_round
        case rel => exact ⟨0, by go_num, .inr (.inr ⟨rfl, HN.out⟩)⟩
        case measure => simp [intOf]
      · have HR : Hid (R = (⟨K1, 0, []⟩, 1)) := by
          show _ = _
          rw [HS.out, if_neg hq, if_pos hk1]
        clear hq
        go_wp2_with (go_at_call 53; (with_reducible refine g1.mono ?_); rintro e w1 ⟨rfl, hwe⟩; subst hwe)
        rw [HR.out, tokV_eq, bs_nil]
        exact bodyPost_ret (v := .tuple #[.agg #[.int .i64 K1, .int .i32 0, .string ⟨#[]⟩, .int .i64 0, .int .i64 0], .int .i64 1]) (by simp [results, Tryd.results48, go_sem]) rfl ⟨rfl, (Below.refl _ _).alloc (Nat.le_refl _) _⟩
    · have HR : Hid (R = (⟨-1, 21, []⟩, 0)) := by
        show _ = _
        rw [HS.out, if_neg hq, if_neg (by simp [hq1])]
      clear hq hq1
      go_wp2_with (go_at_call 30; (with_reducible refine (hBt _).mono ?_); rintro e w2 ⟨rfl, hb2⟩; have hX2 := (Has.new w #[.int .i64 0, .int .i32 0, .string ⟨#[]⟩, .int .i64 0, .int .i64 0] 27 rfl).below hb2; obtain ⟨x0, X1, x2⟩ := id hX2)
      obtain ⟨y0, Y1, y2⟩ := hX2.set5 (.int .i64 (-1)) (.int .i32 21) (.string ⟨#[]⟩) (.int .i64 0) (.int .i64 0)
      rw [HR.out, tokV_eq, bs_nil]
      exact bodyPost_ret (v := .tuple #[.agg #[.int .i64 (-1), .int .i32 21, .string ⟨#[]⟩, .int .i64 0, .int .i64 0], .int .i64 0]) (by simp [results, Tryd.results48, go_sem, Y1]) rfl ⟨rfl, bel5 (((Below.refl _ _).alloc (Nat.le_refl _) _).trans (hb2.mono (by simp))) (Nat.le_refl _) _ _ _ _ _⟩
end Go.Proofs.YtjohnhaahpggkabDoor
