import Derived.Test.YtddphepgcihdbaaTfA
import Derived.Test.YtddphepgcihdbaaTmM
import Derived.Laws.IdiomStrings
import Derived.WideShapes
namespace Go.Proofs.Ytddphepgcihdbaa
open Go.RowKit
set_option linter.unusedVariables false
set_option linter.unusedSimpArgs false

/-- Two digits. -/
def twB (m : Nat) : ByteArray := ⟨#[UInt8.ofNat (48 + m / 10), UInt8.ofNat (48 + m % 10)]⟩
theorem tw_size (m : Nat) : (twB m).size = 2 := rfl
theorem byteN (m : Nat) (h : m < 256) : (UInt8.ofNat m).toNat = m := UInt8.toNat_ofNat_of_lt' (by show _ < 256; omega)
theorem conv_two (m : Nat) (hm : m ≤ 99) (w : World) : (convert 93 9 (.slice (some ⟨w.heap.size, 0, none⟩) 2 2)).run Try.prog (w.alloc (.cells #[.int .u8 (48 + (m : Int) / 10), .int .u8 (48 + (m : Int) % 10)] 5)) =
    .ok (.string (twB m)) (w.alloc (.cells #[.int .u8 (48 + (m : Int) / 10), .int .u8 (48 + (m : Int) % 10)] 5)) := by
  refine run_convert_bytes_back (w.alloc (.cells #[.int .u8 (48 + (m : Int) / 10), .int .u8 (48 + (m : Int) % 10)] 5)) 93 9 5 ⟨w.heap.size, 0, none⟩ 2 [UInt8.ofNat (48 + m / 10), UInt8.ofNat (48 + m % 10)] Try.underlying93 Try.underlying5 Try.underlying9 ?_
  intro j hj
  have hj2 : j = 0 ∨ j = 1 := by simp at hj; omega
  rcases hj2 with rfl | rfl
  · rw [show (⟨w.heap.size, 0, none⟩ : Addr).add 0 = ⟨w.heap.size, 0, none⟩ from rfl, World.cell?_alloc_new]
    show some _ = some (Value.int .u8 ((UInt8.ofNat (48 + m / 10)).toNat : Int))
    rw [byteN _ (by omega)]
    congr 2
  · rw [show (⟨w.heap.size, 0, none⟩ : Addr).add 1 = ⟨w.heap.size, 1, none⟩ from rfl, World.cell?_alloc_new]
    show some _ = some (Value.int .u8 ((UInt8.ofNat (48 + m % 10)).toNat : Int))
    rw [byteN _ (by omega)]
    congr 2
set_option maxRecDepth 100000 in
set_option maxHeartbeats 4000000 in
theorem two_any (m : Nat) (w : World) (h1 : m ≤ 99) : Calls Try.prog 26 #[.int .i64 (m : Int)] w fun e w' => e = .returned (.string (twB m)) ∧ Below w.heap.size w w' := by
  have hcv := conv_two m h1 w
  have h0 : (0 : Int) ≤ (m : Int) := by omega
  have h2 : (m : Int) ≤ 99 := by omega
  go_enter Try.func26, Try.ntmps26
  go_wp2
  go_ret
  exact ⟨rfl, (Below.refl _ _).alloc (Nat.le_refl _) _⟩
set_option maxRecDepth 100000 in
set_option maxHeartbeats 4000000 in
theorem two_len (n : Int) (w : World) (h0 : 0 ≤ n) (h1 : n ≤ 99) : Calls Try.prog 26 #[.int .i64 n] w fun e w' => (∃ s : ByteArray, e = .returned (.string s) ∧ s.size = 2) ∧ Below w.heap.size w w' := by
  obtain ⟨m, rfl⟩ : ∃ m : Nat, n = (m : Int) := ⟨n.toNat, by omega⟩
  exact (two_any m w (by omega)).mono fun e w' h => ⟨⟨_, h.1, rfl⟩, h.2⟩
set_option maxRecDepth 100000 in
set_option maxHeartbeats 4000000 in
theorem clock_any (n : Int) (w : World) (h0 : 0 ≤ n) (h1 : n ≤ 1439) : Calls Try.prog 15 #[.int .i64 n] w fun e w' => (∃ s : ByteArray, e = .returned (.string s) ∧ s.size = 5) ∧ Below w.heap.size w w' := by
  have a0 : 0 ≤ n / 60 := by omega
  have a1 : n / 60 ≤ 99 := by omega
  have b0 : 0 ≤ n % 60 := by omega
  have b1 : n % 60 ≤ 99 := by omega
  have k1 := fun W => two_len (n / 60) W a0 a1
  have k2 := fun W => two_len (n % 60) W b0 b1
  go_enter Try.func15, Try.ntmps15
  go_wp2_with (go_at_call 26; first | ((with_reducible refine (k1 _).mono ?_); rintro e w1 ⟨⟨s1, rfl, z1⟩, hb1⟩) | ((with_reducible refine (k2 _).mono ?_); rintro e w2 ⟨⟨s2, rfl, z2⟩, hb2⟩))
  go_ret
  exact ⟨⟨_, rfl, by simp [ByteArray.size_append, z1, z2]; rfl⟩, belT hb1 hb2⟩
set_option maxRecDepth 100000 in
set_option maxHeartbeats 4000000 in
theorem dec_small (n : Int) (w : World) (h0 : 0 ≤ n) (h1 : n ≤ 99) : Calls Try.prog 16 #[.int .i64 n] w fun e w' => (∃ s : ByteArray, e = .returned (.string s) ∧ s.size ≤ 2) ∧ Below w.heap.size w w' := by
  have k1 := fun W => two_len n W h0 h1
  by_cases a : n < 10
  · go_enter Try.func16, Try.ntmps16
    go_wp2_with (go_at_call 26; (with_reducible refine (k1 _).mono ?_); rintro e w1 ⟨⟨s1, rfl, z1⟩, hb1⟩)
    go_ret
    exact ⟨⟨_, rfl, by simp [z1]⟩, hb1⟩
  · go_enter Try.func16, Try.ntmps16
    go_wp2_with (go_at_call 26; (with_reducible refine (k1 _).mono ?_); rintro e w1 ⟨⟨s1, rfl, z1⟩, hb1⟩)
    go_ret
    exact ⟨⟨_, rfl, by omega⟩, hb1⟩
set_option maxRecDepth 100000 in
set_option maxHeartbeats 4000000 in
theorem dec_any (n : Int) (w : World) (h0 : 0 ≤ n) (h1 : n ≤ 999) : Calls Try.prog 16 #[.int .i64 n] w fun e w' => (∃ s : ByteArray, e = .returned (.string s) ∧ s.size ≤ 4) ∧ Below w.heap.size w w' := by
  by_cases a : n < 100
  · exact (dec_small n w h0 (by omega)).mono fun e w' h => by
      obtain ⟨⟨s, e1, e2⟩, e3⟩ := h
      exact ⟨⟨s, e1, by omega⟩, e3⟩
  · have a9 : ¬ n < 10 := by omega
    have a0 : 0 ≤ n / 100 := by omega
    have a1 : n / 100 ≤ 99 := by omega
    have b0 : 0 ≤ n % 100 := by omega
    have b1 : n % 100 ≤ 99 := by omega
    have k1 := fun W => dec_small (n / 100) W a0 a1
    have k2 := fun W => two_len (n % 100) W b0 b1
    go_enter Try.func16, Try.ntmps16
    go_wp2_with (first | (go_at_call 16; (with_reducible refine (k1 _).mono ?_); rintro e w1 ⟨⟨s1, rfl, z1⟩, hb1⟩) | (go_at_call 26; (with_reducible refine (k2 _).mono ?_); rintro e w2 ⟨⟨s2, rfl, z2⟩, hb2⟩))
    go_ret
    exact ⟨⟨_, rfl, by simp [ByteArray.size_append]; omega⟩, belT hb1 hb2⟩
/-- The name of a made kind. -/
def nmF (k : Nat) : ByteArray := match k with
  | 0 => ⟨#[100, 97, 121]⟩
  | 1 => ⟨#[97, 116]⟩
  | 2 => ⟨#[102, 108, 97, 115, 104]⟩
  | 3 => ⟨#[87, 101, 101, 107, 45, 101, 110, 100, 95, 57]⟩
  | 4 => ⟨#[111, 110]⟩
  | 5 => ⟨#[115, 108, 111, 116]⟩
  | n => ⟨#[107, 105, 110, 100, 45]⟩ ++ twB n
set_option maxRecDepth 100000 in
set_option maxHeartbeats 4000000 in
theorem name_any (k : Nat) (hk : k < 8) (w : World) : Calls Try.prog 14 #[.int .i64 (k : Int)] w fun e w' => e = .returned (.string (nmF k)) ∧ Below w.heap.size w w' := by
  have k1 : ∀ W, Calls Try.prog 26 #[.int .i64 6] W fun e w' => e = .returned (.string (twB 6)) ∧ Below W.heap.size W w' := fun W => two_any 6 W (by omega)
  have k2 : ∀ W, Calls Try.prog 26 #[.int .i64 7] W fun e w' => e = .returned (.string (twB 7)) ∧ Below W.heap.size W w' := fun W => two_any 7 W (by omega)
  have hk' : k = 0 ∨ k = 1 ∨ k = 2 ∨ k = 3 ∨ k = 4 ∨ k = 5 ∨ k = 6 ∨ k = 7 := by omega
  clear hk
  rcases hk' with rfl | rfl | rfl | rfl | rfl | rfl | rfl | rfl
  case inr.inr.inr.inr.inr.inr.inl =>
    go_enter Try.func14, Try.ntmps14
    go_wp2_with (go_at_call 26; (with_reducible refine (k1 _).mono ?_); rintro e w1 ⟨rfl, hb1⟩)
    go_ret
    exact ⟨rfl, bel_after ((Below.refl _ _).alloc (Nat.le_refl _) _) (by simp) hb1⟩
  case inr.inr.inr.inr.inr.inr.inr =>
    go_enter Try.func14, Try.ntmps14
    go_wp2_with (go_at_call 26; (with_reducible refine (k2 _).mono ?_); rintro e w1 ⟨rfl, hb1⟩)
    go_ret
    exact ⟨rfl, bel_after ((Below.refl _ _).alloc (Nat.le_refl _) _) (by simp) hb1⟩
  all_goals
    go_enter Try.func14, Try.ntmps14
    go_wp2
    go_ret
    exact ⟨rfl, (Below.refl _ _).alloc (Nat.le_refl _) _⟩
set_option maxRecDepth 100000 in
set_option maxHeartbeats 4000000 in
theorem month_any (y m : Int) (w : World) (h0 : 0 ≤ y) (h1 : y ≤ 3000) (h2 : 1 ≤ m) (h3 : m ≤ 12) : Calls Try.prog 25 #[.int .i64 y, .int .i64 m] w fun e w' => (∃ r : Int, e = .returned (.int .i64 r) ∧ r = md y m) ∧ Below w.heap.size w w' := by
  obtain ⟨k, rfl⟩ : ∃ k : Nat, m = (k : Int) := ⟨m.toNat, by omega⟩
  have hk : k = 1 ∨ k = 2 ∨ k = 3 ∨ k = 4 ∨ k = 5 ∨ k = 6 ∨ k = 7 ∨ k = 8 ∨ k = 9 ∨ k = 10 ∨ k = 11 ∨ k = 12 := by omega
  clear h2 h3
  rcases hk with rfl | rfl | rfl | rfl | rfl | rfl | rfl | rfl | rfl | rfl | rfl | rfl
  case inr.inl =>
    by_cases a : y % 4 = 0
    · by_cases b : y % 100 = 0
      · by_cases c : y % 400 = 0
        · go_enter Try.func25, Try.ntmps25
          go_wp2
          go_ret
          exact ⟨⟨_, rfl, by first | rfl | (simp [md, lp, *]; done) | (simp [md, lp, *]; omega)⟩, bel1⟩
        · go_enter Try.func25, Try.ntmps25
          go_wp2
          go_ret
          exact ⟨⟨_, rfl, by first | rfl | (simp [md, lp, *]; done) | (simp [md, lp, *]; omega)⟩, bel1⟩
      · go_enter Try.func25, Try.ntmps25
        go_wp2
        go_ret
        exact ⟨⟨_, rfl, by first | rfl | (simp [md, lp, *]; done) | (simp [md, lp, *]; omega)⟩, bel1⟩
    · go_enter Try.func25, Try.ntmps25
      go_wp2
      go_ret
      exact ⟨⟨_, rfl, by first | rfl | (simp [md, lp, *]; done) | (simp [md, lp, *]; omega)⟩, bel1⟩
  all_goals
    go_enter Try.func25, Try.ntmps25
    go_wp2
    go_ret
    exact ⟨⟨_, rfl, by first | rfl | (simp [md, lp, *]; done) | (simp [md, lp, *]; omega)⟩, bel1⟩
end Go.Proofs.Ytddphepgcihdbaa
