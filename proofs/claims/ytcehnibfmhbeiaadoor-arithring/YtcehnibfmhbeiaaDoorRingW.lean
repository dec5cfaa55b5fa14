import Derived.Test.YtcehnibfmhbeiaaDoorLaid
import Derived.Test.YtcehnibfmhbeiaaDoorMath
namespace Go.Proofs.YtcehnibfmhbeiaaDoor.arithRing
open Go.RowKit

theorem m_u (a b c : Int) : wrap32 (wrap32 (a + b) + c) = wrap32 (a + wrap32 (b + c)) := by rw [wrap_add_l, wrap_add_r, Int.add_assoc]
theorem m_x (a b c : Int) : wrap32 (wrap32 (a * b) * c) = wrap32 (a * wrap32 (b * c)) := by rw [wrap_mul_l, wrap_mul_r, Int.mul_assoc]
theorem m_y (a b c : Int) : wrap32 (a * wrap32 (b + c)) = wrap32 (wrap32 (a * b) + wrap32 (a * c)) := by rw [wrap_mul_r, wrap_add_l, wrap_add_r, Int.mul_add]
theorem m_a (a b : Int) (h1 : -2147483648 ≤ a) (h2 : a ≤ 2147483647) : wrap32 (wrap32 (a + b) - b) = a := by rw [wrap_sub_l, Int.add_sub_cancel, wrap_of a h1 h2]
theorem m_0 (a : Int) (h1 : -2147483648 ≤ a) (h2 : a ≤ 2147483647) : wrap32 (a + 0) = a := by rw [Int.add_zero, wrap_of a h1 h2]
theorem m_1 (a : Int) (h1 : -2147483648 ≤ a) (h2 : a ≤ 2147483647) : wrap32 (a * 1) = a := by rw [Int.mul_one, wrap_of a h1 h2]
theorem m_n (a : Int) : wrap32 (a + wrap32 (-a)) = 0 := by rw [wrap_add_r, Int.add_right_neg]; exact wrap_of 0 (by decide) (by decide)

set_option maxRecDepth 100000 in
set_option maxHeartbeats 2000000 in
theorem walks (a b c : Int) (w0 w : World) (hA : St w0 w) (ha1 : -2147483648 ≤ a) (ha2 : a ≤ 2147483647) :
    Calls Tryd.prog 4 #[.int .i32 a, .int .i32 b, .int .i32 c] w fun e w' => e = .returned (.bool true) ∧ St w0 w' := by
  have hu := m_u a b c
  have hx := m_x a b c
  have hy := m_y a b c
  have ea := m_a a b ha1 ha2
  have e0 := m_0 a ha1 ha2
  have e1 := m_1 a ha1 ha2
  have en := m_n a
  generalize es : wrap32 (a + b) = s at hu hx hy ea
  generalize et : wrap32 (b + c) = t at hu hx hy
  generalize eu2 : wrap32 (a + t) = u at hu
  generalize ep : wrap32 (a * b) = p at hx hy
  generalize eq : wrap32 (b * c) = q at hx
  generalize ev : wrap32 (a * c) = v at hy
  generalize ex2 : wrap32 (a * q) = x at hx
  generalize ey2 : wrap32 (p + v) = y at hy
  generalize eg : wrap32 (-a) = n at en
  have eu := hu
  have ex := hx
  have ey := hy
  have k0 : ∀ w, St w0 w → Calls Tryd.prog 9 #[.int .i64 20, .int .i32 a] w fun e w' => e = .returned (.tuple #[.int .i32 n, .int .i64 0]) ∧ St w0 w' := by
    intro w h
    have := unary_20 a w0 w h
    rw [eg] at this
    exact this
  have k1 : ∀ w, St w0 w → Calls Tryd.prog 8 #[.int .i64 30, .int .i32 a, .int .i32 b] w fun e w' => e = .returned (.tuple #[.int .i32 s, .bool true]) ∧ St w0 w' := by
    intro w h
    have := bin_30 a b w0 w h
    rw [es] at this
    exact this
  have k2 : ∀ w, St w0 w → Calls Tryd.prog 8 #[.int .i64 30, .int .i32 b, .int .i32 a] w fun e w' => e = .returned (.tuple #[.int .i32 s, .bool true]) ∧ St w0 w' := by
    intro w h
    have := bin_30 b a w0 w h
    rw [Int.add_comm, es] at this
    exact this
  have k3 : ∀ w, St w0 w → Calls Tryd.prog 8 #[.int .i64 30, .int .i32 b, .int .i32 c] w fun e w' => e = .returned (.tuple #[.int .i32 t, .bool true]) ∧ St w0 w' := by
    intro w h
    have := bin_30 b c w0 w h
    rw [et] at this
    exact this
  have k4 : ∀ w, St w0 w → Calls Tryd.prog 8 #[.int .i64 30, .int .i32 s, .int .i32 c] w fun e w' => e = .returned (.tuple #[.int .i32 u, .bool true]) ∧ St w0 w' := by
    intro w h
    have := bin_30 s c w0 w h
    rw [eu] at this
    exact this
  have k5 : ∀ w, St w0 w → Calls Tryd.prog 8 #[.int .i64 30, .int .i32 a, .int .i32 t] w fun e w' => e = .returned (.tuple #[.int .i32 u, .bool true]) ∧ St w0 w' := by
    intro w h
    have := bin_30 a t w0 w h
    rw [eu2] at this
    exact this
  have k6 : ∀ w, St w0 w → Calls Tryd.prog 8 #[.int .i64 32, .int .i32 a, .int .i32 b] w fun e w' => e = .returned (.tuple #[.int .i32 p, .bool true]) ∧ St w0 w' := by
    intro w h
    have := bin_32 a b w0 w h
    rw [ep] at this
    exact this
  have k7 : ∀ w, St w0 w → Calls Tryd.prog 8 #[.int .i64 32, .int .i32 b, .int .i32 a] w fun e w' => e = .returned (.tuple #[.int .i32 p, .bool true]) ∧ St w0 w' := by
    intro w h
    have := bin_32 b a w0 w h
    rw [Int.mul_comm, ep] at this
    exact this
  have k8 : ∀ w, St w0 w → Calls Tryd.prog 8 #[.int .i64 32, .int .i32 b, .int .i32 c] w fun e w' => e = .returned (.tuple #[.int .i32 q, .bool true]) ∧ St w0 w' := by
    intro w h
    have := bin_32 b c w0 w h
    rw [eq] at this
    exact this
  have k9 : ∀ w, St w0 w → Calls Tryd.prog 8 #[.int .i64 32, .int .i32 a, .int .i32 c] w fun e w' => e = .returned (.tuple #[.int .i32 v, .bool true]) ∧ St w0 w' := by
    intro w h
    have := bin_32 a c w0 w h
    rw [ev] at this
    exact this
  have k10 : ∀ w, St w0 w → Calls Tryd.prog 8 #[.int .i64 32, .int .i32 p, .int .i32 c] w fun e w' => e = .returned (.tuple #[.int .i32 x, .bool true]) ∧ St w0 w' := by
    intro w h
    have := bin_32 p c w0 w h
    rw [ex] at this
    exact this
  have k11 : ∀ w, St w0 w → Calls Tryd.prog 8 #[.int .i64 32, .int .i32 a, .int .i32 q] w fun e w' => e = .returned (.tuple #[.int .i32 x, .bool true]) ∧ St w0 w' := by
    intro w h
    have := bin_32 a q w0 w h
    rw [ex2] at this
    exact this
  have k12 : ∀ w, St w0 w → Calls Tryd.prog 8 #[.int .i64 32, .int .i32 a, .int .i32 t] w fun e w' => e = .returned (.tuple #[.int .i32 y, .bool true]) ∧ St w0 w' := by
    intro w h
    have := bin_32 a t w0 w h
    rw [ey] at this
    exact this
  have k13 : ∀ w, St w0 w → Calls Tryd.prog 8 #[.int .i64 30, .int .i32 p, .int .i32 v] w fun e w' => e = .returned (.tuple #[.int .i32 y, .bool true]) ∧ St w0 w' := by
    intro w h
    have := bin_30 p v w0 w h
    rw [ey2] at this
    exact this
  have k14 : ∀ w, St w0 w → Calls Tryd.prog 8 #[.int .i64 31, .int .i32 s, .int .i32 b] w fun e w' => e = .returned (.tuple #[.int .i32 a, .bool true]) ∧ St w0 w' := by
    intro w h
    have := bin_31 s b w0 w h
    rw [ea] at this
    exact this
  have k15 : ∀ w, St w0 w → Calls Tryd.prog 8 #[.int .i64 30, .int .i32 a, .int .i32 0] w fun e w' => e = .returned (.tuple #[.int .i32 a, .bool true]) ∧ St w0 w' := by
    intro w h
    have := bin_30 a 0 w0 w h
    rw [e0] at this
    exact this
  have k16 : ∀ w, St w0 w → Calls Tryd.prog 8 #[.int .i64 32, .int .i32 a, .int .i32 1] w fun e w' => e = .returned (.tuple #[.int .i32 a, .bool true]) ∧ St w0 w' := by
    intro w h
    have := bin_32 a 1 w0 w h
    rw [e1] at this
    exact this
  have k17 : ∀ w, St w0 w → Calls Tryd.prog 8 #[.int .i64 30, .int .i32 a, .int .i32 n] w fun e w' => e = .returned (.tuple #[.int .i32 0, .bool true]) ∧ St w0 w' := by
    intro w h
    have := bin_30 a n w0 w h
    rw [en] at this
    exact this
  clear es et eu2 ep eq ev ex2 ey2 eg eu ex ey hu hx hy ea e0 e1 en ha1 ha2
  go_enter Tryd.func4, Tryd.ntmps4
  go_wp2_with (first | (go_at_call 9; with_reducible refine (k0 _ (by assumption)).mono ?_; rintro e w' ⟨rfl, hs⟩) | (go_at_call 8; first | (with_reducible refine (k1 _ (by assumption)).mono ?_; rintro e w' ⟨rfl, hs⟩) | (with_reducible refine (k2 _ (by assumption)).mono ?_; rintro e w' ⟨rfl, hs⟩) | (with_reducible refine (k3 _ (by assumption)).mono ?_; rintro e w' ⟨rfl, hs⟩) | (with_reducible refine (k4 _ (by assumption)).mono ?_; rintro e w' ⟨rfl, hs⟩) | (with_reducible refine (k5 _ (by assumption)).mono ?_; rintro e w' ⟨rfl, hs⟩) | (with_reducible refine (k6 _ (by assumption)).mono ?_; rintro e w' ⟨rfl, hs⟩) | (with_reducible refine (k7 _ (by assumption)).mono ?_; rintro e w' ⟨rfl, hs⟩) | (with_reducible refine (k8 _ (by assumption)).mono ?_; rintro e w' ⟨rfl, hs⟩) | (with_reducible refine (k9 _ (by assumption)).mono ?_; rintro e w' ⟨rfl, hs⟩) | (with_reducible refine (k10 _ (by assumption)).mono ?_; rintro e w' ⟨rfl, hs⟩) | (with_reducible refine (k11 _ (by assumption)).mono ?_; rintro e w' ⟨rfl, hs⟩) | (with_reducible refine (k12 _ (by assumption)).mono ?_; rintro e w' ⟨rfl, hs⟩) | (with_reducible refine (k13 _ (by assumption)).mono ?_; rintro e w' ⟨rfl, hs⟩) | (with_reducible refine (k14 _ (by assumption)).mono ?_; rintro e w' ⟨rfl, hs⟩) | (with_reducible refine (k15 _ (by assumption)).mono ?_; rintro e w' ⟨rfl, hs⟩) | (with_reducible refine (k16 _ (by assumption)).mono ?_; rintro e w' ⟨rfl, hs⟩) | (with_reducible refine (k17 _ (by assumption)).mono ?_; rintro e w' ⟨rfl, hs⟩)))
  go_ret
  exact ⟨rfl, by assumption⟩

theorem walk (a b c : Int) (w0 : (Lit.int .i32 a).wf = true) (_w1 : (Lit.int .i32 b).wf = true) (_w2 : (Lit.int .i32 c).wf = true) (w : World) (hok : ArOk w) :
    Calls Tryd.prog 4 #[.int .i32 a, .int .i32 b, .int .i32 c] w fun e w' => e = .returned (.bool true) ∧ Grown w w' := by
  have ha := bounds_i32 w0
  exact (walks a b c w w ⟨hok, Grown.refl _⟩ (by omega) (by omega)).mono fun _ _ h => ⟨h.1, h.2.2⟩
end Go.Proofs.YtcehnibfmhbeiaaDoor.arithRing
