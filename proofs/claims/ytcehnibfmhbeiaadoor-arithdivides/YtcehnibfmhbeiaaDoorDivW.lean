import Derived.Test.YtcehnibfmhbeiaaDoorLaid
import Derived.Test.YtcehnibfmhbeiaaDoorMath
namespace Go.Proofs.YtcehnibfmhbeiaaDoor.arithDivides
open Go.RowKit

set_option maxHeartbeats 1000000 in
theorem walkz (a : Int) (w0 w : World) (hA : St w0 w) :
    Calls Tryd.prog 3 #[.int .i32 a, .int .i32 0] w fun e w' => e = .returned (.bool true) ∧ St w0 w' := by
  have hz : ((0 : Int) == 0) = true := rfl
  go_enter Tryd.func3, Tryd.ntmps3
  go_wp2_with (go_at_call 8; first | (with_reducible refine (bin_33z _ _ w0 _ (by assumption) hz).mono ?_; rintro e w' ⟨rfl, hs⟩) | (with_reducible refine (bin_34z _ _ w0 _ (by assumption) hz).mono ?_; rintro e w' ⟨rfl, hs⟩))
  go_ret
  exact ⟨rfl, by assumption⟩

set_option maxHeartbeats 1000000 in
theorem walkn (a b : Int) (w0 w : World) (hA : St w0 w) (ha1 : -2147483648 ≤ a) (ha2 : a ≤ 2147483647) (hb1 : -2147483648 ≤ b) (hb2 : b ≤ 2147483647) (hn : b ≠ 0) :
    Calls Tryd.prog 3 #[.int .i32 a, .int .i32 b] w fun e w' => e = .returned (.bool true) ∧ St w0 w' := by
  have hz : (b == 0) = false := by simpa using hn
  have h1 := div_back a b ha1 ha2
  have h2 := tmod_bd a b hn
  have h3 := tmod_sg a b
  generalize hq : wrap32 (a.tdiv b) = q at h1
  generalize hr : a.tmod b = r at h1 h2 h3
  generalize hp : wrap32 (q * b) = p at h1
  have b33 : ∀ w, St w0 w → Calls Tryd.prog 8 #[.int .i64 33, .int .i32 a, .int .i32 b] w fun e w' => e = .returned (.tuple #[.int .i32 q, .bool true]) ∧ St w0 w' := by
    intro w h; have := bin_33 a b w0 w h hz hn; rw [hq] at this; exact this
  have b34 : ∀ w, St w0 w → Calls Tryd.prog 8 #[.int .i64 34, .int .i32 a, .int .i32 b] w fun e w' => e = .returned (.tuple #[.int .i32 r, .bool true]) ∧ St w0 w' := by
    intro w h; have := bin_34 a b w0 w h hz hn; rw [hr] at this; exact this
  have b32 : ∀ w, St w0 w → Calls Tryd.prog 8 #[.int .i64 32, .int .i32 q, .int .i32 b] w fun e w' => e = .returned (.tuple #[.int .i32 p, .bool true]) ∧ St w0 w' := by
    intro w h; have := bin_32 q b w0 w h; rw [hp] at this; exact this
  have b30 : ∀ w, St w0 w → Calls Tryd.prog 8 #[.int .i64 30, .int .i32 p, .int .i32 r] w fun e w' => e = .returned (.tuple #[.int .i32 a, .bool true]) ∧ St w0 w' := by
    intro w h; have := bin_30 p r w0 w h; rw [h1] at this; exact this
  clear hq hr hp h1
  obtain ⟨h2a, h2b⟩ := h2
  obtain ⟨h3a, h3b⟩ := h3
  by_cases hneg : b < 0
  all_goals
    simp only [hneg, if_true, if_false] at h2a h2b
    have hr1 : -2147483648 < r := by omega
    have hr2 : r < 2147483648 := by omega
    rcases Int.lt_trichotomy r 0 with hr0 | hr0 | hr0
    all_goals
      first
        | (have hr3 : a < 0 := h3a hr0)
        | (have hr3 : 0 < a := h3b hr0)
        | subst hr0
      clear h3a h3b
      go_enter Tryd.func3, Tryd.ntmps3
      go_wp2_with (go_at_call 8; first | (with_reducible refine (b33 _ (by assumption)).mono ?_; rintro e w' ⟨rfl, hs⟩) | (with_reducible refine (b34 _ (by assumption)).mono ?_; rintro e w' ⟨rfl, hs⟩) | (with_reducible refine (b32 _ (by assumption)).mono ?_; rintro e w' ⟨rfl, hs⟩) | (with_reducible refine (b30 _ (by assumption)).mono ?_; rintro e w' ⟨rfl, hs⟩))
      go_ret
      refine ⟨?_, by assumption⟩
      first | rfl | trace_state

theorem walk (a b : Int) (w0 : (Lit.int .i32 a).wf = true) (w1 : (Lit.int .i32 b).wf = true) (w : World) (hok : ArOk w) :
    Calls Tryd.prog 3 #[.int .i32 a, .int .i32 b] w fun e w' => e = .returned (.bool true) ∧ Grown w w' := by
  have ha := bounds_i32 w0
  have hb := bounds_i32 w1
  by_cases h : b = 0
  · subst h
    exact (walkz a w w ⟨hok, Grown.refl _⟩).mono fun e w' h => ⟨h.1, h.2.2⟩
  · exact (walkn a b w w ⟨hok, Grown.refl _⟩ (by omega) (by omega) (by omega) (by omega) h).mono fun e w' h => ⟨h.1, h.2.2⟩
end Go.Proofs.YtcehnibfmhbeiaaDoor.arithDivides
