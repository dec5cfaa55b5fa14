import Derived.Test.YtiaklfjpmmifjaaTnA
import Derived.Test.YtiaklfjpmmifjaaMeB
import Derived.Test.YtiaklfjpmmifjaaClA
import Derived.Test.YtiaklfjpmmifjaaGrD
import Derived.Test.YtiaklfjpmmifjaaCpT
namespace Go.Proofs.Ytiaklfjpmmifjaa
open Go.RowKit
set_option linter.unusedVariables false

def aG : List Gp := [⟨⟨#[]⟩, 1, 5, 3, 1⟩, ⟨⟨#[]⟩, 1, 6, 4, 0⟩]
def aC : List Cf := [⟨0, 1, 7, 4⟩]
theorem a_clash : clashF 2 3 aC = (0, 1, true) := by decide +kernel
theorem a_span : spanV aG aC 1 2 false = (8, 0) := by decide +kernel
theorem a_long : spanV aG aC 2 1 true = (6, 0) := by decide +kernel
theorem a_hold : holdV aG aC 2 1 = (5, 0) := by decide +kernel
set_option maxRecDepth 100000 in
set_option maxHeartbeats 4000000 in
theorem alive_any (w : World) : Calls Try.prog 14 #[] w fun e w' => e = .returned (.bool true) ∧ Below w.heap.size w w' := by
  have hb0 : Below w.heap.size w (((w.alloc (.cells #[.string ⟨#[]⟩, .int .i64 1, .int .i64 5, .int .i64 3, .int .i64 1, .string ⟨#[]⟩, .int .i64 1, .int .i64 6, .int .i64 4, .int .i64 0] 44)).alloc (.cells #[.int .i64 0, .int .i64 1, .int .i64 7, .int .i64 4] 47)).alloc (.cells #[.slice (some ⟨w.heap.size, 0, none⟩) 2 2, .slice (some ⟨w.heap.size + 1, 0, none⟩) 1 1] 25)) := (((Below.refl _ _).alloc (Nat.le_refl _) _).alloc (by simp) _).alloc (by simp; omega) _
  have B0 : Has (((w.alloc (.cells #[.string ⟨#[]⟩, .int .i64 1, .int .i64 5, .int .i64 3, .int .i64 1, .string ⟨#[]⟩, .int .i64 1, .int .i64 6, .int .i64 4, .int .i64 0] 44)).alloc (.cells #[.int .i64 0, .int .i64 1, .int .i64 7, .int .i64 4] 47)).alloc (.cells #[.slice (some ⟨w.heap.size, 0, none⟩) 2 2, .slice (some ⟨w.heap.size + 1, 0, none⟩) 1 1] 25)) (w.heap.size + 1 + 1) #[.slice (some ⟨w.heap.size, 0, none⟩) 2 2, .slice (some ⟨w.heap.size + 1, 0, none⟩) 1 1] := Has.new _ _ _ (by simp)
  have HG : Has (((w.alloc (.cells #[.string ⟨#[]⟩, .int .i64 1, .int .i64 5, .int .i64 3, .int .i64 1, .string ⟨#[]⟩, .int .i64 1, .int .i64 6, .int .i64 4, .int .i64 0] 44)).alloc (.cells #[.int .i64 0, .int .i64 1, .int .i64 7, .int .i64 4] 47)).alloc (.cells #[.slice (some ⟨w.heap.size, 0, none⟩) 2 2, .slice (some ⟨w.heap.size + 1, 0, none⟩) 1 1] 25)) w.heap.size #[.string ⟨#[]⟩, .int .i64 1, .int .i64 5, .int .i64 3, .int .i64 1, .string ⟨#[]⟩, .int .i64 1, .int .i64 6, .int .i64 4, .int .i64 0] := ((Has.new _ _ _ rfl).alloc _).alloc _
  have HC : Has (((w.alloc (.cells #[.string ⟨#[]⟩, .int .i64 1, .int .i64 5, .int .i64 3, .int .i64 1, .string ⟨#[]⟩, .int .i64 1, .int .i64 6, .int .i64 4, .int .i64 0] 44)).alloc (.cells #[.int .i64 0, .int .i64 1, .int .i64 7, .int .i64 4] 47)).alloc (.cells #[.slice (some ⟨w.heap.size, 0, none⟩) 2 2, .slice (some ⟨w.heap.size + 1, 0, none⟩) 1 1] 25)) (w.heap.size + 1) #[.int .i64 0, .int .i64 1, .int .i64 7, .int .i64 4] := (Has.new _ _ _ (by simp)).alloc _
  have fG : Fl 5 Gp.cs (((w.alloc (.cells #[.string ⟨#[]⟩, .int .i64 1, .int .i64 5, .int .i64 3, .int .i64 1, .string ⟨#[]⟩, .int .i64 1, .int .i64 6, .int .i64 4, .int .i64 0] 44)).alloc (.cells #[.int .i64 0, .int .i64 1, .int .i64 7, .int .i64 4] 47)).alloc (.cells #[.slice (some ⟨w.heap.size, 0, none⟩) 2 2, .slice (some ⟨w.heap.size + 1, 0, none⟩) 1 1] 25)) (.slice (some ⟨w.heap.size, 0, none⟩) 2 2) aG := .inr ⟨⟨w.heap.size, 0, none⟩, 2, rfl, Nat.le_refl _, .inr ⟨rfl, HG.1, fun i hi j u hu => by
    have hj : j < 5 := by
      have := (List.getElem?_eq_some_iff.1 hu).1
      rwa [gp_len] at this
    rw [HG.2.1, ← hu]
    rcases (show i = 0 ∨ i = 1 by have : i < 2 := hi; omega) with rfl | rfl <;> rcases (show j = 0 ∨ j = 1 ∨ j = 2 ∨ j = 3 ∨ j = 4 by omega) with rfl | rfl | rfl | rfl | rfl <;> rfl⟩⟩
  have fC : Fl 4 Cf.cs (((w.alloc (.cells #[.string ⟨#[]⟩, .int .i64 1, .int .i64 5, .int .i64 3, .int .i64 1, .string ⟨#[]⟩, .int .i64 1, .int .i64 6, .int .i64 4, .int .i64 0] 44)).alloc (.cells #[.int .i64 0, .int .i64 1, .int .i64 7, .int .i64 4] 47)).alloc (.cells #[.slice (some ⟨w.heap.size, 0, none⟩) 2 2, .slice (some ⟨w.heap.size + 1, 0, none⟩) 1 1] 25)) (.slice (some ⟨w.heap.size + 1, 0, none⟩) 1 1) aC := .inr ⟨⟨w.heap.size + 1, 0, none⟩, 1, rfl, Nat.le_refl _, .inr ⟨rfl, HC.1, fun i hi j u hu => by
    have hj : j < 4 := by
      have := (List.getElem?_eq_some_iff.1 hu).1
      rwa [cf_len] at this
    rw [HC.2.1, ← hu]
    obtain rfl : i = 0 := by have : i < 1 := hi; omega
    rcases (show j = 0 ∨ j = 1 ∨ j = 2 ∨ j = 3 by omega) with rfl | rfl | rfl | rfl <;> rfl⟩⟩
  have ok : ∀ (i : Nat) (h : i < aC.length), aC[i].ok := fun i h => by
    obtain rfl : i = 0 := by have : i < 1 := h; omega
    show Cf.ok ⟨0, 1, 7, 4⟩
    exact ⟨by decide, by decide, by decide, by decide⟩
  go_enter Try.func14, Try.ntmps14
  go_upto_region 2 with fail
  generalize (((w.alloc (.cells #[.string ⟨#[]⟩, .int .i64 1, .int .i64 5, .int .i64 3, .int .i64 1, .string ⟨#[]⟩, .int .i64 1, .int .i64 6, .int .i64 4, .int .i64 0] 44)).alloc (.cells #[.int .i64 0, .int .i64 1, .int .i64 7, .int .i64 4] 47)).alloc (.cells #[.slice (some ⟨w.heap.size, 0, none⟩) 2 2, .slice (some ⟨w.heap.size + 1, 0, none⟩) 1 1] 25)) = W at *
  have c1 := fun (V : World) (hV : Below W.heap.size W V) => clash_any 2 3 aC (some ⟨w.heap.size, 0, none⟩) 2 _ V (by decide) (by decide) (fC.below hV) (by decide) ok
  have c2 := fun (V : World) (hV : Below W.heap.size W V) => span_any aG aC _ _ 1 2 V (by decide) (by decide) (fG.below hV) (fC.below hV) (by decide) (by decide) ok
  have c3 := fun (V : World) (hV : Below W.heap.size W V) => longest_any aG aC _ _ 2 1 V (by decide) (by decide) (fG.below hV) (fC.below hV) (by decide) (by decide) ok
  have c4 := fun (V : World) (hV : Below W.heap.size W V) => hold_any aG aC _ _ 2 1 V (by decide) (by decide) (fG.below hV) (fC.below hV) (by decide) (by decide)
  rw [a_clash] at c1
  rw [a_span] at c2
  rw [a_long] at c3
  rw [a_hold] at c4
  have k0 := B0.2.1 0
  have k1 := B0.2.1 1
  have d1 := c1 W (Below.refl _ _)
  clear c1
  go_upto_region 3 with (go_at_call 12; (with_reducible refine Calls.mono d1 ?_); rintro e w1 ⟨rfl, hE1⟩)
  have d2 := c2 w1 hE1
  have B1 := B0.below hE1
  have k0 := B1.2.1 0
  have k1 := B1.2.1 1
  go_upto_region 4 with (go_at_call 19; (with_reducible refine Calls.mono d2 ?_); rintro e w2 ⟨rfl, hE2⟩)
  have hE2' := hE1.trans (hE2.mono hE1.size)
  have d3 := c3 w2 hE2'
  have B2 := B0.below hE2'
  have k0 := B2.2.1 0
  have k1 := B2.2.1 1
  go_upto_region 5 with (go_at_call 20; (with_reducible refine Calls.mono d3 ?_); rintro e w3 ⟨rfl, hE3⟩)
  have hE3' := hE2'.trans (hE3.mono hE2'.size)
  have d4 := c4 w3 hE3'
  have B3 := B0.below hE3'
  have k0 := B3.2.1 0
  have k1 := B3.2.1 1
  go_wp2_with (go_at_call 21; (with_reducible refine Calls.mono d4 ?_); rintro e w4 ⟨rfl, hE4⟩)
  have hE4' := hE3'.trans (hE4.mono hE3'.size)
  go_ret
  exact ⟨rfl, hb0.trans (hE4'.mono hb0.size)⟩
end Go.Proofs.Ytiaklfjpmmifjaa
