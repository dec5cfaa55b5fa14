import Derived.Test.YtjohnhaahpggkaaDoorRefE
namespace Go.Proofs.YtjohnhaahpggkaaDoor
open Go.RowKit
set_option linter.unusedVariables false

theorem first_bad_text (l : List UInt8) (h : (firstTk l).1.kind = -1) : (firstTk l).1.text = [] := by
  unfold firstTk at h ⊢
  split at h
  · simp at h
  · rename_i h0
    rw [if_neg h0]
    split at h
    · rename_i h1
      rw [if_pos h1]
      unfold wordTk at h ⊢
      simp only at h ⊢
      split at h
      · rename_i h2; rw [if_pos h2]
      · split at h
        · simp at h
        · rename_i h2 h3; exact absurd h h3
    · rename_i h1
      rw [if_neg h1]
      split at h
      · rename_i h2
        rw [if_pos h2]
        unfold numTk at h ⊢
        simp only at h ⊢
        split at h
        · simp at h
        · rename_i h3; rw [if_neg h3]
      · rename_i h2
        rw [if_neg h2]
        unfold signTk at h ⊢
        split at h
        · rename_i h3; exact absurd h h3.2
        · rename_i h3
          rw [if_neg h3]
          split at h
          · rename_i h4; exact absurd h h4
          · rename_i h4; rw [if_neg h4]
theorem Stm.bad_text {s : ByteArray} {i : Nat} {ts : List Tok} {z : Tok} (h : Stm s i ts z) (hz : z.t.kind = -1) : z.t.text = [] := by
  induction h with
  | stop i h => exact first_bad_text _ hz
  | go i ts z h hr ih => exact ih hz
theorem Whole.bad_text {s : ByteArray} {ts : List Tok} {z : Tok} (h : Whole s ts z) (hz : z.t.kind = -1) : z.t.text = [] := by
  rcases h with ⟨_, h⟩ | ⟨_, _, h⟩
  · exact h.bad_text hz
  · rw [h]; rfl

theorem cells_five_at {W : World} {b : Nat} (hb : b = W.heap.size) (x0 x1 x2 x3 x4 : Value) (t : TypeId) : ∀ j u, [x0, x1, x2, x3, x4][j]? = some u → (W.alloc (.cells #[x0, x1, x2, x3, x4] t)).cell? ((⟨b, 0, none⟩ : Addr).add j) = some u := by
  subst hb; exact cells_five _ _ _ _ _ _

/-- What the reference gives: all tokens, the last one too. -/
def GivPost (w : World) (L : List Tok) (e : Ending) (w' : World) : Prop :=
  ∃ g cap, e = .returned (.slice (some ⟨g, 0, none⟩) L.length cap) ∧ w'.ownsRow w.heap.size 36 5 (.slice (some ⟨g, 0, none⟩) L.length cap) L.length (cellsOf L) ∧ Below w.heap.size w w'

set_option maxRecDepth 100000 in
set_option maxHeartbeats 2000000 in
theorem given_any (s : ByteArray) (ts : List Tok) (z : Tok) (w : World) (hWh : Whole s ts z) (hlen : ts.length ≤ 65536) (hK : Kt w) (hS : St w) :
    Calls Tryd.prog 14 #[.string s] w (GivPost w (ts ++ [z])) := by
  have hCu : ∀ W, Below w.heap.size w W → Calls Tryd.prog 27 #[.string s] W fun e w' => (∃ v f, e = .returned (.tuple #[v, .agg f]) ∧ CutPost W.heap.size ts z v f w') ∧ Below W.heap.size W w' := fun W hb => cut_any s ts z W hWh hlen (hK.below hb hK.1) (hS.below hb hS.1)
  by_cases hz : z.t.kind = -1
  · obtain ⟨n1, n2⟩ := hWh.bad hz
    have hx := hWh.bad_text hz
    have hC2 : Calls Tryd.prog 27 #[.string s] w fun e w' => (∃ v, e = .returned (.tuple #[v, .agg #[.int .i64 z.t.num, .int .i64 z.line, .int .i64 z.col]]) ∧ w'.ownsRow w.heap.size 36 5 v ts.length (cellsOf ts)) ∧ Below w.heap.size w w' := (hCu w (Below.refl _ _)).mono (by
      rintro e w' ⟨⟨v, f, rfl, hp⟩, hb⟩
      rcases hp with ⟨_, hr, rfl⟩ | ⟨h, _⟩
      · exact ⟨⟨v, rfl, hr⟩, hb⟩
      · exact absurd hz h)
    have hnz : (z.t.num == 0) = false := by simp; omega
    clear hCu hWh hK hS
    go_enter Tryd.func14, Tryd.ntmps14
    obtain ⟨i0, hi, hi0, hi1, hi2⟩ := info_parts info36
    generalize hN : z.t.num = N at *
    generalize hLn : z.line = LL at *
    generalize hCl : z.col = CC at *
    have hcz : cellsOf (ts ++ [z]) = cellsOf ts ++ [.int .i64 (-1), .int .i32 N, .string ⟨#[]⟩, .int .i64 LL, .int .i64 CC] := by
      rw [cellsOf_snoc]; unfold Tok.cs; rw [hz, hx, hN, hLn, hCl]; rfl
    have hlz : (ts ++ [z]).length = ts.length + 1 := by simp
    have hF : ∀ w1 w4 : World, ∀ (v : Value), Below w.heap.size w w1 → ((w1.alloc (.cells #[.int .i64 N, .int .i64 LL, .int .i64 CC] 42)).alloc (.cells #[.int .i64 (-1), .int .i32 N, .string ⟨#[]⟩, .int .i64 LL, .int .i64 CC] 36)).grownBy w4 v.ownBlock → (∀ g, v.ownBlock = some g → w.heap.size ≤ g) → Below w.heap.size w w4 := fun w1 w4 v hb hg hv =>
      ((hb.alloc hb.size _).alloc (by have := hb.size; simp; omega) _).trans ⟨hg.os, hg.tape, hg.output, hg.size, fun k hk => hg.block k (by have := hb.size; simp; omega) (by intro h; have := hv k h.symm; omega)⟩
    go_wp2_with (first
      | (go_at_call 27; (with_reducible refine hC2.mono ?_); rintro e w1 ⟨⟨v, rfl, hr⟩, hb1⟩; have hz1 := hb1.size)
      | (at_builtin; refine wpList_append_own _ rfl _ _ 28 rfl w.heap.size 36 i0 _ 5 48 Tryd.underlying28 hi hi0 hi1 hi2 rfl (by decide) _ _ _ rfl ((hr.alloc _).alloc _) ⟨w1.heap.size + 1, 0, none⟩ 1 1 [.int .i64 (-1), .int .i32 N, .string ⟨#[]⟩, .int .i64 LL, .int .i64 CC] rfl rfl (cells_five_at (by simp) _ _ _ _ _ _) (fun u hu => by simp at hu; rcases hu with rfl | rfl | rfl | rfl | rfl <;> rfl) (by unfold maxLen; omega) (by omega) (by simp; omega) ?_; intro v' w4 hown' hgrow hnil; obtain ⟨g', cap', rfl⟩ := ownsRow_succ hown'; have hB4 := hF w1 w4 _ hb1 hgrow (fun g hg => (own_lt hr g hg).1)))
    refine bodyPost_ret (v := .slice (some ⟨g', 0, none⟩) (ts.length + 1) cap') (by simp [results, Tryd.results14, go_sem]) rfl ?_
    refine ⟨g', cap', by rw [hlz], ?_, hB4⟩
    rw [hlz, hcz]; exact hown'
  · have hC2 : Calls Tryd.prog 27 #[.string s] w fun e w' => (∃ v, e = .returned (.tuple #[v, .agg #[.int .i64 0, .int .i64 0, .int .i64 0]]) ∧ w'.ownsRow w.heap.size 36 5 v (ts.length + 1) (cellsOf (ts ++ [z]))) ∧ Below w.heap.size w w' := (hCu w (Below.refl _ _)).mono (by
      rintro e w' ⟨⟨v, f, rfl, hp⟩, hb⟩
      rcases hp with ⟨h, _⟩ | ⟨_, h, rfl⟩
      · exact absurd h hz
      · exact ⟨⟨v, rfl, h⟩, hb⟩)
    clear hCu hWh hK hS
    go_enter Tryd.func14, Tryd.ntmps14
    go_wp2_with (go_at_call 27; (with_reducible refine hC2.mono ?_); rintro e w1 ⟨⟨v, rfl, hr⟩, hb1⟩; have hz1 := hb1.size)
    have hlz : (ts ++ [z]).length = ts.length + 1 := by simp
    have hb2 : Below w.heap.size w (w1.alloc (.cells #[.int .i64 0, .int .i64 0, .int .i64 0] 42)) := hb1.alloc hb1.size _
    have hr2 := hr.alloc (.cells #[.int .i64 0, .int .i64 0, .int .i64 0] 42)
    obtain ⟨g, cap, rfl⟩ := ownsRow_succ hr
    refine bodyPost_ret (v := .slice (some ⟨g, 0, none⟩) (ts.length + 1) cap) (by simp [results, Tryd.results14, go_sem]) rfl ?_
    refine ⟨g, cap, by rw [hlz], ?_, hb2⟩
    rw [hlz]; exact hr2
end Go.Proofs.YtjohnhaahpggkaaDoor
