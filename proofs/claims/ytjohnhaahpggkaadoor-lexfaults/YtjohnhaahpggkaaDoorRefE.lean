import Derived.Test.YtjohnhaahpggkaaDoorRefD
import Derived.Test.YtjohnhaahpggkaaDoorStrE
namespace Go.Proofs.YtjohnhaahpggkaaDoor
open Go.RowKit
set_option linter.unusedVariables false

theorem first_bad (l : List UInt8) (h : (firstTk l).1.kind = -1) : 20 ≤ (firstTk l).1.num ∧ (firstTk l).1.num ≤ 24 := by
  have hn : ∀ o, numE o ≠ 0 → 20 ≤ numE o ∧ numE o ≤ 24 := by
    intro o; unfold numE; cases o with
    | none => intro _; decide
    | some v => simp only; split <;> simp
  unfold firstTk at h ⊢
  split at h
  · simp at h
  · rename_i h0
    rw [if_neg h0]
    split at h
    · rename_i h1
      rw [if_pos h1]
      unfold wordTk at h ⊢
      simp only at h ⊢
      split at h
      · rename_i h2; rw [if_pos h2]; decide
      · split at h
        · simp at h
        · rename_i h2 h3; exact absurd h h3
    · rename_i h1
      rw [if_neg h1]
      split at h
      · rename_i h2
        rw [if_pos h2]
        unfold numTk at h ⊢
        simp only at h ⊢
        split at h
        · simp at h
        · rename_i h3; rw [if_neg h3]; exact hn _ h3
      · rename_i h2
        rw [if_neg h2]
        unfold signTk at h ⊢
        split at h
        · rename_i h3; exact absurd h h3.2
        · rename_i h3
          rw [if_neg h3]
          split at h
          · rename_i h4; exact absurd h h4
          · rename_i h4; rw [if_neg h4]; decide
theorem Stm.bad {s : ByteArray} {i : Nat} {ts : List Tok} {z : Tok} (h : Stm s i ts z) (hz : z.t.kind = -1) : 20 ≤ z.t.num ∧ z.t.num ≤ 24 := by
  induction h with
  | stop i h => exact first_bad _ hz
  | go i ts z h hr ih => exact ih hz
theorem Whole.bad {s : ByteArray} {ts : List Tok} {z : Tok} (h : Whole s ts z) (hz : z.t.kind = -1) : 20 ≤ z.t.num ∧ z.t.num ≤ 24 := by
  rcases h with ⟨_, h⟩ | ⟨_, _, h⟩
  · exact h.bad hz
  · rw [h]; decide

/-- What both Scans answer. -/
def AnsPost (base : Nat) (ts : List Tok) (z : Tok) (v : Value) (f : Array Value) (w' : World) : Prop :=
  (z.t.kind = -1 ∧ v = .slice none 0 0 ∧ f = #[.int .i64 z.t.num, .int .i64 z.line, .int .i64 z.col]) ∨
  (z.t.kind ≠ -1 ∧ w'.ownsRow base 36 5 v (ts.length + 1) (cellsOf (ts ++ [z])) ∧ f = #[.int .i64 0, .int .i64 0, .int .i64 0])

theorem scan_ans (s : ByteArray) (ts : List Tok) (z : Tok) (w : World) (hWh : Whole s ts z) (hW : Wt w) (hlen : ts.length ≤ 65536) :
    Calls Tryd.prog 17 #[.string s] w fun e w' => ∃ v f, e = .returned (.tuple #[v, .agg f]) ∧ AnsPost w.heap.size ts z v f w' ∧ Below w.heap.size w w' := by
  refine (callsIn_wide.1 (scan_in s ts z w hWh hW hlen)).mono ?_
  rintro e w' ⟨v, f, rfl, hp, hb⟩
  refine ⟨v, f, rfl, ?_, hb⟩
  rcases hp with ⟨h1, h2, h3⟩ | h
  · have := hWh.bad h1
    refine .inl ⟨h1, h2, ?_⟩
    rw [h3, show IntKind.i64.wrap z.t.num = z.t.num by rw [IntKind.wrap_i64]; omega]
  · exact .inr h

set_option maxRecDepth 100000 in
set_option maxHeartbeats 2000000 in
theorem ref_ans (s : ByteArray) (ts : List Tok) (z : Tok) (w : World) (hWh : Whole s ts z) (hlen : ts.length ≤ 65536) (hK : Kt w) (hS : St w) :
    Calls Tryd.prog 20 #[.string s] w fun e w' => ∃ v f, e = .returned (.tuple #[v, .agg f]) ∧ AnsPost w.heap.size ts z v f w' ∧ Below w.heap.size w w' := by
  have hCu : ∀ W, Below w.heap.size w W → Calls Tryd.prog 27 #[.string s] W fun e w' => (∃ v f, e = .returned (.tuple #[v, .agg f]) ∧ CutPost W.heap.size ts z v f w') ∧ Below W.heap.size W w' := fun W hb => cut_any s ts z W hWh hlen (hK.below hb hK.1) (hS.below hb hS.1)
  by_cases hz : z.t.kind = -1
  · have hn := hWh.bad hz
    obtain ⟨n1, n2⟩ := hn
    have hC2 : ∀ W, Below w.heap.size w W → Calls Tryd.prog 27 #[.string s] W fun e w' => (∃ v, e = .returned (.tuple #[v, .agg #[.int .i64 z.t.num, .int .i64 z.line, .int .i64 z.col]])) ∧ Below W.heap.size W w' := fun W hb => (hCu W hb).mono (by
      rintro e w' ⟨⟨v, f, rfl, hp⟩, hb⟩
      rcases hp with ⟨_, _, rfl⟩ | ⟨h, _⟩
      · exact ⟨⟨v, rfl⟩, hb⟩
      · exact absurd hz h)
    have hnz : (z.t.num == 0) = false := by simp; omega
    have hgoal : Hid (z.t.kind = -1) := hz
    clear hCu hWh hz
    generalize hN : z.t.num = N at *
    generalize hLn : z.line = LL at *
    generalize hCl : z.col = CC at *
    go_enter Tryd.func20, Tryd.ntmps20
    have hb0 : Below w.heap.size w (w.alloc (.cells #[.int .i64 0, .int .i64 0, .int .i64 0] 42)) := (Below.refl _ _).alloc (Nat.le_refl _) _
    have hR0 : Has (w.alloc (.cells #[.int .i64 0, .int .i64 0, .int .i64 0] 42)) w.heap.size #[.int .i64 0, .int .i64 0, .int .i64 0] := Has.new _ _ _ rfl
    have hC3 := hC2 _ hb0
    clear hC2
    go_wp2_with (go_at_call 27; (with_reducible refine hC3.mono ?_); rintro e w1 ⟨⟨v, rfl⟩, hb1⟩; have hR1 := hR0.below hb1; have hBl := hb0.trans (hb1.mono (by simp)); obtain ⟨r0, R1, r2⟩ := id hR1)
    have HF : Hid (Has ((((w1.setCell ⟨w.heap.size, 0, none⟩ (.int .i64 N)).setCell ⟨w.heap.size, 1, none⟩ (.int .i64 LL)).setCell ⟨w.heap.size, 2, none⟩ (.int .i64 CC)).alloc (.cells #[.int .i64 N, .int .i64 LL, .int .i64 CC] 42)) w.heap.size #[.int .i64 N, .int .i64 LL, .int .i64 CC] ∧ AnsPost w.heap.size ts z (.slice none 0 0) #[.int .i64 N, .int .i64 LL, .int .i64 CC] ((((w1.setCell ⟨w.heap.size, 0, none⟩ (.int .i64 N)).setCell ⟨w.heap.size, 1, none⟩ (.int .i64 LL)).setCell ⟨w.heap.size, 2, none⟩ (.int .i64 CC)).alloc (.cells #[.int .i64 N, .int .i64 LL, .int .i64 CC] 42)).drew ∧ Below w.heap.size w ((((w1.setCell ⟨w.heap.size, 0, none⟩ (.int .i64 N)).setCell ⟨w.heap.size, 1, none⟩ (.int .i64 LL)).setCell ⟨w.heap.size, 2, none⟩ (.int .i64 CC)).alloc (.cells #[.int .i64 N, .int .i64 LL, .int .i64 CC] 42))) := by
      refine ⟨(((hR1.set 0 (by simp) _).set 1 (by simp) _).set 2 (by simp) _).alloc _, ?_, (((hBl.setCell (p := ⟨w.heap.size, 0, none⟩) (Nat.le_refl _) _).setCell (p := ⟨w.heap.size, 1, none⟩) (Nat.le_refl _) _).setCell (p := ⟨w.heap.size, 2, none⟩) (Nat.le_refl _) _).alloc (by have := hBl.size; simpa [World.setCell] using this) _⟩
      exact .inl ⟨hgoal.out, rfl, by rw [hN, hLn, hCl]⟩
    go_region_with (fail)
    all_goals
      go_wp2
      obtain ⟨⟨x0, X1, x2⟩, hCP, hBP⟩ := HF.out
      exact bodyPost_ret (v := .tuple #[.slice none 0 0, .agg #[.int .i64 N, .int .i64 LL, .int .i64 CC]]) (by simp [results, Tryd.results20, go_sem, X1]) rfl ⟨_, _, rfl, hCP, hBP.drew⟩
  · have hC2 : ∀ W, Below w.heap.size w W → Calls Tryd.prog 27 #[.string s] W fun e w' => (∃ v, e = .returned (.tuple #[v, .agg #[.int .i64 0, .int .i64 0, .int .i64 0]]) ∧ w'.ownsRow W.heap.size 36 5 v (ts.length + 1) (cellsOf (ts ++ [z]))) ∧ Below W.heap.size W w' := fun W hb => (hCu W hb).mono (by
      rintro e w' ⟨⟨v, f, rfl, hp⟩, hb⟩
      rcases hp with ⟨h, _⟩ | ⟨_, h, rfl⟩
      · exact absurd h hz
      · exact ⟨⟨v, rfl, h⟩, hb⟩)
    have hgoal : Hid (z.t.kind ≠ -1) := hz
    clear hCu hWh hz
    go_enter Tryd.func20, Tryd.ntmps20
    have hb0 : Below w.heap.size w (w.alloc (.cells #[.int .i64 0, .int .i64 0, .int .i64 0] 42)) := (Below.refl _ _).alloc (Nat.le_refl _) _
    have hR0 : Has (w.alloc (.cells #[.int .i64 0, .int .i64 0, .int .i64 0] 42)) w.heap.size #[.int .i64 0, .int .i64 0, .int .i64 0] := Has.new _ _ _ rfl
    have hC3 := hC2 _ hb0
    clear hC2
    go_wp2_with (go_at_call 27; (with_reducible refine hC3.mono ?_); rintro e w1 ⟨⟨v, rfl, hrow⟩, hb1⟩; have hR1 := hR0.below hb1; have hBl := hb0.trans (hb1.mono (by simp)); obtain ⟨r0, R1, r2⟩ := id hR1)
    have HF : Hid (Has ((((w1.setCell ⟨w.heap.size, 0, none⟩ (.int .i64 0)).setCell ⟨w.heap.size, 1, none⟩ (.int .i64 0)).setCell ⟨w.heap.size, 2, none⟩ (.int .i64 0)).alloc (.cells #[.int .i64 0, .int .i64 0, .int .i64 0] 42)) w.heap.size #[.int .i64 0, .int .i64 0, .int .i64 0] ∧ AnsPost w.heap.size ts z v #[.int .i64 0, .int .i64 0, .int .i64 0] ((((w1.setCell ⟨w.heap.size, 0, none⟩ (.int .i64 0)).setCell ⟨w.heap.size, 1, none⟩ (.int .i64 0)).setCell ⟨w.heap.size, 2, none⟩ (.int .i64 0)).alloc (.cells #[.int .i64 0, .int .i64 0, .int .i64 0] 42)).drew ∧ Below w.heap.size w ((((w1.setCell ⟨w.heap.size, 0, none⟩ (.int .i64 0)).setCell ⟨w.heap.size, 1, none⟩ (.int .i64 0)).setCell ⟨w.heap.size, 2, none⟩ (.int .i64 0)).alloc (.cells #[.int .i64 0, .int .i64 0, .int .i64 0] 42))) := by
      refine ⟨(((hR1.set 0 (by simp) _).set 1 (by simp) _).set 2 (by simp) _).alloc _, ?_, (((hBl.setCell (p := ⟨w.heap.size, 0, none⟩) (Nat.le_refl _) _).setCell (p := ⟨w.heap.size, 1, none⟩) (Nat.le_refl _) _).setCell (p := ⟨w.heap.size, 2, none⟩) (Nat.le_refl _) _).alloc (by have := hBl.size; simpa [World.setCell] using this) _⟩
      have hO : Only (fun b => b = w.heap.size) w1 ((((w1.setCell ⟨w.heap.size, 0, none⟩ (.int .i64 0)).setCell ⟨w.heap.size, 1, none⟩ (.int .i64 0)).setCell ⟨w.heap.size, 2, none⟩ (.int .i64 0)).alloc (.cells #[.int .i64 0, .int .i64 0, .int .i64 0] 42)) := ((((Only.refl (fun b => b = w.heap.size) w1).set (b := w.heap.size) (i := 0) rfl _).set (b := w.heap.size) (i := 1) rfl _).set (b := w.heap.size) (i := 2) rfl _).alloc _
      exact .inr ⟨hgoal.out, own_mono (own_only hrow hO.drew (fun b hb => by simp at hb; omega)) (by simp), rfl⟩
    go_region_with (fail)
    all_goals
      go_wp2
      obtain ⟨⟨x0, X1, x2⟩, hCP, hBP⟩ := HF.out
      exact bodyPost_ret (v := .tuple #[v, .agg #[.int .i64 0, .int .i64 0, .int .i64 0]]) (by simp [results, Tryd.results20, go_sem, X1]) rfl ⟨_, _, rfl, hCP, hBP.drew⟩
end Go.Proofs.YtjohnhaahpggkaaDoor
