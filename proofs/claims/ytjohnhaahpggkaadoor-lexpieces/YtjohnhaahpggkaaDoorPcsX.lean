import Derived.Test.YtjohnhaahpggkaaDoorPcsW
import Derived.Test.YtjohnhaahpggkaaDoorSclW
namespace Go.Proofs.YtjohnhaahpggkaaDoor
open Go.RowKit
set_option linter.unusedVariables false
set_option linter.unusedSimpArgs false

theorem wpList_wanted {P : Program} {ops : Array Oper} {Q : Exit → Act → World → Prop} {rest : List Oper} {o : Oper} {a : Act} {w : World} (h : Region.wanted o (yielded ops a.tmps) = true) (hw : o.wp P a w (wpList P ops Q rest) Q) : wpList P ops Q (o :: rest) a w := by
  unfold wpList
  rw [if_pos h]
  exact .inl hw
/-- What Scan answers to what was written. -/
theorem scan_written {B la : List UInt8} {T : List Tok} (hW : Wrt B T la) (hB : B.length ≤ 65000) (hT : T.length ≤ 4000) (U : World) (hw : Wt U) :
    Calls Tryd.prog 17 #[.string (bs B)] U fun e w' => (∃ v, e = .returned (.tuple #[v, .agg #[.int .i64 0, .int .i64 0, .int .i64 0]]) ∧ w'.ownsRow U.heap.size 36 5 v (T.length + 1) (cellsOf (T ++ [⟨⟨0, 0, []⟩, (behL 1 1 B).1, (behL 1 1 B).2⟩]))) ∧ Below U.heap.size U w' := by
  refine (scan_ans (bs B) T ⟨⟨0, 0, []⟩, (behL 1 1 B).1, (behL 1 1 B).2⟩ U (.inl ⟨by rw [bs_sz]; omega, hW.all⟩) hw (by omega)).mono ?_
  rintro e w' ⟨v, f, rfl, h, hb⟩
  rcases h with ⟨h, _⟩ | ⟨_, h, rfl⟩
  · simp at h
  · exact ⟨⟨v, rfl, h⟩, hb⟩

theorem alike_end {w2 w3 : World} {o1 o2 : Obj} {T : List Tok} {z : Tok} {tv gv v3 : Value} {b c : Nat} (hlt : ∀ g, tv.ownBlock = some g → g < b) (hgr : w2.ownsRow b 36 5 gv (T.length + 1) (cellsOf (T ++ [z]))) (hg3 : ((w2.alloc o1).alloc o2).grownBy w3 tv.ownBlock) (hown3 : w3.ownsRow c 36 5 v3 (T.length + 1) (cellsOf T ++ z.cs)) (hT : T.length ≤ 4000) :
    Calls Tryd.prog 18 #[gv, v3] w3 fun e w' => e = .returned (.bool true) ∧ ∃ n, w' = w3.drewN n := by
  have hl : (T ++ [z]).length = T.length + 1 := by simp
  have hgr3 := ((hgr.alloc o1).alloc o2).kept hg3 (by
    cases hgv : gv.ownBlock with
    | none => exact .inl rfl
    | some g => exact .inr (fun e => by have := (hgr.lt g hgv).1; have := hlt g e.symm; omega))
  rw [← cellsOf_snoc] at hown3
  exact alike_same (T ++ [z]) gv v3 w3 (toks_own (by rw [hl]; exact hgr3)) (toks_own (by rw [hl]; exact hown3)) (by omega)

set_option maxRecDepth 100000 in
set_option maxHeartbeats 4000000 in
theorem pieces_law (v : Value) (W : World) (hWr : Calls Tryd.prog 16 #[v] W (WrPost W)) (hT : Wt W) :
    Calls Tryd.prog 5 #[v] W fun e w' => e = .returned (.bool true) ∧ Below W.heap.size W w' := by
  obtain ⟨i36, h36, h36z, h36s, h36b⟩ := info_parts info36
  have hWt : ∀ U, Below W.heap.size W U → Wt U := fun U hb => hT.below hb hT.1
  go_enter Tryd.func5, Tryd.ntmps5
  go_wp2_with (first
    | (go_at_call 16; (with_reducible refine hWr.mono ?_); rintro e w1 ⟨B, T, la, tv, rfl, hWt1, hBl, hTl, hrow, hb1⟩; have hSc := scan_written hWt1 hBl hTl; have hb1z := hb1.size; have hq5 : Hid (T.length + 1 ≤ maxLen) := (by show _ ≤ _; unfold maxLen; omega); have hq6 : Hid ((T.length + 1) * 48 ≤ 140737488355328) := (by show _ ≤ _; omega); have HT := hid_of hTl; generalize hLN : (behL 1 1 B).1 = LN at *; generalize hCL : (behL 1 1 B).2 = CL at *; have hP1 := Has.new w1 #[.int .i64 LN, .int .i64 CL] 34 rfl; have hb1' := hb1.alloc hb1z (.cells #[.int .i64 LN, .int .i64 CL] 34))
    | (go_at_call 17; (with_reducible refine (hSc _ (hWt _ hb1')).mono ?_); rintro e w2 ⟨⟨gv, rfl, hgr⟩, hb2⟩; have hP2 := hP1.below hb2; obtain ⟨p0, P1, p2⟩ := id hP2; have hrow2 := own_keep (hrow.alloc (.cells #[.int .i64 LN, .int .i64 CL] 34)) (fun g hg => hb2.block g (by have := (hrow.lt g hg).2; simp; omega)); have hb2z := hb2.size; have hbz : Hid (W.heap.size ≤ ((w2.alloc (.cells #[.int .i64 0, .int .i64 0, .int .i64 0] 42)).alloc (.cells #[.int .i64 0, .int .i32 0, .string ⟨#[]⟩, .int .i64 LN, .int .i64 CL] 36)).heap.size) := (by show _ ≤ _; simp at hb2z ⊢; omega); have hlt : Hid (∀ g, tv.ownBlock = some g → g < (w1.alloc (.cells #[.int .i64 LN, .int .i64 CL] 34)).heap.size) := (fun g hg => by have := (hrow.lt g hg).2; simp; omega); have hF2 := Has.new w2 #[.int .i64 0, .int .i64 0, .int .i64 0] 42 rfl)
    | (at_builtin; refine wpList_wanted rfl (wp_append_own _ _ _ 28 rfl W.heap.size 36 i36 _ 5 48 Tryd.underlying28 h36 h36z h36s h36b rfl (by decide) _ _ _ rfl ((hrow2.alloc (.cells #[.int .i64 0, .int .i64 0, .int .i64 0] 42)).alloc _) ⟨w2.heap.size + 1, 0, none⟩ 1 1 [.int .i64 0, .int .i32 0, .string ⟨#[]⟩, .int .i64 LN, .int .i64 CL] rfl rfl (cells_five_at (by simp) _ _ _ _ _ _) (fun u hu => by simp at hu; rcases hu with rfl | rfl | rfl | rfl | rfl <;> rfl) hq5.out hq6.out hbz.out ?_); intro v3 w3 hown3 hgrow3 hnil3; have hEq := alike_end (z := ⟨⟨0, 0, []⟩, LN, CL⟩) hlt.out hgr hgrow3 hown3 HT.out; have hB3 := ((hb1'.trans (hb2.mono (hb1'.size))).alloc (by have := hb1'.size; omega) _).alloc (by have := hb1'.size; simp; omega) _ |>.grown hgrow3 hbz.out (fun g hg => (hrow.lt g hg).1))
    | (go_at_call 18; (with_reducible refine hEq.mono ?_); rintro e w4 ⟨rfl, n4, hw4⟩))
  exact bodyPost_ret (v := .bool true) (by simp [results, Tryd.results5, go_sem]) rfl ⟨rfl, bel_drewN hB3⟩
end Go.Proofs.YtjohnhaahpggkaaDoor
