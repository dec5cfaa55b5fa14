import Derived.Test.YtfmdlcfkfglnhaaDoorTyK
namespace Go.Proofs.YtfmdlcfkfglnhaaDoor
open Go.RowKit
set_option linter.unusedVariables false

theorem fld136 (a b c : Int) (X : World) : (Instr.field 136 (.agg #[.int .i64 a, .int .i64 b, .int .i64 c]) 2).run Tryd.prog X = .ok (.int .i64 c) X := by kernel_rfl
theorem one_cell (W : World) (t : TypeId) : ∀ i (h : i < ([2] : List Int).length), (W.alloc (.cells #[.int .i64 2] t)).cell? ⟨W.heap.size, 0 + i, none⟩ = some (.int .i64 ([2] : List Int)[i]) := by
  intro i h
  obtain rfl : i = 0 := by simp at h; omega
  simp
/-- A leaf as check sees it. -/
def CLeaf (S : List Sy) (b : Nat) (c1 c2 : Value) (w : World) (x : Nd) : Prop := Calls Tryd.prog 22 #[.agg #[.map (some b), c1, c2], .agg #[.int .i64 x.op, .int .i32 x.val, .string x.name, .int .i64 x.line, .int .i64 x.col]] w fun e w' => e = .returned (.tuple #[.int .i64 (lfF S x).1, .int .i64 (lfF S x).2]) ∧ Below w.heap.size w w'
set_option maxRecDepth 100000 in
set_option maxHeartbeats 8000000 in
theorem leafC1 (S : List Sy) (b : Nat) (c1 c2 : Value) (w : World) (val : Int) (nm : ByteArray) (ln cl : Int) : CLeaf S b c1 c2 w ⟨1, val, nm, ln, cl⟩ := by
  have e : lfF S ⟨1, val, nm, ln, cl⟩ = (1, 0) := by unfold lfF; simp
  unfold CLeaf
  rw [e]
  simp only
  have hb1 : Below w.heap.size w ((w.alloc (.cells #[.map (some b), c1, c2] 68)).alloc (.cells #[.int .i64 1, .int .i32 val, .string nm, .int .i64 ln, .int .i64 cl] 60)) := ((Below.refl _ _).alloc (Nat.le_refl _) _).alloc (by simp) _
  have kR := rule1 ((w.alloc (.cells #[.map (some b), c1, c2] 68)).alloc (.cells #[.int .i64 1, .int .i32 val, .string nm, .int .i64 ln, .int .i64 cl] 60))
  rw [show ruV 1 = .agg #[.int .i64 0, .int .i64 0, .int .i64 1] from rfl] at kR
  have fl := fun X => fld136 0 0 1 X
  go_enter Tryd.func22, Tryd.ntmps22
  go_wp2_with fail
  go_at_call 32
  refine Calls.mono kR ?_
  rintro e w2 ⟨rfl, h2⟩
  have hb2 := bel_after hb1 hb1.size h2
  go_wp2_with fail
  exact bodyPost_ret (v := .tuple #[.int .i64 1, .int .i64 0]) (by simp [results, Tryd.results22, go_sem]) rfl ⟨rfl, hb2⟩
set_option maxRecDepth 100000 in
set_option maxHeartbeats 8000000 in
theorem leafC4 (S : List Sy) (b : Nat) (c1 c2 : Value) (w : World) (val : Int) (nm : ByteArray) (ln cl : Int) : CLeaf S b c1 c2 w ⟨4, val, nm, ln, cl⟩ := by
  have e : lfF S ⟨4, val, nm, ln, cl⟩ = (1, 0) := by unfold lfF; simp
  unfold CLeaf
  rw [e]
  simp only
  have hb1 : Below w.heap.size w ((w.alloc (.cells #[.map (some b), c1, c2] 68)).alloc (.cells #[.int .i64 4, .int .i32 val, .string nm, .int .i64 ln, .int .i64 cl] 60)) := ((Below.refl _ _).alloc (Nat.le_refl _) _).alloc (by simp) _
  have kR := rule4 ((w.alloc (.cells #[.map (some b), c1, c2] 68)).alloc (.cells #[.int .i64 4, .int .i32 val, .string nm, .int .i64 ln, .int .i64 cl] 60))
  rw [show ruV 4 = .agg #[.int .i64 0, .int .i64 0, .int .i64 1] from rfl] at kR
  have fl := fun X => fld136 0 0 1 X
  go_enter Tryd.func22, Tryd.ntmps22
  go_wp2_with fail
  go_at_call 32
  refine Calls.mono kR ?_
  rintro e w2 ⟨rfl, h2⟩
  have hb2 := bel_after hb1 hb1.size h2
  go_wp2_with fail
  exact bodyPost_ret (v := .tuple #[.int .i64 1, .int .i64 0]) (by simp [results, Tryd.results22, go_sem]) rfl ⟨rfl, hb2⟩
set_option maxRecDepth 100000 in
set_option maxHeartbeats 8000000 in
theorem leafC2 (S : List Sy) (b : Nat) (c1 c2 : Value) (w : World) (val : Int) (nm : ByteArray) (ln cl : Int) : CLeaf S b c1 c2 w ⟨2, val, nm, ln, cl⟩ := by
  have e : lfF S ⟨2, val, nm, ln, cl⟩ = (2, 0) := by unfold lfF; simp
  unfold CLeaf
  rw [e]
  simp only
  have hb1 : Below w.heap.size w ((w.alloc (.cells #[.map (some b), c1, c2] 68)).alloc (.cells #[.int .i64 2, .int .i32 val, .string nm, .int .i64 ln, .int .i64 cl] 60)) := ((Below.refl _ _).alloc (Nat.le_refl _) _).alloc (by simp) _
  have kR := rule2 ((w.alloc (.cells #[.map (some b), c1, c2] 68)).alloc (.cells #[.int .i64 2, .int .i32 val, .string nm, .int .i64 ln, .int .i64 cl] 60))
  rw [show ruV 2 = .agg #[.int .i64 0, .int .i64 0, .int .i64 2] from rfl] at kR
  have fl := fun X => fld136 0 0 2 X
  go_enter Tryd.func22, Tryd.ntmps22
  go_wp2_with fail
  go_at_call 32
  refine Calls.mono kR ?_
  rintro e w2 ⟨rfl, h2⟩
  have hb2 := bel_after hb1 hb1.size h2
  go_wp2_with fail
  exact bodyPost_ret (v := .tuple #[.int .i64 2, .int .i64 0]) (by simp [results, Tryd.results22, go_sem]) rfl ⟨rfl, hb2⟩
set_option maxRecDepth 100000 in
set_option maxHeartbeats 8000000 in
theorem leafC3 (S : List Sy) (b n : Nat) (c1 c2 : Value) (w : World) (hM : MpS w b n S) (val : Int) (nm : ByteArray) (hs : nm.size ≤ maxLen) (ln cl : Int) : CLeaf S b c1 c2 w ⟨3, val, nm, ln, cl⟩ := by
  have e : lfF S ⟨3, val, nm, ln, cl⟩ = wtF S nm := by
    unfold lfF wtF
    rw [fs_fk]
    cases fsS S nm <;> simp
  unfold CLeaf
  rw [e]
  simp only
  have hb1 : Below w.heap.size w ((w.alloc (.cells #[.map (some b), c1, c2] 68)).alloc (.cells #[.int .i64 3, .int .i32 val, .string nm, .int .i64 ln, .int .i64 cl] 60)) := ((Below.refl _ _).alloc (Nat.le_refl _) _).alloc (by simp) _
  have kW := worth_any S nm b n c1 c2 ((w.alloc (.cells #[.map (some b), c1, c2] 68)).alloc (.cells #[.int .i64 3, .int .i32 val, .string nm, .int .i64 ln, .int .i64 cl] 60)) (hM.below hb1 hM.lt) hs
  generalize wtF S nm = r at *
  obtain ⟨r1, r2⟩ := r
  simp only at *
  go_enter Tryd.func22, Tryd.ntmps22
  go_wp2_with fail
  go_at_call 35
  refine Calls.mono kW ?_
  rintro e w2 ⟨rfl, h2⟩
  have hb2 := bel_after hb1 hb1.size h2
  go_wp2_with fail
  exact bodyPost_ret (v := .tuple #[.int .i64 r1, .int .i64 r2]) (by simp [results, Tryd.results22, go_sem]) rfl ⟨rfl, hb2⟩
set_option maxRecDepth 100000 in
set_option maxHeartbeats 8000000 in
theorem leafC5 (S : List Sy) (b n : Nat) (c1 c2 : Value) (w : World) (hM : MpS w b n S) (val : Int) (nm : ByteArray) (hs : nm.size ≤ maxLen) (ln cl : Int) : CLeaf S b c1 c2 w ⟨5, val, nm, ln, cl⟩ := by
  unfold CLeaf
  have hb1 : Below w.heap.size w ((w.alloc (.cells #[.map (some b), c1, c2] 68)).alloc (.cells #[.int .i64 5, .int .i32 val, .string nm, .int .i64 ln, .int .i64 cl] 60)) := ((Below.refl _ _).alloc (Nat.le_refl _) _).alloc (by simp) _
  have hb2 : Below w.heap.size w (((w.alloc (.cells #[.map (some b), c1, c2] 68)).alloc (.cells #[.int .i64 5, .int .i32 val, .string nm, .int .i64 ln, .int .i64 cl] 60)).alloc (.cells #[.int .i64 2] 3)) := hb1.alloc hb1.size _
  have K1 : Has ((w.alloc (.cells #[.map (some b), c1, c2] 68)).alloc (.cells #[.int .i64 5, .int .i32 val, .string nm, .int .i64 ln, .int .i64 cl] 60)) (w.alloc (.cells #[.map (some b), c1, c2] 68)).heap.size #[.int .i64 5, .int .i32 val, .string nm, .int .i64 ln, .int .i64 cl] := Has.new _ _ _ rfl
  have kF := find_any S nm [2] b n ((w.alloc (.cells #[.map (some b), c1, c2] 68)).alloc (.cells #[.int .i64 5, .int .i32 val, .string nm, .int .i64 ln, .int .i64 cl] 60)).heap.size 0 1 (((w.alloc (.cells #[.map (some b), c1, c2] 68)).alloc (.cells #[.int .i64 5, .int .i32 val, .string nm, .int .i64 ln, .int .i64 cl] 60)).alloc (.cells #[.int .i64 2] 3)) (hM.below hb2 hM.lt) hs (by decide) (by simp) (one_cell _ 3)
  have hz : ((w.alloc (.cells #[.map (some b), c1, c2] 68)).alloc (.cells #[.int .i64 5, .int .i32 val, .string nm, .int .i64 ln, .int .i64 cl] 60)).heap.size = w.heap.size + 1 + 1 := by simp
  have hy : (w.alloc (.cells #[.map (some b), c1, c2] 68)).heap.size = w.heap.size + 1 := by simp
  rw [hz] at kF
  rw [hy] at K1
  unfold fdV at kF
  cases hf : fsS S nm with
  | none =>
    have e : lfF S ⟨5, val, nm, ln, cl⟩ = (0, 51) := by unfold lfF; rw [fs_fk, hf]; simp
    rw [e]
    simp only [hf, zSy] at *
    go_enter Tryd.func22, Tryd.ntmps22
    go_wp2_with fail
    go_at_call 34
    refine Calls.mono kF ?_
    rintro e w2 ⟨rfl, h2⟩
    have hb3 := bel_after hb2 hb2.size h2
    have K2 := (K1.alloc (.cells #[.int .i64 2] 3)).below h2
    obtain ⟨_, q1, q2⟩ := id K2
    go_wp2_with fail
    exact bodyPost_ret (v := .tuple #[.int .i64 0, .int .i64 51]) (by simp [results, Tryd.results22, go_sem]) rfl ⟨rfl, hb3.alloc hb3.size _⟩
  | some s =>
    have e : lfF S ⟨5, val, nm, ln, cl⟩ = (if s.kind = 2 then (2, 0) else (0, 52)) := by unfold lfF; rw [fs_fk, hf]; simp
    rw [e]
    obtain ⟨sn, sk, si, sl, sq⟩ := s
    simp only [hf, List.mem_singleton] at *
    by_cases h2 : sk = 2
    · rw [if_pos h2] at kF ⊢
      simp only [Sy.ag] at *
      have kR := fun X => rule5 X
      have kR : ∀ X : World, Calls Tryd.prog 32 #[.int .i64 5] X fun e w' => e = .returned (.agg #[.int .i64 0, .int .i64 0, .int .i64 2]) ∧ Below X.heap.size X w' := kR
      have fl := fun X => fld136 0 0 2 X
      go_enter Tryd.func22, Tryd.ntmps22
      go_wp2_with fail
      go_at_call 34
      refine Calls.mono kF ?_
      rintro e w2 ⟨rfl, h2⟩
      have hb3 := bel_after hb2 hb2.size h2
      have K2 := (K1.alloc (.cells #[.int .i64 2] 3)).below h2
      obtain ⟨_, q1, q2⟩ := id K2
      go_wp2_with fail
      go_at_call 32
      refine Calls.mono (kR _) ?_
      rintro e w4 ⟨rfl, h4⟩
      have hb4 := bel_after (hb3.alloc hb3.size _) (hb3.alloc hb3.size _).size h4
      go_wp2_with fail
      exact bodyPost_ret (v := .tuple #[.int .i64 2, .int .i64 0]) (by simp [results, Tryd.results22, go_sem]) rfl ⟨rfl, hb4⟩
    · rw [if_neg h2] at kF ⊢
      simp only [zSy] at *
      go_enter Tryd.func22, Tryd.ntmps22
      go_wp2_with fail
      go_at_call 34
      refine Calls.mono kF ?_
      rintro e w2 ⟨rfl, h2⟩
      have hb3 := bel_after hb2 hb2.size h2
      have K2 := (K1.alloc (.cells #[.int .i64 2] 3)).below h2
      obtain ⟨_, q1, q2⟩ := id K2
      go_wp2_with fail
      exact bodyPost_ret (v := .tuple #[.int .i64 0, .int .i64 52]) (by simp [results, Tryd.results22, go_sem]) rfl ⟨rfl, hb3.alloc hb3.size _⟩
set_option maxRecDepth 100000 in
set_option maxHeartbeats 8000000 in
theorem leafC6 (S : List Sy) (b n : Nat) (c1 c2 : Value) (w : World) (hM : MpS w b n S) (val : Int) (nm : ByteArray) (hs : nm.size ≤ maxLen) (ln cl : Int) : CLeaf S b c1 c2 w ⟨6, val, nm, ln, cl⟩ := by
  unfold CLeaf
  have hb1 : Below w.heap.size w ((w.alloc (.cells #[.map (some b), c1, c2] 68)).alloc (.cells #[.int .i64 6, .int .i32 val, .string nm, .int .i64 ln, .int .i64 cl] 60)) := ((Below.refl _ _).alloc (Nat.le_refl _) _).alloc (by simp) _
  have hb2 : Below w.heap.size w (((w.alloc (.cells #[.map (some b), c1, c2] 68)).alloc (.cells #[.int .i64 6, .int .i32 val, .string nm, .int .i64 ln, .int .i64 cl] 60)).alloc (.cells #[.int .i64 2] 3)) := hb1.alloc hb1.size _
  have K1 : Has ((w.alloc (.cells #[.map (some b), c1, c2] 68)).alloc (.cells #[.int .i64 6, .int .i32 val, .string nm, .int .i64 ln, .int .i64 cl] 60)) (w.alloc (.cells #[.map (some b), c1, c2] 68)).heap.size #[.int .i64 6, .int .i32 val, .string nm, .int .i64 ln, .int .i64 cl] := Has.new _ _ _ rfl
  have kF := find_any S nm [2] b n ((w.alloc (.cells #[.map (some b), c1, c2] 68)).alloc (.cells #[.int .i64 6, .int .i32 val, .string nm, .int .i64 ln, .int .i64 cl] 60)).heap.size 0 1 (((w.alloc (.cells #[.map (some b), c1, c2] 68)).alloc (.cells #[.int .i64 6, .int .i32 val, .string nm, .int .i64 ln, .int .i64 cl] 60)).alloc (.cells #[.int .i64 2] 3)) (hM.below hb2 hM.lt) hs (by decide) (by simp) (one_cell _ 3)
  have hz : ((w.alloc (.cells #[.map (some b), c1, c2] 68)).alloc (.cells #[.int .i64 6, .int .i32 val, .string nm, .int .i64 ln, .int .i64 cl] 60)).heap.size = w.heap.size + 1 + 1 := by simp
  have hy : (w.alloc (.cells #[.map (some b), c1, c2] 68)).heap.size = w.heap.size + 1 := by simp
  rw [hz] at kF
  rw [hy] at K1
  unfold fdV at kF
  cases hf : fsS S nm with
  | none =>
    have e : lfF S ⟨6, val, nm, ln, cl⟩ = (0, 51) := by unfold lfF; rw [fs_fk, hf]; simp
    rw [e]
    simp only [hf, zSy] at *
    go_enter Tryd.func22, Tryd.ntmps22
    go_wp2_with fail
    go_at_call 34
    refine Calls.mono kF ?_
    rintro e w2 ⟨rfl, h2⟩
    have hb3 := bel_after hb2 hb2.size h2
    have K2 := (K1.alloc (.cells #[.int .i64 2] 3)).below h2
    obtain ⟨_, q1, q2⟩ := id K2
    go_wp2_with fail
    exact bodyPost_ret (v := .tuple #[.int .i64 0, .int .i64 51]) (by simp [results, Tryd.results22, go_sem]) rfl ⟨rfl, hb3.alloc hb3.size _⟩
  | some s =>
    have e : lfF S ⟨6, val, nm, ln, cl⟩ = (if s.kind = 2 then (2, 0) else (0, 52)) := by unfold lfF; rw [fs_fk, hf]; simp
    rw [e]
    obtain ⟨sn, sk, si, sl, sq⟩ := s
    simp only [hf, List.mem_singleton] at *
    by_cases h2 : sk = 2
    · rw [if_pos h2] at kF ⊢
      simp only [Sy.ag] at *
      have kR := fun X => rule6 X
      have kR : ∀ X : World, Calls Tryd.prog 32 #[.int .i64 6] X fun e w' => e = .returned (.agg #[.int .i64 0, .int .i64 0, .int .i64 2]) ∧ Below X.heap.size X w' := kR
      have fl := fun X => fld136 0 0 2 X
      go_enter Tryd.func22, Tryd.ntmps22
      go_wp2_with fail
      go_at_call 34
      refine Calls.mono kF ?_
      rintro e w2 ⟨rfl, h2⟩
      have hb3 := bel_after hb2 hb2.size h2
      have K2 := (K1.alloc (.cells #[.int .i64 2] 3)).below h2
      obtain ⟨_, q1, q2⟩ := id K2
      go_wp2_with fail
      go_at_call 32
      refine Calls.mono (kR _) ?_
      rintro e w4 ⟨rfl, h4⟩
      have hb4 := bel_after (hb3.alloc hb3.size _) (hb3.alloc hb3.size _).size h4
      go_wp2_with fail
      exact bodyPost_ret (v := .tuple #[.int .i64 2, .int .i64 0]) (by simp [results, Tryd.results22, go_sem]) rfl ⟨rfl, hb4⟩
    · rw [if_neg h2] at kF ⊢
      simp only [zSy] at *
      go_enter Tryd.func22, Tryd.ntmps22
      go_wp2_with fail
      go_at_call 34
      refine Calls.mono kF ?_
      rintro e w2 ⟨rfl, h2⟩
      have hb3 := bel_after hb2 hb2.size h2
      have K2 := (K1.alloc (.cells #[.int .i64 2] 3)).below h2
      obtain ⟨_, q1, q2⟩ := id K2
      go_wp2_with fail
      exact bodyPost_ret (v := .tuple #[.int .i64 0, .int .i64 52]) (by simp [results, Tryd.results22, go_sem]) rfl ⟨rfl, hb3.alloc hb3.size _⟩
theorem leafC_any (S : List Sy) (b n : Nat) (c1 c2 : Value) (w : World) (hM : MpS w b n S) (x : Nd) (hs : x.name.size ≤ maxLen) (ho : x.op = 1 ∨ x.op = 2 ∨ x.op = 3 ∨ x.op = 4 ∨ x.op = 5 ∨ x.op = 6) : CLeaf S b c1 c2 w x := by
  obtain ⟨op, val, nm, ln, cl⟩ := x
  simp only at ho hs
  rcases ho with rfl | rfl | rfl | rfl | rfl | rfl
  · exact leafC1 S b c1 c2 w val nm ln cl
  · exact leafC2 S b c1 c2 w val nm ln cl
  · exact leafC3 S b n c1 c2 w hM val nm hs ln cl
  · exact leafC4 S b c1 c2 w val nm ln cl
  · exact leafC5 S b n c1 c2 w hM val nm hs ln cl
  · exact leafC6 S b n c1 c2 w hM val nm hs ln cl
end Go.Proofs.YtfmdlcfkfglnhaaDoor
