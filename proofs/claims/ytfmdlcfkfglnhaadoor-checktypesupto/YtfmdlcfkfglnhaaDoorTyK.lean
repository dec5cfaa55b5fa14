import Derived.Test.YtfmdlcfkfglnhaaDoorTyJ
namespace Go.Proofs.YtfmdlcfkfglnhaaDoor
open Go.RowKit
set_option linter.unusedVariables false

def kd6 : List Int := [1, 7, 5, 6, 4, 8]
theorem kd6_wr (k : Int) : k ∈ kd6 ↔ ¬ wrF k = 0 := by
  unfold kd6 wrF
  simp only [List.mem_cons, List.not_mem_nil, or_false]
  by_cases h1 : k = 1 ∨ k = 5 ∨ k = 6 ∨ k = 7
  · rw [if_pos h1]; constructor <;> intro _ <;> omega
  · rw [if_neg h1]
    by_cases h2 : k = 4 ∨ k = 8
    · rw [if_pos h2]; constructor <;> intro _ <;> omega
    · rw [if_neg h2]; constructor <;> intro _ <;> omega
theorem kd6_cells (W : World) (t : TypeId) : ∀ i (h : i < kd6.length), (W.alloc (.cells #[.int .i64 1, .int .i64 7, .int .i64 5, .int .i64 6, .int .i64 4, .int .i64 8] t)).cell? ⟨W.heap.size, 0 + i, none⟩ = some (.int .i64 kd6[i]) := by
  intro i h
  have e : ([.int .i64 1, .int .i64 7, .int .i64 5, .int .i64 6, .int .i64 4, .int .i64 8] : List Value)[i]? = some (.int .i64 kd6[i]) := by
    match i, h with
    | 0, _ => rfl
    | 1, _ => rfl
    | 2, _ => rfl
    | 3, _ => rfl
    | 4, _ => rfl
    | 5, _ => rfl
  simpa using e
/-- What worth answers: a type and an error. -/
def wtF (S : List Sy) (nm : ByteArray) : Int × Int := match fsS S nm with
  | none => (0, 51)
  | some s => if wrF s.kind = 0 then (0, 52) else (wrF s.kind, 0)
set_option maxRecDepth 100000 in
set_option maxHeartbeats 8000000 in
theorem worth_any (S : List Sy) (nm : ByteArray) (b n : Nat) (c1 c2 : Value) (w : World) (hM : MpS w b n S) (hs : nm.size ≤ maxLen) :
    Calls Tryd.prog 35 #[.agg #[.map (some b), c1, c2], .string nm] w fun e w' => e = .returned (.tuple #[.int .i64 (wtF S nm).1, .int .i64 (wtF S nm).2]) ∧ Below w.heap.size w w' := by
  have hb1 : Below w.heap.size w (w.alloc (.cells #[.map (some b), c1, c2] 68)) := bel1 _
  have kF := find_any S nm kd6 b n (w.alloc (.cells #[.map (some b), c1, c2] 68)).heap.size 0 6 ((w.alloc (.cells #[.map (some b), c1, c2] 68)).alloc (.cells #[.int .i64 1, .int .i64 7, .int .i64 5, .int .i64 6, .int .i64 4, .int .i64 8] 3)) (hM.below (hb1.alloc hb1.size _) hM.lt) hs (by decide) (by simp) (kd6_cells _ 3)
  have hz : (w.alloc (.cells #[.map (some b), c1, c2] 68)).heap.size = w.heap.size + 1 := by simp
  rw [hz] at kF
  have hb2 : Below w.heap.size w ((w.alloc (.cells #[.map (some b), c1, c2] 68)).alloc (.cells #[.int .i64 1, .int .i64 7, .int .i64 5, .int .i64 6, .int .i64 4, .int .i64 8] 3)) := hb1.alloc hb1.size _
  unfold wtF
  unfold fdV at kF
  cases hf : fsS S nm with
  | none =>
    simp only [hf, zSy] at *
    go_enter Tryd.func35, Tryd.ntmps35
    go_wp2_with fail
    go_at_call 34
    refine Calls.mono kF ?_
    rintro e w2 ⟨rfl, h2⟩
    have hb3 := bel_after hb2 hb2.size h2
    go_wp2_with fail
    exact bodyPost_ret (v := .tuple #[.int .i64 0, .int .i64 51]) (by simp [results, Tryd.results35, go_sem]) rfl ⟨rfl, hb3.alloc hb3.size _⟩
  | some s =>
    have hk6 := kd6_wr s.kind
    obtain ⟨sn, sk, si, sl, sq⟩ := s
    simp only [hf] at *
    by_cases hw : wrF sk = 0
    · rw [if_neg (fun q => hk6.1 q hw)] at kF
      rw [if_pos hw]
      simp only [zSy] at *
      go_enter Tryd.func35, Tryd.ntmps35
      go_wp2_with fail
      go_at_call 34
      refine Calls.mono kF ?_
      rintro e w2 ⟨rfl, h2⟩
      have hb3 := bel_after hb2 hb2.size h2
      go_wp2_with fail
      exact bodyPost_ret (v := .tuple #[.int .i64 0, .int .i64 52]) (by simp [results, Tryd.results35, go_sem]) rfl ⟨rfl, hb3.alloc hb3.size _⟩
    · rw [if_pos (hk6.2 hw)] at kF
      rw [if_neg hw]
      simp only [Sy.ag] at *
      by_cases h2 : sk = 4 ∨ sk = 8
      · have e2 : wrF sk = 2 := by unfold wrF; rw [if_neg (by omega), if_pos h2]
        rw [e2]
        clear hk6 e2 hw hf
        rcases h2 with rfl | rfl
        · go_enter Tryd.func35, Tryd.ntmps35
          go_wp2_with fail
          go_at_call 34
          refine Calls.mono kF ?_
          rintro e w2 ⟨rfl, h2⟩
          have hb3 := bel_after hb2 hb2.size h2
          go_wp2_with fail
          exact bodyPost_ret (v := .tuple #[.int .i64 2, .int .i64 0]) (by simp [results, Tryd.results35, go_sem]) rfl ⟨rfl, hb3.alloc hb3.size _⟩
        · go_enter Tryd.func35, Tryd.ntmps35
          go_wp2_with fail
          go_at_call 34
          refine Calls.mono kF ?_
          rintro e w2 ⟨rfl, h2⟩
          have hb3 := bel_after hb2 hb2.size h2
          go_wp2_with fail
          exact bodyPost_ret (v := .tuple #[.int .i64 2, .int .i64 0]) (by simp [results, Tryd.results35, go_sem]) rfl ⟨rfl, hb3.alloc hb3.size _⟩
      · have e2 : wrF sk = 1 := by unfold wrF at *; by_cases q : sk = 1 ∨ sk = 5 ∨ sk = 6 ∨ sk = 7; rw [if_pos q]; rw [if_neg q, if_neg h2] at hw; exact absurd rfl hw
        rw [e2]
        have n4 : (sk == 4) = false := by simp; omega
        have n8 : (sk == 8) = false := by simp; omega
        clear hk6 e2 hw hf
        go_enter Tryd.func35, Tryd.ntmps35
        go_wp2_with fail
        go_at_call 34
        refine Calls.mono kF ?_
        rintro e w2 ⟨rfl, h2⟩
        have hb3 := bel_after hb2 hb2.size h2
        go_wp2_with fail
        exact bodyPost_ret (v := .tuple #[.int .i64 1, .int .i64 0]) (by simp [results, Tryd.results35, go_sem]) rfl ⟨rfl, hb3.alloc hb3.size _⟩
end Go.Proofs.YtfmdlcfkfglnhaaDoor
