import Derived.Test.YtfmdlcfkfglnhaaDoorTyA
import Derived.Test.YtfmdlcfkfglnhaaDoorTyB
namespace Go.Proofs.YtfmdlcfkfglnhaaDoor
open Go.RowKit
set_option linter.unusedVariables false

theorem bel1 {w : World} (o : Obj) : Below w.heap.size w (w.alloc o) := (Below.refl _ _).alloc (Nat.le_refl _) o
theorem findR_none (S : List Sy) (v : Value) (nm : ByteArray) (w : World) (h : Ens w v S) (hl : S.length ≤ 4611686018427387904) (hf : fkS S nm = none) :
    Calls Tryd.prog 41 #[v, .int .i64 0, .string nm] w fun e w' => e = .returned (.int .i64 (-1)) ∧ Below w.heap.size w w' := by
  refine (findR_any S v nm w h hl).mono ?_
  rintro e w' ⟨⟨_, he⟩ | ⟨i, hi, q, _⟩, hb⟩
  · exact ⟨he, hb⟩
  · rw [hf] at q; cases q
theorem findR_some (S : List Sy) (v : Value) (nm : ByteArray) (kk : Int) (w : World) (h : Ens w v S) (hl : S.length ≤ 4611686018427387904) (hf : fkS S nm = some kk) :
    Calls Tryd.prog 41 #[v, .int .i64 0, .string nm] w fun e w' => ∃ i, ∃ hi : i < S.length, S[i].kind = kk ∧ e = .returned (.int .i64 (i : Int)) ∧ Below w.heap.size w w' := by
  refine (findR_any S v nm w h hl).mono ?_
  rintro e w' ⟨⟨q, _⟩ | ⟨i, hi, q, he⟩, hb⟩
  · rw [hf] at q; cases q
  · rw [hf] at q
    exact ⟨i, hi, (Option.some.inj q).symm, he, hb⟩
/-- A leaf as the reference sees it. -/
def RLeaf (S : List Sy) (v : Value) (w : World) (x : Nd) : Prop := Calls Tryd.prog 26 #[v, .int .i64 0, .agg #[.int .i64 x.op, .int .i32 x.val, .string x.name, .int .i64 x.line, .int .i64 x.col]] w fun e w' => e = .returned (.tuple #[.int .i64 (lfF S x).1, .int .i64 (lfF S x).2]) ∧ Below w.heap.size w w'
set_option maxRecDepth 100000 in
set_option maxHeartbeats 4000000 in
theorem leafR1 (S : List Sy) (v : Value) (w : World) (val : Int) (nm : ByteArray) (ln cl : Int) : RLeaf S v w ⟨1, val, nm, ln, cl⟩ := by
  have e : lfF S ⟨1, val, nm, ln, cl⟩ = (1, 0) := by unfold lfF; simp
  unfold RLeaf
  rw [e]
  simp only
  have hb0 : Below w.heap.size w (w.alloc (.cells #[.int .i64 1, .int .i32 val, .string nm, .int .i64 ln, .int .i64 cl] 60)) := bel1 _
  go_enter Tryd.func26, Tryd.ntmps26
  go_wp2_with fail
  refine bodyPost_ret (v := .tuple #[.int .i64 1, .int .i64 0]) (by simp [results, Tryd.results26, go_sem]) rfl ⟨rfl, hb0⟩
set_option maxRecDepth 100000 in
set_option maxHeartbeats 4000000 in
theorem leafR4 (S : List Sy) (v : Value) (w : World) (val : Int) (nm : ByteArray) (ln cl : Int) : RLeaf S v w ⟨4, val, nm, ln, cl⟩ := by
  have e : lfF S ⟨4, val, nm, ln, cl⟩ = (1, 0) := by unfold lfF; simp
  unfold RLeaf
  rw [e]
  simp only
  have hb0 : Below w.heap.size w (w.alloc (.cells #[.int .i64 4, .int .i32 val, .string nm, .int .i64 ln, .int .i64 cl] 60)) := bel1 _
  go_enter Tryd.func26, Tryd.ntmps26
  go_wp2_with fail
  refine bodyPost_ret (v := .tuple #[.int .i64 1, .int .i64 0]) (by simp [results, Tryd.results26, go_sem]) rfl ⟨rfl, hb0⟩
set_option maxRecDepth 100000 in
set_option maxHeartbeats 4000000 in
theorem leafR2 (S : List Sy) (v : Value) (w : World) (val : Int) (nm : ByteArray) (ln cl : Int) : RLeaf S v w ⟨2, val, nm, ln, cl⟩ := by
  have e : lfF S ⟨2, val, nm, ln, cl⟩ = (2, 0) := by unfold lfF; simp
  unfold RLeaf
  rw [e]
  simp only
  have hb0 : Below w.heap.size w (w.alloc (.cells #[.int .i64 2, .int .i32 val, .string nm, .int .i64 ln, .int .i64 cl] 60)) := bel1 _
  go_enter Tryd.func26, Tryd.ntmps26
  go_wp2_with fail
  refine bodyPost_ret (v := .tuple #[.int .i64 2, .int .i64 0]) (by simp [results, Tryd.results26, go_sem]) rfl ⟨rfl, hb0⟩
set_option maxRecDepth 100000 in
set_option maxHeartbeats 4000000 in
theorem leafR3 (S : List Sy) (v : Value) (w : World) (h : Ens w v S) (hl : S.length ≤ 4611686018427387904) (val : Int) (nm : ByteArray) (ln cl : Int) : RLeaf S v w ⟨3, val, nm, ln, cl⟩ := by
  unfold RLeaf
  have hb0 : Below w.heap.size w (w.alloc (.cells #[.int .i64 3, .int .i32 val, .string nm, .int .i64 ln, .int .i64 cl] 60)) := bel1 _
  have K0 : Has (w.alloc (.cells #[.int .i64 3, .int .i32 val, .string nm, .int .i64 ln, .int .i64 cl] 60)) w.heap.size #[.int .i64 3, .int .i32 val, .string nm, .int .i64 ln, .int .i64 cl] := Has.new _ _ _ rfl
  cases hf : fkS S nm with
  | none =>
    have e : lfF S ⟨3, val, nm, ln, cl⟩ = (0, 51) := by unfold lfF; simp [hf]
    rw [e]
    simp only
    have kF := fun (X : World) (hX : Below w.heap.size w X) => findR_none S v nm X (h.below hX) hl hf
    obtain ⟨a, cap, rfl, -⟩ := h
    go_enter Tryd.func26, Tryd.ntmps26
    go_wp2_with (go_at_call 41; (with_reducible refine Calls.mono (kF _ (by exact hb0)) ?_); rintro e w1 ⟨rfl, h1⟩; have hb1 := bel_after hb0 hb0.size h1)
    refine bodyPost_ret (v := .tuple #[.int .i64 0, .int .i64 51]) (by simp [results, Tryd.results26, go_sem]) rfl ⟨rfl, hb1⟩
  | some kk =>
    have e : lfF S ⟨3, val, nm, ln, cl⟩ = (if wrF kk = 0 then (0, 52) else (wrF kk, 0)) := by unfold lfF; simp [hf]
    rw [e]
    have kF := fun (X : World) (hX : Below w.heap.size w X) => findR_some S v nm kk X (h.below hX) hl hf
    have kW := worthR_any kk
    obtain ⟨a, cap, rfl, hc⟩ := h
    obtain ⟨g, o, rfl, hg, hx⟩ := hc.resolve_left (by intro q; rw [q] at hf; cases hf)
    have kC : ∀ X : World, Below w.heap.size w X → ∀ i (hi : i < S.length), X.cell? ⟨g, o + i * 8 + 1, none⟩ = some (.int .i64 S[i].kind) := fun X hX i hi => (hX.cell (p := ⟨g, _, none⟩) hg).trans (hx i hi).2.1
    clear hc hx
    go_enter Tryd.func26, Tryd.ntmps26
    by_cases hz : wrF kk = 0
    · rw [if_pos hz]
      rw [hz] at kW
      go_wp2_with fail
      go_at_call 41
      refine Calls.mono (kF _ (by exact hb0)) ?_
      rintro e w1 ⟨i, hi, hk, rfl, h1⟩
      have hb1 := bel_after hb0 hb0.size h1
      have p1 : w1.cell? ⟨g, o + i * 8 + 1, none⟩ = some (.int .i64 kk) := hk ▸ kC _ hb1 i hi
      have s1 : (0 : Int) ≤ (i : Int) := by omega
      have s2 : (i : Int) < (S.length : Int) := by omega
      have s3 : ¬ (i : Int) < 0 := by omega
      have K1 := K0.below h1
      obtain ⟨_, q1, _⟩ := id K1
      go_wp2_with fail
      go_at_call 42
      refine Calls.mono (kW _) ?_
      rintro e w2 ⟨rfl, h2⟩
      have hb2 := bel_after hb1 hb1.size h2
      have p2 : w2.cell? ⟨g, o + i * 8 + 1, none⟩ = some (.int .i64 kk) := hk ▸ kC _ hb2 i hi
      have K2 := K1.below h2
      obtain ⟨_, q2, _⟩ := id K2
      go_wp2_with fail
      refine bodyPost_ret (v := .tuple #[.int .i64 0, .int .i64 52]) (by simp [results, Tryd.results26, go_sem]) rfl ⟨rfl, hb2⟩
    · rw [if_neg hz]
      have n0 : (wrF kk == 0) = false := by simpa using hz
      generalize wrF kk = wk at *
      go_wp2_with fail
      go_at_call 41
      refine Calls.mono (kF _ (by exact hb0)) ?_
      rintro e w1 ⟨i, hi, hk, rfl, h1⟩
      have hb1 := bel_after hb0 hb0.size h1
      have p1 : w1.cell? ⟨g, o + i * 8 + 1, none⟩ = some (.int .i64 kk) := hk ▸ kC _ hb1 i hi
      have s1 : (0 : Int) ≤ (i : Int) := by omega
      have s2 : (i : Int) < (S.length : Int) := by omega
      have s3 : ¬ (i : Int) < 0 := by omega
      have K1 := K0.below h1
      obtain ⟨_, q1, _⟩ := id K1
      go_wp2_with fail
      go_at_call 42
      refine Calls.mono (kW _) ?_
      rintro e w2 ⟨rfl, h2⟩
      have hb2 := bel_after hb1 hb1.size h2
      have p2 : w2.cell? ⟨g, o + i * 8 + 1, none⟩ = some (.int .i64 kk) := hk ▸ kC _ hb2 i hi
      have K2 := K1.below h2
      obtain ⟨_, q2, _⟩ := id K2
      go_wp2_with fail
      refine bodyPost_ret (v := .tuple #[.int .i64 wk, .int .i64 0]) (by simp [results, Tryd.results26, go_sem]) rfl ⟨rfl, hb2⟩
set_option maxRecDepth 100000 in
set_option maxHeartbeats 4000000 in
theorem leafR5 (S : List Sy) (v : Value) (w : World) (h : Ens w v S) (hl : S.length ≤ 4611686018427387904) (val : Int) (nm : ByteArray) (ln cl : Int) : RLeaf S v w ⟨5, val, nm, ln, cl⟩ := by
  unfold RLeaf
  have hb0 : Below w.heap.size w (w.alloc (.cells #[.int .i64 5, .int .i32 val, .string nm, .int .i64 ln, .int .i64 cl] 60)) := bel1 _
  have K0 : Has (w.alloc (.cells #[.int .i64 5, .int .i32 val, .string nm, .int .i64 ln, .int .i64 cl] 60)) w.heap.size #[.int .i64 5, .int .i32 val, .string nm, .int .i64 ln, .int .i64 cl] := Has.new _ _ _ rfl
  cases hf : fkS S nm with
  | none =>
    have e : lfF S ⟨5, val, nm, ln, cl⟩ = (0, 51) := by unfold lfF; simp [hf]
    rw [e]
    simp only
    have kF := fun (X : World) (hX : Below w.heap.size w X) => findR_none S v nm X (h.below hX) hl hf
    obtain ⟨a, cap, rfl, -⟩ := h
    go_enter Tryd.func26, Tryd.ntmps26
    go_wp2_with (go_at_call 41; (with_reducible refine Calls.mono (kF _ (by exact hb0)) ?_); rintro e w1 ⟨rfl, h1⟩; have hb1 := bel_after hb0 hb0.size h1)
    refine bodyPost_ret (v := .tuple #[.int .i64 0, .int .i64 51]) (by simp [results, Tryd.results26, go_sem]) rfl ⟨rfl, hb1⟩
  | some kk =>
    have e : lfF S ⟨5, val, nm, ln, cl⟩ = (if kk = 2 then (2, 0) else (0, 52)) := by unfold lfF; simp [hf]
    rw [e]
    have kF := fun (X : World) (hX : Below w.heap.size w X) => findR_some S v nm kk X (h.below hX) hl hf
    have kW := worthR_any kk
    obtain ⟨a, cap, rfl, hc⟩ := h
    obtain ⟨g, o, rfl, hg, hx⟩ := hc.resolve_left (by intro q; rw [q] at hf; cases hf)
    have kC : ∀ X : World, Below w.heap.size w X → ∀ i (hi : i < S.length), X.cell? ⟨g, o + i * 8 + 1, none⟩ = some (.int .i64 S[i].kind) := fun X hX i hi => (hX.cell (p := ⟨g, _, none⟩) hg).trans (hx i hi).2.1
    clear hc hx
    go_enter Tryd.func26, Tryd.ntmps26
    generalize wrF kk = wk at *
    by_cases hz : kk = 2
    · rw [if_pos hz]
      subst hz
      go_wp2_with fail
      go_at_call 41
      refine Calls.mono (kF _ (by exact hb0)) ?_
      rintro e w1 ⟨i, hi, hk, rfl, h1⟩
      have hb1 := bel_after hb0 hb0.size h1
      have p1 : w1.cell? ⟨g, o + i * 8 + 1, none⟩ = some (.int .i64 2) := hk ▸ kC _ hb1 i hi
      have s1 : (0 : Int) ≤ (i : Int) := by omega
      have s2 : (i : Int) < (S.length : Int) := by omega
      have s3 : ¬ (i : Int) < 0 := by omega
      have K1 := K0.below h1
      obtain ⟨_, q1, _⟩ := id K1
      go_wp2_with fail
      go_at_call 42
      refine Calls.mono (kW _) ?_
      rintro e w2 ⟨rfl, h2⟩
      have hb2 := bel_after hb1 hb1.size h2
      have p2 : w2.cell? ⟨g, o + i * 8 + 1, none⟩ = some (.int .i64 2) := hk ▸ kC _ hb2 i hi
      have K2 := K1.below h2
      obtain ⟨_, q2, _⟩ := id K2
      go_wp2_with fail
      refine bodyPost_ret (v := .tuple #[.int .i64 2, .int .i64 0]) (by simp [results, Tryd.results26, go_sem]) rfl ⟨rfl, hb2⟩
    · rw [if_neg hz]
      have n0 : (kk == 2) = false := by simpa using hz
      go_wp2_with fail
      go_at_call 41
      refine Calls.mono (kF _ (by exact hb0)) ?_
      rintro e w1 ⟨i, hi, hk, rfl, h1⟩
      have hb1 := bel_after hb0 hb0.size h1
      have p1 : w1.cell? ⟨g, o + i * 8 + 1, none⟩ = some (.int .i64 kk) := hk ▸ kC _ hb1 i hi
      have s1 : (0 : Int) ≤ (i : Int) := by omega
      have s2 : (i : Int) < (S.length : Int) := by omega
      have s3 : ¬ (i : Int) < 0 := by omega
      have K1 := K0.below h1
      obtain ⟨_, q1, _⟩ := id K1
      go_wp2_with fail
      go_at_call 42
      refine Calls.mono (kW _) ?_
      rintro e w2 ⟨rfl, h2⟩
      have hb2 := bel_after hb1 hb1.size h2
      have p2 : w2.cell? ⟨g, o + i * 8 + 1, none⟩ = some (.int .i64 kk) := hk ▸ kC _ hb2 i hi
      have K2 := K1.below h2
      obtain ⟨_, q2, _⟩ := id K2
      go_wp2_with fail
      refine bodyPost_ret (v := .tuple #[.int .i64 0, .int .i64 52]) (by simp [results, Tryd.results26, go_sem]) rfl ⟨rfl, hb2⟩
set_option maxRecDepth 100000 in
set_option maxHeartbeats 4000000 in
theorem leafR6 (S : List Sy) (v : Value) (w : World) (h : Ens w v S) (hl : S.length ≤ 4611686018427387904) (val : Int) (nm : ByteArray) (ln cl : Int) : RLeaf S v w ⟨6, val, nm, ln, cl⟩ := by
  unfold RLeaf
  have hb0 : Below w.heap.size w (w.alloc (.cells #[.int .i64 6, .int .i32 val, .string nm, .int .i64 ln, .int .i64 cl] 60)) := bel1 _
  have K0 : Has (w.alloc (.cells #[.int .i64 6, .int .i32 val, .string nm, .int .i64 ln, .int .i64 cl] 60)) w.heap.size #[.int .i64 6, .int .i32 val, .string nm, .int .i64 ln, .int .i64 cl] := Has.new _ _ _ rfl
  cases hf : fkS S nm with
  | none =>
    have e : lfF S ⟨6, val, nm, ln, cl⟩ = (0, 51) := by unfold lfF; simp [hf]
    rw [e]
    simp only
    have kF := fun (X : World) (hX : Below w.heap.size w X) => findR_none S v nm X (h.below hX) hl hf
    obtain ⟨a, cap, rfl, -⟩ := h
    go_enter Tryd.func26, Tryd.ntmps26
    go_wp2_with (go_at_call 41; (with_reducible refine Calls.mono (kF _ (by exact hb0)) ?_); rintro e w1 ⟨rfl, h1⟩; have hb1 := bel_after hb0 hb0.size h1)
    refine bodyPost_ret (v := .tuple #[.int .i64 0, .int .i64 51]) (by simp [results, Tryd.results26, go_sem]) rfl ⟨rfl, hb1⟩
  | some kk =>
    have e : lfF S ⟨6, val, nm, ln, cl⟩ = (if kk = 2 then (2, 0) else (0, 52)) := by unfold lfF; simp [hf]
    rw [e]
    have kF := fun (X : World) (hX : Below w.heap.size w X) => findR_some S v nm kk X (h.below hX) hl hf
    have kW := worthR_any kk
    obtain ⟨a, cap, rfl, hc⟩ := h
    obtain ⟨g, o, rfl, hg, hx⟩ := hc.resolve_left (by intro q; rw [q] at hf; cases hf)
    have kC : ∀ X : World, Below w.heap.size w X → ∀ i (hi : i < S.length), X.cell? ⟨g, o + i * 8 + 1, none⟩ = some (.int .i64 S[i].kind) := fun X hX i hi => (hX.cell (p := ⟨g, _, none⟩) hg).trans (hx i hi).2.1
    clear hc hx
    go_enter Tryd.func26, Tryd.ntmps26
    generalize wrF kk = wk at *
    by_cases hz : kk = 2
    · rw [if_pos hz]
      subst hz
      go_wp2_with fail
      go_at_call 41
      refine Calls.mono (kF _ (by exact hb0)) ?_
      rintro e w1 ⟨i, hi, hk, rfl, h1⟩
      have hb1 := bel_after hb0 hb0.size h1
      have p1 : w1.cell? ⟨g, o + i * 8 + 1, none⟩ = some (.int .i64 2) := hk ▸ kC _ hb1 i hi
      have s1 : (0 : Int) ≤ (i : Int) := by omega
      have s2 : (i : Int) < (S.length : Int) := by omega
      have s3 : ¬ (i : Int) < 0 := by omega
      have K1 := K0.below h1
      obtain ⟨_, q1, _⟩ := id K1
      go_wp2_with fail
      go_at_call 42
      refine Calls.mono (kW _) ?_
      rintro e w2 ⟨rfl, h2⟩
      have hb2 := bel_after hb1 hb1.size h2
      have p2 : w2.cell? ⟨g, o + i * 8 + 1, none⟩ = some (.int .i64 2) := hk ▸ kC _ hb2 i hi
      have K2 := K1.below h2
      obtain ⟨_, q2, _⟩ := id K2
      go_wp2_with fail
      refine bodyPost_ret (v := .tuple #[.int .i64 2, .int .i64 0]) (by simp [results, Tryd.results26, go_sem]) rfl ⟨rfl, hb2⟩
    · rw [if_neg hz]
      have n0 : (kk == 2) = false := by simpa using hz
      go_wp2_with fail
      go_at_call 41
      refine Calls.mono (kF _ (by exact hb0)) ?_
      rintro e w1 ⟨i, hi, hk, rfl, h1⟩
      have hb1 := bel_after hb0 hb0.size h1
      have p1 : w1.cell? ⟨g, o + i * 8 + 1, none⟩ = some (.int .i64 kk) := hk ▸ kC _ hb1 i hi
      have s1 : (0 : Int) ≤ (i : Int) := by omega
      have s2 : (i : Int) < (S.length : Int) := by omega
      have s3 : ¬ (i : Int) < 0 := by omega
      have K1 := K0.below h1
      obtain ⟨_, q1, _⟩ := id K1
      go_wp2_with fail
      go_at_call 42
      refine Calls.mono (kW _) ?_
      rintro e w2 ⟨rfl, h2⟩
      have hb2 := bel_after hb1 hb1.size h2
      have p2 : w2.cell? ⟨g, o + i * 8 + 1, none⟩ = some (.int .i64 kk) := hk ▸ kC _ hb2 i hi
      have K2 := K1.below h2
      obtain ⟨_, q2, _⟩ := id K2
      go_wp2_with fail
      refine bodyPost_ret (v := .tuple #[.int .i64 0, .int .i64 52]) (by simp [results, Tryd.results26, go_sem]) rfl ⟨rfl, hb2⟩
theorem leafR_any (S : List Sy) (v : Value) (w : World) (h : Ens w v S) (hl : S.length ≤ 4611686018427387904) (x : Nd) (ho : x.op = 1 ∨ x.op = 2 ∨ x.op = 3 ∨ x.op = 4 ∨ x.op = 5 ∨ x.op = 6) : RLeaf S v w x := by
  obtain ⟨op, val, nm, ln, cl⟩ := x
  simp only at ho
  rcases ho with rfl | rfl | rfl | rfl | rfl | rfl
  · exact leafR1 S v w val nm ln cl
  · exact leafR2 S v w val nm ln cl
  · exact leafR3 S v w h hl val nm ln cl
  · exact leafR4 S v w val nm ln cl
  · exact leafR5 S v w h hl val nm ln cl
  · exact leafR6 S v w h hl val nm ln cl
end Go.Proofs.YtfmdlcfkfglnhaaDoor
