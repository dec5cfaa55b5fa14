import Derived.Test.YtjohnhaahpggkabDoorWrdF
namespace Go.Proofs.YtjohnhaahpggkabDoor
open Go.RowKit
set_option linter.unusedVariables false
set_option linter.unusedSimpArgs false

/-- A token that is handed in. -/
structure Tq where
  k : Int
  n : Int
  tx : ByteArray
  ln : Int
  cl : Int
def Tq.v (t : Tq) : Value := .agg #[.int .i64 t.k, .int .i32 t.n, .string t.tx, .int .i64 t.ln, .int .i64 t.cl]
/-- Can it be written? -/
def okF (t : Tq) (last : Bool) : Bool :=
  if t.k = 1 then decide (t.n = 0) && decide (kindL t.tx.data.toList = 1)
  else if t.k = 2 then decide (0 ≤ t.n) && t.tx.toList.isEmpty
  else if t.k = 0 then last && decide (t.n = 0) && t.tx.toList.isEmpty
  else !(wordA t.k).toList.isEmpty && decide (t.n = 0) && t.tx.toList.isEmpty

set_option maxRecDepth 100000 in
set_option maxHeartbeats 2000000 in
theorem can_any (t : Tq) (last : Bool) (w : World) (hs : t.tx.size < 4611686018427387904) (hW : Wt w) :
    Calls Tryd.prog 14 #[t.v, .bool last] w fun e w' => e = .returned (.bool (okF t last)) ∧ Below w.heap.size w w' := by
  obtain ⟨k, n, tx, ln, cl⟩ := t
  unfold Tq.v
  dsimp only at hs ⊢
  have hb0 : Below w.heap.size w (w.alloc (.cells #[.int .i64 k, .int .i32 n, .string tx, .int .i64 ln, .int .i64 cl] 27)) := (Below.refl _ _).alloc (Nat.le_refl _) _
  have hKi := kindOf_any tx (w.alloc (.cells #[.int .i64 k, .int .i32 n, .string tx, .int .i64 ln, .int .i64 cl] 27)) hs (hW.below hb0 hW.1)
  have hWo := word_any k (w.alloc (.cells #[.int .i64 k, .int .i32 n, .string tx, .int .i64 ln, .int .i64 cl] 27)) (hW.below hb0 hW.1)
  by_cases h1 : k = 1
  · subst h1
    have hF : okF ⟨1, n, tx, ln, cl⟩ last = (decide (n = 0) && decide (kindL tx.data.toList = 1)) := rfl
    rw [hF]
    clear hWo hF
    by_cases hn : n = 0
    · subst hn
      generalize kindL tx.data.toList = kk at *
      go_enter Tryd.func14, Tryd.ntmps14
      go_wp2_with (go_at_call 25; (with_reducible refine hKi.mono ?_); rintro e w1 ⟨rfl, hb1⟩)
      go_ret
      exact ⟨by simp <;> rfl, hb0.trans (hb1.mono hb0.size)⟩
    · have hn' : (n == 0) = false := by simpa using hn
      go_enter Tryd.func14, Tryd.ntmps14
      go_wp2
      go_ret
      exact ⟨by simp [hn], hb0⟩
  · by_cases h2 : k = 2
    · subst h2
      have hF : okF ⟨2, n, tx, ln, cl⟩ last = (decide (0 ≤ n) && tx.toList.isEmpty) := rfl
      rw [hF]
      clear hWo hF hKi
      by_cases hn : 0 ≤ n
      · go_enter Tryd.func14, Tryd.ntmps14
        go_wp2
        go_ret
        exact ⟨by simp [hn], hb0⟩
      · go_enter Tryd.func14, Tryd.ntmps14
        go_wp2
        go_ret
        exact ⟨by simp; intro h; omega, hb0⟩
    · by_cases h0 : k = 0
      · subst h0
        have hF : okF ⟨0, n, tx, ln, cl⟩ last = (last && decide (n = 0) && tx.toList.isEmpty) := rfl
        rw [hF]
        clear hWo hF hKi
        cases last
        · go_enter Tryd.func14, Tryd.ntmps14
          go_wp2
          go_ret
          exact ⟨by simp, hb0⟩
        · by_cases hn : n = 0
          · subst hn
            go_enter Tryd.func14, Tryd.ntmps14
            go_wp2
            go_ret
            exact ⟨by simp, hb0⟩
          · go_enter Tryd.func14, Tryd.ntmps14
            go_wp2
            go_ret
            exact ⟨by simp [hn], hb0⟩
      · have hF : okF ⟨k, n, tx, ln, cl⟩ last = (!(wordA k).toList.isEmpty && decide (n = 0) && tx.toList.isEmpty) := by unfold okF; simp [h1, h2, h0]
        rw [hF]
        clear hF hKi
        generalize wordA k = wa at *
        cases hwa : wa.toList.isEmpty
        · by_cases hn : n = 0
          · subst hn
            go_enter Tryd.func14, Tryd.ntmps14
            go_wp2_with (go_at_call 26; (with_reducible refine hWo.mono ?_); rintro e w1 ⟨rfl, hw1⟩; have hw1' := hw1.symm; subst hw1')
            go_ret
            exact ⟨by simp, hb0⟩
          · go_enter Tryd.func14, Tryd.ntmps14
            go_wp2_with (go_at_call 26; (with_reducible refine hWo.mono ?_); rintro e w1 ⟨rfl, hw1⟩; have hw1' := hw1.symm; subst hw1')
            go_ret
            exact ⟨by simp [hn], hb0⟩
        · go_enter Tryd.func14, Tryd.ntmps14
          go_wp2_with (go_at_call 26; (with_reducible refine hWo.mono ?_); rintro e w1 ⟨rfl, hw1⟩; have hw1' := hw1.symm; subst hw1')
          go_ret
          exact ⟨by simp, hb0⟩

theorem drewN_heap (W : World) (q : Nat) : (W.drewN q).heap = W.heap ∧ (W.drewN q).os = W.os ∧ (W.drewN q).tape = W.tape ∧ (W.drewN q).output = W.output := by
  induction q with
  | zero => exact ⟨rfl, rfl, rfl, rfl⟩
  | succ q ih => exact ih
theorem below_grow (W : World) (q : Nat) (os : Array Obj) {B : Nat} (hB : B ≤ W.heap.size) : Below B W (Go.Sort.grow (W.drewN q) os) := by
  obtain ⟨h1, h2, h3, h4⟩ := drewN_heap W q
  refine ⟨h2, h3, h4, ?_, fun k hk => ?_⟩
  · show W.heap.size ≤ ((W.drewN q).heap ++ os).size
    rw [h1, Array.size_append]; omega
  · show ((W.drewN q).heap ++ os)[k]? = _
    rw [h1, Array.getElem?_append_left (by omega)]
/-- Its text. -/
def spF (t : Tq) : ByteArray := if t.k = 1 then t.tx else if t.k = 2 then ⟨(Lib.itoa t.n).toArray⟩ else wordA t.k
/-- The table of the powers of ten. -/
def Pw (w : World) : Prop := Lib.TabIs Tryd.prog w "internal/strconv.uint64pow10" .u64 Lib.pow10Tab

set_option maxRecDepth 100000 in
set_option maxHeartbeats 2000000 in
theorem spell_any (t : Tq) (w : World) (hn1 : -2147483648 ≤ t.n) (hn2 : t.n ≤ 2147483647) (hW : Wt w) (hP : ∀ W, Below w.heap.size w W → Pw W) :
    Calls Tryd.prog 17 #[t.v] w fun e w' => e = .returned (.string (spF t)) ∧ Below w.heap.size w w' := by
  obtain ⟨k, n, tx, ln, cl⟩ := t
  unfold Tq.v
  dsimp only at hn1 hn2 ⊢
  have hb0 : Below w.heap.size w (w.alloc (.cells #[.int .i64 k, .int .i32 n, .string tx, .int .i64 ln, .int .i64 cl] 27)) := (Below.refl _ _).alloc (Nat.le_refl _) _
  have hWo := word_any k (w.alloc (.cells #[.int .i64 k, .int .i32 n, .string tx, .int .i64 ln, .int .i64 cl] 27)) (hW.below hb0 hW.1)
  have hIt := Tryd.strconv_Itoa n (by omega) (by omega) (w.alloc (.cells #[.int .i64 k, .int .i32 n, .string tx, .int .i64 ln, .int .i64 cl] 27)) (hP _ hb0)
  have hwn : IntKind.i64.wrap n = n := by rw [IntKind.wrap_i64]; omega
  by_cases h1 : k = 1
  · subst h1
    have hF : spF ⟨1, n, tx, ln, cl⟩ = tx := rfl
    rw [hF]
    clear hWo hF hIt
    go_enter Tryd.func17, Tryd.ntmps17
    go_wp2
    go_ret
    exact ⟨rfl, hb0⟩
  · by_cases h2 : k = 2
    · subst h2
      have hF : spF ⟨2, n, tx, ln, cl⟩ = ⟨(Lib.itoa n).toArray⟩ := rfl
      rw [hF]
      clear hWo hF
      generalize (⟨(Lib.itoa n).toArray⟩ : ByteArray) = it at *
      go_enter Tryd.func17, Tryd.ntmps17
      go_wp2_with (go_at_call 28; (with_reducible refine hIt.mono ?_); rintro e w1 ⟨rfl, q, os, hw1⟩)
      go_ret
      exact ⟨rfl, hb0.trans (below_grow _ q os hb0.size)⟩
    · have hF : spF ⟨k, n, tx, ln, cl⟩ = wordA k := by unfold spF; simp [h1, h2]
      rw [hF]
      clear hF hIt
      generalize wordA k = wa at *
      go_enter Tryd.func17, Tryd.ntmps17
      go_wp2_with (go_at_call 26; (with_reducible refine hWo.mono ?_); rintro e w1 ⟨rfl, hw1⟩; have hw1' := hw1.symm; subst hw1')
      go_ret
      exact ⟨rfl, hb0⟩
end Go.Proofs.YtjohnhaahpggkabDoor
