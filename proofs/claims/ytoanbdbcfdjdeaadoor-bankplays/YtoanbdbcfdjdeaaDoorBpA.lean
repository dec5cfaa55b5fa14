import Derived.Laws.BytesArg
import Derived.Test.YtoanbdbcfdjdeaaDoorErB
namespace Go.Proofs.YtoanbdbcfdjdeaaDoor
open Go.RowKit
set_option linter.unusedVariables false
set_option linter.unusedSimpArgs false


theorem bel_only {B : Nat} {S : Nat → Prop} {a w w' : World} (h : Below B a w) (ho : Only S w w') (hB : B ≤ a.heap.size) (hS : ∀ k, k < B → ¬ S k) : Below B a w' :=
  ⟨ho.os.trans h.os, ho.tape.trans h.tape, ho.output.trans h.output, Nat.le_trans h.size ho.size, fun k hk => (ho.block k (by have := h.size; omega) (hS k hk)).trans (h.block k hk)⟩
/-- An act. -/
structure Ac where
  k : Int
  o : Int
  d : List Int
def nst (a : Ac) : Nat := if a.k = 1 then 1024 else if a.k = 2 then a.d.length else 0
def okA (a : Ac) (n : Nat) : Bool :=
  if a.k = 1 then decide (0 ≤ a.o) && decide (a.o < (n : Int)) && decide (a.o % 1024 = 0) && decide (a.d.length = 0)
  else if a.k = 2 then decide (0 ≤ a.o) && decide ((a.d.length : Int) ≤ (n : Int) - a.o) else false
def flB (n : Nat) : Bool := decide (n % 1024 = 0) && decide (4096 ≤ n) && decide (n ≤ 4194304)
def okAll (A : List Ac) (n : Nat) : Bool := A.all fun a => okA a n
def orB (x y : Int) : Int := bits .or .u8 x y
def anB (x y : Int) : Int := bits .andNot .u8 x y
/-- One byte's step. -/
def byF (a : Ac) (i : Nat) (x : Int) (t : Int) : Int := if a.k = 1 then orB x t else anB x (anB t (a.d.getD i 0))
def stF (F : List Int) (a : Ac) (i : Nat) (t : Int) : List Int := F.set (a.o.toNat + i) (byF a i (F.getD (a.o.toNat + i) 0) t)
def rnF (F : List Int) (a : Ac) : Nat → List Int
  | 0 => F
  | n + 1 => stF (rnF F a n) a n 255
def plF (F : List Int) : List Ac → Nat → Int → List Int
  | [], _, _ => F
  | a :: A, n, t => if n < nst a then stF (rnF F a n) a n t else plF (rnF F a (nst a)) A (n - nst a) t
theorem stF_len (F : List Int) (a : Ac) (i : Nat) (t : Int) : (stF F a i t).length = F.length := by simp [stF]
theorem rnF_len (F : List Int) (a : Ac) : ∀ n, (rnF F a n).length = F.length
  | 0 => rfl
  | n + 1 => by rw [rnF, stF_len, rnF_len F a n]
theorem plF_len : ∀ (A : List Ac) (F : List Int) (n : Nat) (t : Int), (plF F A n t).length = F.length
  | [], _, _, _ => rfl
  | a :: A, F, n, t => by
    unfold plF
    split
    · rw [stF_len, rnF_len]
    · rw [plF_len A, rnF_len]
theorem okA_room {a : Ac} {n i : Nat} (h : okA a n = true) (hn : n % 1024 = 0) (hi : i < nst a) : 0 ≤ a.o ∧ a.o.toNat + i < n ∧ (a.k = 1 ∨ (a.k ≠ 1 ∧ i < a.d.length)) := by
  unfold okA at h
  unfold nst at hi
  by_cases k1 : a.k = 1
  · rw [if_pos k1] at h hi
    simp only [Bool.and_eq_true, decide_eq_true_eq] at h
    obtain ⟨⟨⟨h0, h1⟩, h2⟩, h3⟩ := h
    refine ⟨h0, ?_, .inl k1⟩
    omega
  · rw [if_neg k1] at h hi
    by_cases k2 : a.k = 2
    · rw [if_pos k2] at h hi
      simp only [Bool.and_eq_true, decide_eq_true_eq] at h
      obtain ⟨h0, h1⟩ := h
      refine ⟨h0, ?_, .inr ⟨k1, hi⟩⟩
      omega
    · rw [if_neg k2] at h; cases h

/-- Bytes as they are read, in blocks of S. -/
def By (S : Nat → Prop) (w : World) (v : Value) (L : List Int) : Prop :=
  ∃ a cap, v = .slice a L.length cap ∧ L.length ≤ cap ∧ L.length ≤ 140737488355328 ∧ (a = none → L = []) ∧
    (L = [] ∨ ∃ g o, a = some ⟨g, o, none⟩ ∧ S g ∧ g < w.heap.size ∧ ∀ (i : Nat) (h : i < L.length), w.cell? ⟨g, o + i, none⟩ = some (.int .u8 L[i]))
theorem By.keep {S S' : Nat → Prop} {w w' : World} {v : Value} {L : List Int} (h : By S w v L) (hm : Mv S w S' w') : By S' w' v L := by
  obtain ⟨a, cap, e, h1, h2, h3, h4⟩ := h
  refine ⟨a, cap, e, h1, h2, h3, h4.imp id ?_⟩
  rintro ⟨g, o, e2, hS, hg, hx⟩
  exact ⟨g, o, e2, (hm.2 g hg hS).2, Nat.lt_of_lt_of_le hg hm.1, fun i hi => (World.cell?_of_block (w := w) (a := ⟨g, _, none⟩) (hm.2 g hg hS).1).trans (hx i hi)⟩
def AcR (S : Nat → Prop) (w : World) (cs : List Value) (a : Ac) : Prop := ∃ v, cs = [.int .i64 a.k, .int .i64 a.o, v] ∧ By S w v a.d ∧ a.o ≤ 9223372036854775807 ∧ -9223372036854775808 ≤ a.o
theorem AcR.keep {S S' : Nat → Prop} {w w' : World} (hm : Mv S w S' w') (cs : List Value) (x : Ac) (h : AcR S w cs x) : AcR S' w' cs x := by
  obtain ⟨v, e, hb, r⟩ := h
  exact ⟨v, e, hb.keep hm, r⟩
/-- Acts as they are read, in blocks of S. -/
def Acs (S : Nat → Prop) (w : World) (v : Value) (A : List Ac) : Prop := Rows 3 3518437208882 AcR S w v A
theorem Acs.keep {S S' : Nat → Prop} {w w' : World} {v : Value} {A : List Ac} (h : Acs S w v A) (hm : Mv S w S' w') : Acs S' w' v A := Rows.mv h hm (AcR.keep hm)
theorem mv_only {S T : Nat → Prop} {w w' : World} (ho : Only T w w') (h : ∀ k, S k → ¬ T k) : Mv S w S w' := ⟨ho.size, fun k hk hs => ⟨ho.block k hk (h k hs), hs⟩⟩

set_option maxRecDepth 100000 in
set_option maxHeartbeats 2000000 in
theorem isFlash_any (n : Nat) (w : World) (hn : n ≤ 9223372036854775807) : Calls Tryd.prog 27 #[.int .i64 (n : Int)] w fun e w' => e = .returned (.bool (flB n)) ∧ w' = w := by
  have t0 : Int.tmod (n : Int) 1024 = (n : Int) % 1024 := Int.tmod_eq_emod_of_nonneg (by omega)
  by_cases h0 : n % 1024 = 0
  · have t1 : Int.tmod (n : Int) 1024 = 0 := by omega
    clear t0
    by_cases h1 : 4096 ≤ n
    · have t2 : (4096 : Int) ≤ (n : Int) := by omega
      have e : flB n = decide ((n : Int) ≤ 4194304) := by simp [flB, h0, h1]; omega
      go_enter Tryd.func27, Tryd.ntmps27
      go_wp2
      go_ret
      exact ⟨by first | rfl | exact ret_bool e.symm, rfl⟩
    · have t2 : ¬ (4096 : Int) ≤ (n : Int) := by omega
      have e : flB n = false := by simp [flB, h1]
      go_enter Tryd.func27, Tryd.ntmps27
      go_wp2
      go_ret
      exact ⟨by first | rfl | exact ret_bool e.symm, rfl⟩
  · have t1 : ¬ Int.tmod (n : Int) 1024 = 0 := by omega
    clear t0
    have e : flB n = false := by simp [flB, h0]
    go_enter Tryd.func27, Tryd.ntmps27
    go_wp2
    go_ret
    exact ⟨by first | rfl | exact ret_bool e.symm, rfl⟩
set_option maxRecDepth 100000 in
set_option maxHeartbeats 2000000 in
theorem flash_any (n : Nat) (w : World) (hn : n ≤ 9223372036854775807) : Calls Tryd.prog 20 #[.int .i64 (n : Int)] w fun e w' => e = .returned (.bool (flB n)) ∧ w' = w := by
  have t0 : Int.tmod (n : Int) 1024 = (n : Int) % 1024 := Int.tmod_eq_emod_of_nonneg (by omega)
  have t9 : Int.tdiv (n : Int) 1024 = (n : Int) / 1024 := Int.tdiv_eq_ediv_of_nonneg (by omega)
  by_cases h0 : n % 1024 = 0
  · have t1 : Int.tmod (n : Int) 1024 = 0 := by omega
    clear t0
    by_cases h1 : 4096 ≤ n
    · have t2 : (4 : Int) ≤ Int.tdiv (n : Int) 1024 := by omega
      have e : flB n = decide (Int.tdiv (n : Int) 1024 ≤ 4096) := by
        rw [flB, Bool.eq_iff_iff]; simp [h0, h1]; omega
      clear t9
      go_enter Tryd.func20, Tryd.ntmps20
      go_wp2
      go_ret
      exact ⟨by first | rfl | exact ret_bool e.symm, rfl⟩
    · have t2 : ¬ (4 : Int) ≤ Int.tdiv (n : Int) 1024 := by omega
      clear t9
      have e : flB n = false := by simp [flB, h1]
      go_enter Tryd.func20, Tryd.ntmps20
      go_wp2
      go_ret
      exact ⟨by first | rfl | exact ret_bool e.symm, rfl⟩
  · have t1 : ¬ Int.tmod (n : Int) 1024 = 0 := by omega
    clear t0
    have e : flB n = false := by simp [flB, h0]
    go_enter Tryd.func20, Tryd.ntmps20
    go_wp2
    go_ret
    exact ⟨by first | rfl | exact ret_bool e.symm, rfl⟩
set_option maxRecDepth 100000 in
set_option maxHeartbeats 2000000 in
theorem steps_any (a : Ac) (va : Option Addr) (c : Nat) (w : World) : Calls Tryd.prog 23 #[.agg #[.int .i64 a.k, .int .i64 a.o, .slice va a.d.length c]] w fun e w' => e = .returned (.int .i64 (nst a : Nat)) ∧ Below w.heap.size w w' := by
  obtain ⟨k, o, d⟩ := a
  dsimp only [nst]
  by_cases k1 : k = 1
  · subst k1
    go_enter Tryd.func23, Tryd.ntmps23
    go_wp2
    go_ret
    exact ⟨rfl, belN1⟩
  · by_cases k2 : k = 2
    · subst k2
      go_enter Tryd.func23, Tryd.ntmps23
      go_wp2
      go_ret
      exact ⟨rfl, belN1⟩
    · rw [if_neg k1, if_neg k2]
      go_enter Tryd.func23, Tryd.ntmps23
      go_wp2
      go_ret
      exact ⟨rfl, belN1⟩
set_option maxRecDepth 100000 in
set_option maxHeartbeats 2000000 in
theorem fits_any (a : Ac) (va : Option Addr) (c n : Nat) (w : World) (hn : n ≤ 140737488355328) (hd : a.d.length ≤ 140737488355328) (ho : a.o ≤ 9223372036854775807) (hO : -9223372036854775808 ≤ a.o) : Calls Tryd.prog 28 #[.agg #[.int .i64 a.k, .int .i64 a.o, .slice va a.d.length c], .int .i64 (n : Int)] w fun e w' => e = .returned (.bool (okA a n)) ∧ Below w.heap.size w w' := by
  obtain ⟨k, o, d⟩ := a
  dsimp only at *
  generalize hl : d.length = l at *
  by_cases k1 : k = 1
  · subst k1
    by_cases h0 : 0 ≤ o
    · have t0 : Int.tmod o 1024 = o % 1024 := Int.tmod_eq_emod_of_nonneg h0
      by_cases h1 : o < (n : Int)
      · by_cases h2 : o % 1024 = 0
        · have t2 : Int.tmod o 1024 = 0 := by omega
          clear t0
          have e : okA ⟨1, o, d⟩ n = decide ((l : Int) = 0) := by simp [okA, h0, h1, h2, hl]
          go_enter Tryd.func28, Tryd.ntmps28
          go_wp2
          go_ret
          exact ⟨by first | rfl | exact ret_bool e.symm, belN1⟩
        · have t2 : ¬ Int.tmod o 1024 = 0 := by omega
          clear t0
          have e : okA ⟨1, o, d⟩ n = false := by simp [okA, h2]
          go_enter Tryd.func28, Tryd.ntmps28
          go_wp2
          go_ret
          exact ⟨by first | rfl | exact ret_bool e.symm, belN1⟩
      · clear t0
        have e : okA ⟨1, o, d⟩ n = false := by simp [okA, h1]
        go_enter Tryd.func28, Tryd.ntmps28
        go_wp2
        go_ret
        exact ⟨by first | rfl | exact ret_bool e.symm, belN1⟩
    · have e : okA ⟨1, o, d⟩ n = false := by simp [okA, h0]
      go_enter Tryd.func28, Tryd.ntmps28
      go_wp2
      go_ret
      exact ⟨by first | rfl | exact ret_bool e.symm, belN1⟩
  · by_cases k2 : k = 2
    · subst k2
      by_cases h0 : 0 ≤ o
      · have e : okA ⟨2, o, d⟩ n = decide ((l : Int) ≤ (n : Int) - o) := by simp [okA, h0, hl]
        go_enter Tryd.func28, Tryd.ntmps28
        go_wp2
        go_ret
        exact ⟨by first | rfl | exact ret_bool e.symm, belN1⟩
      · have e : okA ⟨2, o, d⟩ n = false := by simp [okA, h0]
        go_enter Tryd.func28, Tryd.ntmps28
        go_wp2
        go_ret
        exact ⟨by first | rfl | exact ret_bool e.symm, belN1⟩
    · have e : okA ⟨k, o, d⟩ n = false := by simp [okA, k1, k2]
      go_enter Tryd.func28, Tryd.ntmps28
      go_wp2
      go_ret
      exact ⟨by first | rfl | exact ret_bool e.symm, belN1⟩
set_option maxRecDepth 100000 in
set_option maxHeartbeats 2000000 in
theorem can_any (a : Ac) (va : Option Addr) (c n : Nat) (w : World) (hn : n ≤ 140737488355328) (hd : a.d.length ≤ 140737488355328) (ho : a.o ≤ 9223372036854775807) (hO : -9223372036854775808 ≤ a.o) : Calls Tryd.prog 21 #[.agg #[.int .i64 a.k, .int .i64 a.o, .slice va a.d.length c], .int .i64 (n : Int)] w fun e w' => e = .returned (.bool (okA a n)) ∧ Below w.heap.size w w' := by
  obtain ⟨k, o, d⟩ := a
  dsimp only at *
  generalize hl : d.length = l at *
  by_cases k1 : k = 1
  · subst k1
    by_cases h0 : 0 ≤ o
    · have t0 : Int.tmod o 1024 = o % 1024 := Int.tmod_eq_emod_of_nonneg h0
      by_cases h1 : o < (n : Int)
      · by_cases h2 : o % 1024 = 0
        · have t2 : Int.tmod o 1024 = 0 := by omega
          clear t0
          have e : okA ⟨1, o, d⟩ n = decide ((l : Int) = 0) := by simp [okA, h0, h1, h2, hl]
          go_enter Tryd.func21, Tryd.ntmps21
          go_wp2
          go_ret
          exact ⟨by first | rfl | exact ret_bool e.symm, belN1⟩
        · have t2 : ¬ Int.tmod o 1024 = 0 := by omega
          clear t0
          have e : okA ⟨1, o, d⟩ n = false := by simp [okA, h2]
          go_enter Tryd.func21, Tryd.ntmps21
          go_wp2
          go_ret
          exact ⟨by first | rfl | exact ret_bool e.symm, belN1⟩
      · clear t0
        have e : okA ⟨1, o, d⟩ n = false := by simp [okA, h1]
        go_enter Tryd.func21, Tryd.ntmps21
        go_wp2
        go_ret
        exact ⟨by first | rfl | exact ret_bool e.symm, belN1⟩
    · have e : okA ⟨1, o, d⟩ n = false := by simp [okA, h0]
      go_enter Tryd.func21, Tryd.ntmps21
      go_wp2
      go_ret
      exact ⟨by first | rfl | exact ret_bool e.symm, belN1⟩
  · by_cases k2 : k = 2
    · subst k2
      by_cases h0 : 0 ≤ o
      · by_cases h1 : o ≤ (n : Int)
        · have e : okA ⟨2, o, d⟩ n = decide ((l : Int) ≤ (n : Int) - o) := by simp [okA, h0, hl]
          go_enter Tryd.func21, Tryd.ntmps21
          go_wp2
          go_ret
          exact ⟨by first | rfl | exact ret_bool e.symm, belN1⟩
        · have e : okA ⟨2, o, d⟩ n = false := by simp [okA, h0, hl]; omega
          go_enter Tryd.func21, Tryd.ntmps21
          go_wp2
          go_ret
          exact ⟨by first | rfl | exact ret_bool e.symm, belN1⟩
      · have e : okA ⟨2, o, d⟩ n = false := by simp [okA, h0]
        go_enter Tryd.func21, Tryd.ntmps21
        go_wp2
        go_ret
        exact ⟨by first | rfl | exact ret_bool e.symm, belN1⟩
    · have e : okA ⟨k, o, d⟩ n = false := by simp [okA, k1, k2]
      go_enter Tryd.func21, Tryd.ntmps21
      go_wp2
      go_ret
      exact ⟨by first | rfl | exact ret_bool e.symm, belN1⟩
end Go.Proofs.YtoanbdbcfdjdeaaDoor
