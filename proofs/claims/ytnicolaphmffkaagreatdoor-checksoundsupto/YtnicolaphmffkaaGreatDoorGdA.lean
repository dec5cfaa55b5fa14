import Derived.Test.YtnicolaphmffkaaGreatDoorMaD
import Derived.Deep.RegionHeld3
import Derived.Deep.RegionLaw
import Derived.Deep.CutRange
import Derived.ChangeKeysEq
import Derived.Laws.StructEq
import Derived.KernelRfl
namespace Go.Proofs.YtnicolaphmffkaaGreatDoor
open Go.RowKit
set_option linter.unusedVariables false
set_option linter.unusedSimpArgs false

theorem belN1 {w : World} {o : Obj} : Below w.heap.size w (w.alloc o) := (Below.refl _ _).alloc (Nat.le_refl _) _
theorem belA {w : World} {o1 o2 : Obj} : Below w.heap.size w ((w.alloc o1).alloc o2) := ((Below.refl _ _).alloc (Nat.le_refl _) _).alloc (by simp) _
structure Gp where
  name : ByteArray
  sort : Int
  min : Int
  amber : Int
  lead : Int
structure Cf where
  a : Int
  b : Int
  ab : Int
  ba : Int
def Gp.cs (x : Gp) : List Value := [.string x.name, .int .i64 x.sort, .int .i64 x.min, .int .i64 x.amber, .int .i64 x.lead]
def Cf.cs (x : Cf) : List Value := [.int .i64 x.a, .int .i64 x.b, .int .i64 x.ab, .int .i64 x.ba]
theorem gp_len (x : Gp) : x.cs.length = 5 := rfl
theorem cf_len (x : Cf) : x.cs.length = 4 := rfl
theorem gp_one (x : Gp) : ∀ u ∈ x.cs, u.oneCell' = true := by
  intro u hu; simp [Gp.cs] at hu; rcases hu with rfl | rfl | rfl | rfl | rfl <;> rfl
theorem cf_one (x : Cf) : ∀ u ∈ x.cs, u.oneCell' = true := by
  intro u hu; simp [Cf.cs] at hu; rcases hu with rfl | rfl | rfl | rfl <;> rfl

def timeB (t : Int) : Bool := decide (0 ≤ t) && decide (t ≤ 3600)
def amberB (t : Int) : Bool := decide (0 ≤ t) && decide (t ≤ 60)
def inB (n lo hi : Int) : Bool := decide (lo ≤ n) && decide (n ≤ hi)
def cmpI (a b : Int) : Int := if a < b then -1 else if b < a then 1 else 0
def gpB (x : Gp) : Bool := (decide (x.sort = 1) || decide (x.sort = 2)) && (decide (1 ≤ x.min) && (timeB x.min && (amberB x.amber && amberB x.lead)))
def cfB (n : Nat) (c : Cf) : Bool := decide (0 ≤ c.a) && (decide (c.a < c.b) && (decide (c.b < (n : Int)) && (timeB c.ab && timeB c.ba)))
/-- The second stands behind the first. -/
def ordB (c d : Cf) : Bool := decide (c.a < d.a) || (decide (c.a = d.a) && decide (c.b < d.b))
theorem has4 {w' : World} {b : Nat} {v0 v1 v2 v3 : Value} (h : Has w' b #[v0, v1, v2, v3]) : w'.cell? ⟨b, 0, none⟩ = some v0 ∧ w'.cell? ⟨b, 1, none⟩ = some v1 ∧ w'.cell? ⟨b, 2, none⟩ = some v2 ∧ w'.cell? ⟨b, 3, none⟩ = some v3 := ⟨h.2.1 0, h.2.1 1, h.2.1 2, h.2.1 3⟩
def ordP (p : Option Cf) (c : Cf) : Bool := match p with
  | none => true
  | some b => ordB b c
/-- The rows behind a row. -/
def rowsB (n : Nat) : Option Cf → List Cf → Bool
  | _, [] => true
  | p, c :: cs => (cfB n c && ordP p c) && rowsB n (some c) cs
def prevK (C : List Cf) : Nat → Option Cf
  | 0 => none
  | k + 1 => C[k]?
def gridB (G : List Gp) (C : List Cf) : Bool := decide (G.length ≤ 64) && (G.all gpB && rowsB G.length none C)
theorem all_step (G : List Gp) (k : Nat) (h : k < G.length) : (G.drop k).all gpB = (gpB G[k] && (G.drop (k + 1)).all gpB) := by
  rw [List.drop_eq_getElem_cons h]; rfl
theorem all_end (G : List Gp) (k : Nat) (h : G.length ≤ k) : (G.drop k).all gpB = true := by
  rw [List.drop_eq_nil_of_le h]; rfl
theorem rows_step (n : Nat) (C : List Cf) (k : Nat) (h : k < C.length) : rowsB n (prevK C k) (C.drop k) = ((cfB n C[k] && ordP (prevK C k) C[k]) && rowsB n (prevK C (k + 1)) (C.drop (k + 1))) := by
  rw [List.drop_eq_getElem_cons h]
  have e : prevK C (k + 1) = some C[k] := List.getElem?_eq_getElem h
  rw [e]; rfl
theorem rows_end (n : Nat) (C : List Cf) (k : Nat) (h : C.length ≤ k) : rowsB n (prevK C k) (C.drop k) = true := by
  rw [List.drop_eq_nil_of_le h]; cases prevK C k <;> rfl
set_option maxRecDepth 100000 in
theorem isTime_any (t : Int) (w : World) : Calls Tryz.prog 59 #[.int .i64 t] w fun e w' => e = .returned (.bool (timeB t)) ∧ w' = w := by
  by_cases h0 : 0 ≤ t
  · have e : timeB t = decide (t ≤ 3600) := by simp [timeB, h0]
    go_enter Tryz.func59, Tryz.ntmps59
    go_wp2
    go_ret
    exact ⟨by first | rfl | exact ret_bool e.symm, rfl⟩
  · have e : timeB t = false := by simp [timeB, h0]
    go_enter Tryz.func59, Tryz.ntmps59
    go_wp2
    go_ret
    exact ⟨by first | rfl | exact ret_bool e.symm, rfl⟩
set_option maxRecDepth 100000 in
theorem isAmber_any (t : Int) (w : World) : Calls Tryz.prog 60 #[.int .i64 t] w fun e w' => e = .returned (.bool (amberB t)) ∧ w' = w := by
  by_cases h0 : 0 ≤ t
  · have e : amberB t = decide (t ≤ 60) := by simp [amberB, h0]
    go_enter Tryz.func60, Tryz.ntmps60
    go_wp2
    go_ret
    exact ⟨by first | rfl | exact ret_bool e.symm, rfl⟩
  · have e : amberB t = false := by simp [amberB, h0]
    go_enter Tryz.func60, Tryz.ntmps60
    go_wp2
    go_ret
    exact ⟨by first | rfl | exact ret_bool e.symm, rfl⟩
set_option maxRecDepth 100000 in
theorem within_any (n lo hi : Int) (w : World) : Calls Tryz.prog 31 #[.int .i64 n, .int .i64 lo, .int .i64 hi] w fun e w' => e = .returned (.bool (inB n lo hi)) ∧ w' = w := by
  by_cases h0 : lo ≤ n
  · have e : inB n lo hi = decide (n ≤ hi) := by simp [inB, h0]
    go_enter Tryz.func31, Tryz.ntmps31
    go_wp2
    go_ret
    exact ⟨by first | rfl | exact ret_bool e.symm, rfl⟩
  · have e : inB n lo hi = false := by simp [inB, h0]
    go_enter Tryz.func31, Tryz.ntmps31
    go_wp2
    go_ret
    exact ⟨by first | rfl | exact ret_bool e.symm, rfl⟩
set_option maxRecDepth 100000 in
theorem isNaN_any (n : Int) (w : World) : Calls Tryz.prog 95 #[.int .i64 n] w fun e w' => e = .returned (.bool false) ∧ w' = w := by
  go_enter Tryz.func95, Tryz.ntmps95
  go_wp2
  go_ret
  exact ⟨by simp, rfl⟩
set_option maxRecDepth 100000 in
theorem compare_any (a b : Int) (w : World) : Calls Tryz.prog 62 #[.int .i64 a, .int .i64 b] w fun e w' => e = .returned (.int .i64 (cmpI a b)) ∧ w' = w := by
  have hN := fun (n : Int) (W : World) => isNaN_any n W
  by_cases h0 : a < b
  · have e : cmpI a b = -1 := by simp [cmpI, h0]
    go_enter Tryz.func62, Tryz.ntmps62
    go_wp2_with (go_at_call 95; (with_reducible refine Calls.mono (hN _ _) ?_); rintro e w2 ⟨rfl, rfl⟩)
    go_ret
    exact ⟨by first | rfl | exact ret_int e.symm, rfl⟩
  · by_cases h1 : b < a
    · have e : cmpI a b = 1 := by simp [cmpI, h0, h1]
      go_enter Tryz.func62, Tryz.ntmps62
      go_wp2_with (go_at_call 95; (with_reducible refine Calls.mono (hN _ _) ?_); rintro e w2 ⟨rfl, rfl⟩)
      go_ret
      exact ⟨by first | rfl | exact ret_int e.symm, rfl⟩
    · have e : cmpI a b = 0 := by simp [cmpI, h0, h1]
      go_enter Tryz.func62, Tryz.ntmps62
      go_wp2_with (go_at_call 95; (with_reducible refine Calls.mono (hN _ _) ?_); rintro e w2 ⟨rfl, rfl⟩)
      go_ret
      exact ⟨by first | rfl | exact ret_int e.symm, rfl⟩

set_option maxRecDepth 100000 in
theorem soundGroup_any (nm : ByteArray) (s mi am le : Int) (w : World) : Calls Tryz.prog 28 #[.agg #[.string nm, .int .i64 s, .int .i64 mi, .int .i64 am, .int .i64 le]] w fun e w' => e = .returned (.bool (gpB ⟨nm, s, mi, am, le⟩)) ∧ Below w.heap.size w w' := by
  have hT := fun (W : World) => isTime_any mi W
  have hA := fun (W : World) => isAmber_any am W
  have hL := fun (W : World) => isAmber_any le W
  by_cases s1 : s = 1
  · subst s1
    by_cases h1 : 1 ≤ mi
    · cases h2 : timeB mi with
      | false =>
        rw [h2] at hT
        have eR : gpB ⟨nm, 1, mi, am, le⟩ = false := by simp [gpB, h1, h2]
        go_enter Tryz.func28, Tryz.ntmps28
        go_wp2_with (first | (go_at_call 59; (with_reducible refine Calls.mono (hT _) ?_); rintro e w2 ⟨rfl, rfl⟩) | (go_at_call 60; (with_reducible refine Calls.mono (hA _) ?_); rintro e w2 ⟨rfl, rfl⟩) | (go_at_call 60; (with_reducible refine Calls.mono (hL _) ?_); rintro e w2 ⟨rfl, rfl⟩))
        go_ret
        exact ⟨by first | rfl | exact ret_bool eR.symm, belN1⟩
      | true =>
        rw [h2] at hT
        cases h3 : amberB am with
        | false =>
          rw [h3] at hA
          have eR : gpB ⟨nm, 1, mi, am, le⟩ = false := by simp [gpB, h1, h2, h3]
          go_enter Tryz.func28, Tryz.ntmps28
          go_wp2_with (first | (go_at_call 59; (with_reducible refine Calls.mono (hT _) ?_); rintro e w2 ⟨rfl, rfl⟩) | (go_at_call 60; (with_reducible refine Calls.mono (hA _) ?_); rintro e w2 ⟨rfl, rfl⟩) | (go_at_call 60; (with_reducible refine Calls.mono (hL _) ?_); rintro e w2 ⟨rfl, rfl⟩))
          go_ret
          exact ⟨by first | rfl | exact ret_bool eR.symm, belN1⟩
        | true =>
          rw [h3] at hA
          cases h4 : amberB le with
          | false =>
            rw [h4] at hL
            have eR : gpB ⟨nm, 1, mi, am, le⟩ = false := by simp [gpB, h1, h2, h3, h4]
            go_enter Tryz.func28, Tryz.ntmps28
            go_wp2_with (first | (go_at_call 59; (with_reducible refine Calls.mono (hT _) ?_); rintro e w2 ⟨rfl, rfl⟩) | (go_at_call 60; (with_reducible refine Calls.mono (hA _) ?_); rintro e w2 ⟨rfl, rfl⟩) | (go_at_call 60; (with_reducible refine Calls.mono (hL _) ?_); rintro e w2 ⟨rfl, rfl⟩))
            go_ret
            exact ⟨by first | rfl | exact ret_bool eR.symm, belN1⟩
          | true =>
            rw [h4] at hL
            have eR : gpB ⟨nm, 1, mi, am, le⟩ = true := by simp [gpB, h1, h2, h3, h4]
            go_enter Tryz.func28, Tryz.ntmps28
            go_wp2_with (first | (go_at_call 59; (with_reducible refine Calls.mono (hT _) ?_); rintro e w2 ⟨rfl, rfl⟩) | (go_at_call 60; (with_reducible refine Calls.mono (hA _) ?_); rintro e w2 ⟨rfl, rfl⟩) | (go_at_call 60; (with_reducible refine Calls.mono (hL _) ?_); rintro e w2 ⟨rfl, rfl⟩))
            go_ret
            exact ⟨by first | rfl | exact ret_bool eR.symm, belN1⟩
    · clear hT hA hL
      have eR : gpB ⟨nm, 1, mi, am, le⟩ = false := by simp [gpB, h1]
      go_enter Tryz.func28, Tryz.ntmps28
      go_wp2_with (first | (go_at_call 59; (with_reducible refine Calls.mono (hT _) ?_); rintro e w2 ⟨rfl, rfl⟩) | (go_at_call 60; (with_reducible refine Calls.mono (hA _) ?_); rintro e w2 ⟨rfl, rfl⟩) | (go_at_call 60; (with_reducible refine Calls.mono (hL _) ?_); rintro e w2 ⟨rfl, rfl⟩))
      go_ret
      exact ⟨by first | rfl | exact ret_bool eR.symm, belN1⟩
  · by_cases s2 : s = 2
    · subst s2
      by_cases h1 : 1 ≤ mi
      · cases h2 : timeB mi with
        | false =>
          rw [h2] at hT
          have eR : gpB ⟨nm, 2, mi, am, le⟩ = false := by simp [gpB, h1, h2]
          go_enter Tryz.func28, Tryz.ntmps28
          go_wp2_with (first | (go_at_call 59; (with_reducible refine Calls.mono (hT _) ?_); rintro e w2 ⟨rfl, rfl⟩) | (go_at_call 60; (with_reducible refine Calls.mono (hA _) ?_); rintro e w2 ⟨rfl, rfl⟩) | (go_at_call 60; (with_reducible refine Calls.mono (hL _) ?_); rintro e w2 ⟨rfl, rfl⟩))
          go_ret
          exact ⟨by first | rfl | exact ret_bool eR.symm, belN1⟩
        | true =>
          rw [h2] at hT
          cases h3 : amberB am with
          | false =>
            rw [h3] at hA
            have eR : gpB ⟨nm, 2, mi, am, le⟩ = false := by simp [gpB, h1, h2, h3]
            go_enter Tryz.func28, Tryz.ntmps28
            go_wp2_with (first | (go_at_call 59; (with_reducible refine Calls.mono (hT _) ?_); rintro e w2 ⟨rfl, rfl⟩) | (go_at_call 60; (with_reducible refine Calls.mono (hA _) ?_); rintro e w2 ⟨rfl, rfl⟩) | (go_at_call 60; (with_reducible refine Calls.mono (hL _) ?_); rintro e w2 ⟨rfl, rfl⟩))
            go_ret
            exact ⟨by first | rfl | exact ret_bool eR.symm, belN1⟩
          | true =>
            rw [h3] at hA
            cases h4 : amberB le with
            | false =>
              rw [h4] at hL
              have eR : gpB ⟨nm, 2, mi, am, le⟩ = false := by simp [gpB, h1, h2, h3, h4]
              go_enter Tryz.func28, Tryz.ntmps28
              go_wp2_with (first | (go_at_call 59; (with_reducible refine Calls.mono (hT _) ?_); rintro e w2 ⟨rfl, rfl⟩) | (go_at_call 60; (with_reducible refine Calls.mono (hA _) ?_); rintro e w2 ⟨rfl, rfl⟩) | (go_at_call 60; (with_reducible refine Calls.mono (hL _) ?_); rintro e w2 ⟨rfl, rfl⟩))
              go_ret
              exact ⟨by first | rfl | exact ret_bool eR.symm, belN1⟩
            | true =>
              rw [h4] at hL
              have eR : gpB ⟨nm, 2, mi, am, le⟩ = true := by simp [gpB, h1, h2, h3, h4]
              go_enter Tryz.func28, Tryz.ntmps28
              go_wp2_with (first | (go_at_call 59; (with_reducible refine Calls.mono (hT _) ?_); rintro e w2 ⟨rfl, rfl⟩) | (go_at_call 60; (with_reducible refine Calls.mono (hA _) ?_); rintro e w2 ⟨rfl, rfl⟩) | (go_at_call 60; (with_reducible refine Calls.mono (hL _) ?_); rintro e w2 ⟨rfl, rfl⟩))
              go_ret
              exact ⟨by first | rfl | exact ret_bool eR.symm, belN1⟩
      · clear hT hA hL
        have eR : gpB ⟨nm, 2, mi, am, le⟩ = false := by simp [gpB, h1]
        go_enter Tryz.func28, Tryz.ntmps28
        go_wp2_with (first | (go_at_call 59; (with_reducible refine Calls.mono (hT _) ?_); rintro e w2 ⟨rfl, rfl⟩) | (go_at_call 60; (with_reducible refine Calls.mono (hA _) ?_); rintro e w2 ⟨rfl, rfl⟩) | (go_at_call 60; (with_reducible refine Calls.mono (hL _) ?_); rintro e w2 ⟨rfl, rfl⟩))
        go_ret
        exact ⟨by first | rfl | exact ret_bool eR.symm, belN1⟩
    · have eR : gpB ⟨nm, s, mi, am, le⟩ = false := by simp [gpB, s1, s2]
      clear hT hA hL
      go_enter Tryz.func28, Tryz.ntmps28
      go_wp2
      go_ret
      exact ⟨by first | rfl | exact ret_bool eR.symm, belN1⟩

set_option maxRecDepth 100000 in
theorem soundConflict_any (n : Nat) (a b ab ba : Int) (w : World) : Calls Tryz.prog 29 #[.agg #[.int .i64 a, .int .i64 b, .int .i64 ab, .int .i64 ba], .int .i64 (n : Int)] w fun e w' => e = .returned (.bool (cfB n ⟨a, b, ab, ba⟩)) ∧ Below w.heap.size w w' := by
  have hT := fun (W : World) => isTime_any ab W
  have hA := fun (W : World) => isTime_any ba W
  by_cases h1 : 0 ≤ a
  · by_cases h2 : a < b
    · by_cases h3 : b < (n : Int)
      · cases h4 : timeB ab with
        | false =>
          rw [h4] at hT
          have eR : cfB n ⟨a, b, ab, ba⟩ = false := by simp [cfB, h1, h2, h3, h4]
          go_enter Tryz.func29, Tryz.ntmps29
          go_wp2_with (first | (go_at_call 59; (with_reducible refine Calls.mono (hT _) ?_); rintro e w2 ⟨rfl, rfl⟩) | (go_at_call 59; (with_reducible refine Calls.mono (hA _) ?_); rintro e w2 ⟨rfl, rfl⟩))
          go_ret
          exact ⟨by first | rfl | exact ret_bool eR.symm, belN1⟩
        | true =>
          rw [h4] at hT
          cases h5 : timeB ba with
          | false =>
            rw [h5] at hA
            have eR : cfB n ⟨a, b, ab, ba⟩ = false := by simp [cfB, h1, h2, h3, h4, h5]
            go_enter Tryz.func29, Tryz.ntmps29
            go_wp2_with (first | (go_at_call 59; (with_reducible refine Calls.mono (hT _) ?_); rintro e w2 ⟨rfl, rfl⟩) | (go_at_call 59; (with_reducible refine Calls.mono (hA _) ?_); rintro e w2 ⟨rfl, rfl⟩))
            go_ret
            exact ⟨by first | rfl | exact ret_bool eR.symm, belN1⟩
          | true =>
            rw [h5] at hA
            have eR : cfB n ⟨a, b, ab, ba⟩ = true := by simp [cfB, h1, h2, h3, h4, h5]
            go_enter Tryz.func29, Tryz.ntmps29
            go_wp2_with (first | (go_at_call 59; (with_reducible refine Calls.mono (hT _) ?_); rintro e w2 ⟨rfl, rfl⟩) | (go_at_call 59; (with_reducible refine Calls.mono (hA _) ?_); rintro e w2 ⟨rfl, rfl⟩))
            go_ret
            exact ⟨by first | rfl | exact ret_bool eR.symm, belN1⟩
      · clear hT hA
        have eR : cfB n ⟨a, b, ab, ba⟩ = false := by simp [cfB, h3]
        go_enter Tryz.func29, Tryz.ntmps29
        go_wp2_with (first | (go_at_call 59; (with_reducible refine Calls.mono (hT _) ?_); rintro e w2 ⟨rfl, rfl⟩) | (go_at_call 59; (with_reducible refine Calls.mono (hA _) ?_); rintro e w2 ⟨rfl, rfl⟩))
        go_ret
        exact ⟨by first | rfl | exact ret_bool eR.symm, belN1⟩
    · clear hT hA
      have eR : cfB n ⟨a, b, ab, ba⟩ = false := by simp [cfB, h2]
      go_enter Tryz.func29, Tryz.ntmps29
      go_wp2_with (first | (go_at_call 59; (with_reducible refine Calls.mono (hT _) ?_); rintro e w2 ⟨rfl, rfl⟩) | (go_at_call 59; (with_reducible refine Calls.mono (hA _) ?_); rintro e w2 ⟨rfl, rfl⟩))
      go_ret
      exact ⟨by first | rfl | exact ret_bool eR.symm, belN1⟩
  · clear hT hA
    have eR : cfB n ⟨a, b, ab, ba⟩ = false := by simp [cfB, h1]
    go_enter Tryz.func29, Tryz.ntmps29
    go_wp2_with (first | (go_at_call 59; (with_reducible refine Calls.mono (hT _) ?_); rintro e w2 ⟨rfl, rfl⟩) | (go_at_call 59; (with_reducible refine Calls.mono (hA _) ?_); rintro e w2 ⟨rfl, rfl⟩))
    go_ret
    exact ⟨by first | rfl | exact ret_bool eR.symm, belN1⟩

set_option maxRecDepth 100000 in
theorem or_any (x y : Int) (b : Nat) (w : World) (h0 : w.cell? ⟨b, 0, none⟩ = some (.int .i64 x)) (h1 : w.cell? ⟨b, 1, none⟩ = some (.int .i64 y)) :
    Calls Tryz.prog 61 #[.slice (some ⟨b, 0, none⟩) 2 2] w fun e w' => e = .returned (.int .i64 (if x = 0 then y else x)) ∧ w' = w := by
  generalize hA : (if x = 0 then y else x) = A
  go_enter Tryz.func61, Tryz.ntmps61
  go_wp2
  go_loop [8] (fun t => ∃ k : Nat, k ≤ 2 ∧ t = .int .i64 (k : Int) ∧ Hid (1 ≤ k → x = 0) ∧ Hid (2 ≤ k → y = 0)) (fun t => 2 - (intOf t).toNat)
  case atStart => exact ⟨0, by omega, rfl, fun h => by omega, fun h => by omega⟩
  case round =>
    obtain ⟨k, hk, rfl, hx, hy⟩ := hrel
    match k, hk with
    | 0, _ =>
      by_cases ex : x = 0
      · subst ex
        go_wp2
        go_roundw
        case rel => exact ⟨1, by omega, by go_num, fun _ => by first | rfl | trivial, fun h => by omega⟩
        case measure => simp [intOf]
      · have e : x = A := by rw [← hA, if_neg ex]
        have ex' : (x != 0) = true := by simpa using ex
        go_wp2
        go_ret
        exact ⟨by first | rfl | exact ret_int e, rfl⟩
    | 1, _ =>
      have x0 : x = 0 := hx.out (by omega)
      subst x0
      by_cases ey : y = 0
      · subst ey
        go_wp2
        go_roundw
        case rel => exact ⟨2, by omega, by go_num, fun _ => by first | rfl | trivial, fun _ => by first | rfl | trivial⟩
        case measure => simp [intOf]
      · have e : y = A := by rw [← hA, if_pos rfl]
        have ey' : (y != 0) = true := by simpa using ey
        go_wp2
        go_ret
        exact ⟨by first | rfl | exact ret_int e, rfl⟩
    | 2, _ =>
      have x0 : x = 0 := hx.out (by omega)
      have y0 : y = 0 := hy.out (by omega)
      subst x0 y0
      have e : 0 = A := by rw [← hA, if_pos rfl]
      go_wp2
      go_ret
      exact ⟨by first | rfl | exact ret_int e, rfl⟩
theorem has44 {W : World} {b b' : Nat} {x0 x1 x2 x3 y0 y1 y2 y3 : Value} (h : Has W b #[x0, x1, x2, x3]) (h' : Has W b' #[y0, y1, y2, y3]) : W.cell? ⟨b, 0, none⟩ = some x0 ∧ W.cell? ⟨b, 1, none⟩ = some x1 ∧ W.cell? ⟨b', 0, none⟩ = some y0 ∧ W.cell? ⟨b', 1, none⟩ = some y1 := ⟨h.2.1 0, h.2.1 1, h'.2.1 0, h'.2.1 1⟩
theorem wrap64 (z : Int) (h : -9223372036854775808 ≤ z ∧ z ≤ 9223372036854775807) : IntKind.i64.wrap z = z := by
  simp [IntKind.wrap, IntKind.bits, IntKind.signed]
  omega
def cmpP (c d : Cf) : Int := if cmpI c.a d.a = 0 then cmpI c.b d.b else cmpI c.a d.a
theorem cmpP_ord (c d : Cf) : decide (cmpP c d ≥ 0) = !ordB c d := by
  unfold cmpP cmpI ordB
  by_cases h1 : c.a < d.a
  · simp [h1]
  · by_cases h2 : d.a < c.a
    · have : ¬ c.a = d.a := by omega
      simp [h1, h2, this]
    · have : c.a = d.a := by omega
      by_cases h3 : c.b < d.b
      · simp [this, h3]
      · by_cases h4 : d.b < c.b <;> simp [this, h3, h4]
set_option maxRecDepth 100000 in
set_option maxHeartbeats 4000000 in
theorem comparePairs_any (c d : Cf) (w : World) : Calls Tryz.prog 30 #[.agg #[.int .i64 c.a, .int .i64 c.b, .int .i64 c.ab, .int .i64 c.ba], .agg #[.int .i64 d.a, .int .i64 d.b, .int .i64 d.ab, .int .i64 d.ba]] w fun e w' => e = .returned (.int .i64 (cmpP c d)) ∧ Below w.heap.size w w' := by
  have h1 := fun (W : World) => compare_any c.a d.a W
  have h2 := fun (W : World) => compare_any c.b d.b W
  have h3 := fun (b : Nat) (W : World) => or_any (cmpI c.a d.a) (cmpI c.b d.b) b W
  unfold cmpP
  generalize cmpI c.a d.a = x at *
  generalize cmpI c.b d.b = y at *
  generalize (if x = 0 then y else x) = z at *
  generalize c.a = ca at *
  generalize c.b = cb at *
  generalize d.a = da at *
  generalize d.b = db at *
  go_enter Tryz.func30, Tryz.ntmps30
  go_wp2
  have HB : Below w.heap.size w ((w.alloc (.cells #[.int .i64 ca, .int .i64 cb, .int .i64 c.ab, .int .i64 c.ba] 93)).alloc (.cells #[.int .i64 da, .int .i64 db, .int .i64 d.ab, .int .i64 d.ba] 93)) := belA
  have H1 : Has ((w.alloc (.cells #[.int .i64 ca, .int .i64 cb, .int .i64 c.ab, .int .i64 c.ba] 93)).alloc (.cells #[.int .i64 da, .int .i64 db, .int .i64 d.ab, .int .i64 d.ba] 93)) w.heap.size #[.int .i64 ca, .int .i64 cb, .int .i64 c.ab, .int .i64 c.ba] := (Has.new _ _ _ rfl).alloc _
  have H2 : Has ((w.alloc (.cells #[.int .i64 ca, .int .i64 cb, .int .i64 c.ab, .int .i64 c.ba] 93)).alloc (.cells #[.int .i64 da, .int .i64 db, .int .i64 d.ab, .int .i64 d.ba] 93)) (w.heap.size + 1) #[.int .i64 da, .int .i64 db, .int .i64 d.ab, .int .i64 d.ba] := Has.new _ _ _ (by simp)
  generalize ((w.alloc (.cells #[.int .i64 ca, .int .i64 cb, .int .i64 c.ab, .int .i64 c.ba] 93)).alloc (.cells #[.int .i64 da, .int .i64 db, .int .i64 d.ab, .int .i64 d.ba] 93)) = W0 at *
  obtain ⟨_, i1, _⟩ := id H1
  obtain ⟨_, i2, _⟩ := id H2
  go_region_held3 (fun w' => w'.cell? ⟨w.heap.size, 0, none⟩ = some (.int .i64 ca) ∧ w'.cell? ⟨w.heap.size, 1, none⟩ = some (.int .i64 cb) ∧ w'.cell? ⟨w.heap.size + 1, 0, none⟩ = some (.int .i64 da) ∧ w'.cell? ⟨w.heap.size + 1, 1, none⟩ = some (.int .i64 db)) (first | with_reducible exact has44 H1 H2 | with_reducible exact has44 H1.drew H2.drew | with_reducible exact has44 (H1.alloc _).drew (H2.alloc _).drew | with_reducible exact has44 (H1.drew.alloc _) (H2.drew.alloc _) | go_keep) (first
    | (go_at_call 62; (with_reducible refine Calls.mono (h1 _) ?_); rintro e w2 ⟨rfl, rfl⟩)
    | (go_at_call 62; (with_reducible refine Calls.mono (h2 _) ?_); rintro e w2 ⟨rfl, rfl⟩)
    | (go_at_call 61; (with_reducible refine Calls.mono (h3 _ _ (by simp) (by simp)) ?_); rintro e w2 ⟨rfl, rfl⟩))
  go_wp2
  go_ret
  exact ⟨rfl, (HB.alloc HB.size _).drew⟩
end Go.Proofs.YtnicolaphmffkaaGreatDoor
