import Derived.Test.YtoaokpmnjppfcaaOpT
import Derived.Test.YtoaokpmnjppfcaaBas
namespace Go.Proofs.Ytoaokpmnjppfcaa
open Go.RowKit
set_option linter.unusedVariables false


def timeB (t : Int) : Bool := decide (0 ≤ t) && decide (t ≤ 3600)
def amberB (t : Int) : Bool := decide (0 ≤ t) && decide (t ≤ 60)
def inB (n lo hi : Int) : Bool := decide (lo ≤ n) && decide (n ≤ hi)
def cmpI (a b : Int) : Int := if a < b then -1 else if b < a then 1 else 0
def gpB (x : Gp) : Bool := (decide (x.sort = 1) || decide (x.sort = 2)) && (decide (1 ≤ x.min) && (timeB x.min && (amberB x.amber && amberB x.lead)))
def cfB (n : Nat) (c : Cf) : Bool := decide (0 ≤ c.a) && (decide (c.a < c.b) && (decide (c.b < (n : Int)) && (timeB c.ab && timeB c.ba)))
/-- The second stands behind the first. -/
def ordB (c d : Cf) : Bool := decide (c.a < d.a) || (decide (c.a = d.a) && decide (c.b < d.b))
theorem has4 {w' : World} {b : Nat} {v0 v1 v2 v3 : Value} (h : Has w' b #[v0, v1, v2, v3]) : w'.cell? ⟨b, 0, none⟩ = some v0 ∧ w'.cell? ⟨b, 1, none⟩ = some v1 ∧ w'.cell? ⟨b, 2, none⟩ = some v2 ∧ w'.cell? ⟨b, 3, none⟩ = some v3 := ⟨h.2.1 0, h.2.1 1, h.2.1 2, h.2.1 3⟩
def ordP (p : Option Cf) (c : Cf) : Bool := match p with
  | none => true
  | some b => ordB b c
/-- The rows behind a row. -/
def rowsB (n : Nat) : Option Cf → List Cf → Bool
  | _, [] => true
  | p, c :: cs => (cfB n c && ordP p c) && rowsB n (some c) cs
def prevK (C : List Cf) : Nat → Option Cf
  | 0 => none
  | k + 1 => C[k]?
def gridB (G : List Gp) (C : List Cf) : Bool := decide (G.length ≤ 64) && (G.all gpB && rowsB G.length none C)
theorem all_step (G : List Gp) (k : Nat) (h : k < G.length) : (G.drop k).all gpB = (gpB G[k] && (G.drop (k + 1)).all gpB) := by
  rw [List.drop_eq_getElem_cons h]; rfl
theorem all_end (G : List Gp) (k : Nat) (h : G.length ≤ k) : (G.drop k).all gpB = true := by
  rw [List.drop_eq_nil_of_le h]; rfl
theorem rows_step (n : Nat) (C : List Cf) (k : Nat) (h : k < C.length) : rowsB n (prevK C k) (C.drop k) = ((cfB n C[k] && ordP (prevK C k) C[k]) && rowsB n (prevK C (k + 1)) (C.drop (k + 1))) := by
  rw [List.drop_eq_getElem_cons h]
  have e : prevK C (k + 1) = some C[k] := List.getElem?_eq_getElem h
  rw [e]; rfl
theorem rows_end (n : Nat) (C : List Cf) (k : Nat) (h : C.length ≤ k) : rowsB n (prevK C k) (C.drop k) = true := by
  rw [List.drop_eq_nil_of_le h]; cases prevK C k <;> rfl
set_option maxRecDepth 100000 in
theorem isTime_any (t : Int) (w : World) : Calls Try.prog 39 #[.int .i64 t] w fun e w' => e = .returned (.bool (timeB t)) ∧ w' = w := by
  by_cases h0 : 0 ≤ t
  · have e : timeB t = decide (t ≤ 3600) := by simp [timeB, h0]
    go_enter Try.func39, Try.ntmps39
    go_wp2
    go_ret
    exact ⟨by first | rfl | exact ret_bool e.symm, rfl⟩
  · have e : timeB t = false := by simp [timeB, h0]
    go_enter Try.func39, Try.ntmps39
    go_wp2
    go_ret
    exact ⟨by first | rfl | exact ret_bool e.symm, rfl⟩
set_option maxRecDepth 100000 in
theorem isAmber_any (t : Int) (w : World) : Calls Try.prog 40 #[.int .i64 t] w fun e w' => e = .returned (.bool (amberB t)) ∧ w' = w := by
  by_cases h0 : 0 ≤ t
  · have e : amberB t = decide (t ≤ 60) := by simp [amberB, h0]
    go_enter Try.func40, Try.ntmps40
    go_wp2
    go_ret
    exact ⟨by first | rfl | exact ret_bool e.symm, rfl⟩
  · have e : amberB t = false := by simp [amberB, h0]
    go_enter Try.func40, Try.ntmps40
    go_wp2
    go_ret
    exact ⟨by first | rfl | exact ret_bool e.symm, rfl⟩
set_option maxRecDepth 100000 in
theorem within_any (n lo hi : Int) (w : World) : Calls Try.prog 26 #[.int .i64 n, .int .i64 lo, .int .i64 hi] w fun e w' => e = .returned (.bool (inB n lo hi)) ∧ w' = w := by
  by_cases h0 : lo ≤ n
  · have e : inB n lo hi = decide (n ≤ hi) := by simp [inB, h0]
    go_enter Try.func26, Try.ntmps26
    go_wp2
    go_ret
    exact ⟨by first | rfl | exact ret_bool e.symm, rfl⟩
  · have e : inB n lo hi = false := by simp [inB, h0]
    go_enter Try.func26, Try.ntmps26
    go_wp2
    go_ret
    exact ⟨by first | rfl | exact ret_bool e.symm, rfl⟩
set_option maxRecDepth 100000 in
theorem isNaN_any (n : Int) (w : World) : Calls Try.prog 55 #[.int .i64 n] w fun e w' => e = .returned (.bool false) ∧ w' = w := by
  go_enter Try.func55, Try.ntmps55
  go_wp2
  go_ret
  exact ⟨by simp, rfl⟩
set_option maxRecDepth 100000 in
theorem compare_any (a b : Int) (w : World) : Calls Try.prog 42 #[.int .i64 a, .int .i64 b] w fun e w' => e = .returned (.int .i64 (cmpI a b)) ∧ w' = w := by
  have hN := fun (n : Int) (W : World) => isNaN_any n W
  by_cases h0 : a < b
  · have e : cmpI a b = -1 := by simp [cmpI, h0]
    go_enter Try.func42, Try.ntmps42
    go_wp2_with (go_at_call 55; (with_reducible refine Calls.mono (hN _ _) ?_); rintro e w2 ⟨rfl, rfl⟩)
    go_ret
    exact ⟨by first | rfl | exact ret_int e.symm, rfl⟩
  · by_cases h1 : b < a
    · have e : cmpI a b = 1 := by simp [cmpI, h0, h1]
      go_enter Try.func42, Try.ntmps42
      go_wp2_with (go_at_call 55; (with_reducible refine Calls.mono (hN _ _) ?_); rintro e w2 ⟨rfl, rfl⟩)
      go_ret
      exact ⟨by first | rfl | exact ret_int e.symm, rfl⟩
    · have e : cmpI a b = 0 := by simp [cmpI, h0, h1]
      go_enter Try.func42, Try.ntmps42
      go_wp2_with (go_at_call 55; (with_reducible refine Calls.mono (hN _ _) ?_); rintro e w2 ⟨rfl, rfl⟩)
      go_ret
      exact ⟨by first | rfl | exact ret_int e.symm, rfl⟩

set_option maxRecDepth 100000 in
theorem soundGroup_any (nm : ByteArray) (s mi am le : Int) (w : World) : Calls Try.prog 28 #[.agg #[.string nm, .int .i64 s, .int .i64 mi, .int .i64 am, .int .i64 le]] w fun e w' => e = .returned (.bool (gpB ⟨nm, s, mi, am, le⟩)) ∧ Below w.heap.size w w' := by
  have hT := fun (W : World) => isTime_any mi W
  have hA := fun (W : World) => isAmber_any am W
  have hL := fun (W : World) => isAmber_any le W
  by_cases s1 : s = 1
  · subst s1
    by_cases h1 : 1 ≤ mi
    · cases h2 : timeB mi with
      | false =>
        rw [h2] at hT
        have eR : gpB ⟨nm, 1, mi, am, le⟩ = false := by simp [gpB, h1, h2]
        go_enter Try.func28, Try.ntmps28
        go_wp2_with (first | (go_at_call 39; (with_reducible refine Calls.mono (hT _) ?_); rintro e w2 ⟨rfl, rfl⟩) | (go_at_call 40; (with_reducible refine Calls.mono (hA _) ?_); rintro e w2 ⟨rfl, rfl⟩) | (go_at_call 40; (with_reducible refine Calls.mono (hL _) ?_); rintro e w2 ⟨rfl, rfl⟩))
        go_ret
        exact ⟨by first | rfl | exact ret_bool eR.symm, belN1⟩
      | true =>
        rw [h2] at hT
        cases h3 : amberB am with
        | false =>
          rw [h3] at hA
          have eR : gpB ⟨nm, 1, mi, am, le⟩ = false := by simp [gpB, h1, h2, h3]
          go_enter Try.func28, Try.ntmps28
          go_wp2_with (first | (go_at_call 39; (with_reducible refine Calls.mono (hT _) ?_); rintro e w2 ⟨rfl, rfl⟩) | (go_at_call 40; (with_reducible refine Calls.mono (hA _) ?_); rintro e w2 ⟨rfl, rfl⟩) | (go_at_call 40; (with_reducible refine Calls.mono (hL _) ?_); rintro e w2 ⟨rfl, rfl⟩))
          go_ret
          exact ⟨by first | rfl | exact ret_bool eR.symm, belN1⟩
        | true =>
          rw [h3] at hA
          cases h4 : amberB le with
          | false =>
            rw [h4] at hL
            have eR : gpB ⟨nm, 1, mi, am, le⟩ = false := by simp [gpB, h1, h2, h3, h4]
            go_enter Try.func28, Try.ntmps28
            go_wp2_with (first | (go_at_call 39; (with_reducible refine Calls.mono (hT _) ?_); rintro e w2 ⟨rfl, rfl⟩) | (go_at_call 40; (with_reducible refine Calls.mono (hA _) ?_); rintro e w2 ⟨rfl, rfl⟩) | (go_at_call 40; (with_reducible refine Calls.mono (hL _) ?_); rintro e w2 ⟨rfl, rfl⟩))
            go_ret
            exact ⟨by first | rfl | exact ret_bool eR.symm, belN1⟩
          | true =>
            rw [h4] at hL
            have eR : gpB ⟨nm, 1, mi, am, le⟩ = true := by simp [gpB, h1, h2, h3, h4]
            go_enter Try.func28, Try.ntmps28
            go_wp2_with (first | (go_at_call 39; (with_reducible refine Calls.mono (hT _) ?_); rintro e w2 ⟨rfl, rfl⟩) | (go_at_call 40; (with_reducible refine Calls.mono (hA _) ?_); rintro e w2 ⟨rfl, rfl⟩) | (go_at_call 40; (with_reducible refine Calls.mono (hL _) ?_); rintro e w2 ⟨rfl, rfl⟩))
            go_ret
            exact ⟨by first | rfl | exact ret_bool eR.symm, belN1⟩
    · clear hT hA hL
      have eR : gpB ⟨nm, 1, mi, am, le⟩ = false := by simp [gpB, h1]
      go_enter Try.func28, Try.ntmps28
      go_wp2_with (first | (go_at_call 39; (with_reducible refine Calls.mono (hT _) ?_); rintro e w2 ⟨rfl, rfl⟩) | (go_at_call 40; (with_reducible refine Calls.mono (hA _) ?_); rintro e w2 ⟨rfl, rfl⟩) | (go_at_call 40; (with_reducible refine Calls.mono (hL _) ?_); rintro e w2 ⟨rfl, rfl⟩))
      go_ret
      exact ⟨by first | rfl | exact ret_bool eR.symm, belN1⟩
  · by_cases s2 : s = 2
    · subst s2
      by_cases h1 : 1 ≤ mi
      · cases h2 : timeB mi with
        | false =>
          rw [h2] at hT
          have eR : gpB ⟨nm, 2, mi, am, le⟩ = false := by simp [gpB, h1, h2]
          go_enter Try.func28, Try.ntmps28
          go_wp2_with (first | (go_at_call 39; (with_reducible refine Calls.mono (hT _) ?_); rintro e w2 ⟨rfl, rfl⟩) | (go_at_call 40; (with_reducible refine Calls.mono (hA _) ?_); rintro e w2 ⟨rfl, rfl⟩) | (go_at_call 40; (with_reducible refine Calls.mono (hL _) ?_); rintro e w2 ⟨rfl, rfl⟩))
          go_ret
          exact ⟨by first | rfl | exact ret_bool eR.symm, belN1⟩
        | true =>
          rw [h2] at hT
          cases h3 : amberB am with
          | false =>
            rw [h3] at hA
            have eR : gpB ⟨nm, 2, mi, am, le⟩ = false := by simp [gpB, h1, h2, h3]
            go_enter Try.func28, Try.ntmps28
            go_wp2_with (first | (go_at_call 39; (with_reducible refine Calls.mono (hT _) ?_); rintro e w2 ⟨rfl, rfl⟩) | (go_at_call 40; (with_reducible refine Calls.mono (hA _) ?_); rintro e w2 ⟨rfl, rfl⟩) | (go_at_call 40; (with_reducible refine Calls.mono (hL _) ?_); rintro e w2 ⟨rfl, rfl⟩))
            go_ret
            exact ⟨by first | rfl | exact ret_bool eR.symm, belN1⟩
          | true =>
            rw [h3] at hA
            cases h4 : amberB le with
            | false =>
              rw [h4] at hL
              have eR : gpB ⟨nm, 2, mi, am, le⟩ = false := by simp [gpB, h1, h2, h3, h4]
              go_enter Try.func28, Try.ntmps28
              go_wp2_with (first | (go_at_call 39; (with_reducible refine Calls.mono (hT _) ?_); rintro e w2 ⟨rfl, rfl⟩) | (go_at_call 40; (with_reducible refine Calls.mono (hA _) ?_); rintro e w2 ⟨rfl, rfl⟩) | (go_at_call 40; (with_reducible refine Calls.mono (hL _) ?_); rintro e w2 ⟨rfl, rfl⟩))
              go_ret
              exact ⟨by first | rfl | exact ret_bool eR.symm, belN1⟩
            | true =>
              rw [h4] at hL
              have eR : gpB ⟨nm, 2, mi, am, le⟩ = true := by simp [gpB, h1, h2, h3, h4]
              go_enter Try.func28, Try.ntmps28
              go_wp2_with (first | (go_at_call 39; (with_reducible refine Calls.mono (hT _) ?_); rintro e w2 ⟨rfl, rfl⟩) | (go_at_call 40; (with_reducible refine Calls.mono (hA _) ?_); rintro e w2 ⟨rfl, rfl⟩) | (go_at_call 40; (with_reducible refine Calls.mono (hL _) ?_); rintro e w2 ⟨rfl, rfl⟩))
              go_ret
              exact ⟨by first | rfl | exact ret_bool eR.symm, belN1⟩
      · clear hT hA hL
        have eR : gpB ⟨nm, 2, mi, am, le⟩ = false := by simp [gpB, h1]
        go_enter Try.func28, Try.ntmps28
        go_wp2_with (first | (go_at_call 39; (with_reducible refine Calls.mono (hT _) ?_); rintro e w2 ⟨rfl, rfl⟩) | (go_at_call 40; (with_reducible refine Calls.mono (hA _) ?_); rintro e w2 ⟨rfl, rfl⟩) | (go_at_call 40; (with_reducible refine Calls.mono (hL _) ?_); rintro e w2 ⟨rfl, rfl⟩))
        go_ret
        exact ⟨by first | rfl | exact ret_bool eR.symm, belN1⟩
    · have eR : gpB ⟨nm, s, mi, am, le⟩ = false := by simp [gpB, s1, s2]
      clear hT hA hL
      go_enter Try.func28, Try.ntmps28
      go_wp2
      go_ret
      exact ⟨by first | rfl | exact ret_bool eR.symm, belN1⟩
end Go.Proofs.Ytoaokpmnjppfcaa
