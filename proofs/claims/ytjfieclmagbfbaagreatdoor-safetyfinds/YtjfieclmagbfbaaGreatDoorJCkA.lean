import Derived.Test.YtjfieclmagbfbaaGreatDoorLxC
import Derived.Test.YtjfieclmagbfbaaGreatDoorApA
set_option linter.unusedSimpArgs false
set_option linter.unusedVariables false
set_option maxRecDepth 100000
set_option maxHeartbeats 8000000
namespace Go.Proofs.YtjfieclmagbfbaaGreatDoor
open Go.RowKit
def Sm (s : ByteArray) : Prop := s.size < 4611686018427387904
def nmB (s : ByteArray) : Bool := zDs s.data.toList == 1
def emB (s : ByteArray) : Bool := s.toList.isEmpty
def fNd (x : Nd) : Bool :=
 if x.op = 1 then decide (0 ≤ x.val) && emB x.name
 else if x.op = 2 then (decide (x.val = 0) || decide (x.val = 1)) && emB x.name
 else if x.op = 3 ∨ x.op = 5 ∨ x.op = 6 then decide (x.val = 0) && nmB x.name
 else if x.op = 7 ∨ x.op = 8 ∨ x.op = 9 ∨ x.op = 10 then false
 else decide (x.val = 0) && emB x.name
def fEx (L : List Nd) : Bool := decide (L.length ≤ 256) && (decide (0 ≤ zCc L) && (decide (zCc L ≤ 64) && L.all fNd))
structure Tb (w : World) : Prop where
 wt : Wt w
 kt : Kt w
 st : SgT w
theorem Tb.below {w w' : World} (h : Tb w) (hb : Below w.heap.size w w') : Tb w' := ⟨h.wt.below hb h.wt.1, h.kt.below hb h.kt.1, h.st.below hb h.st.1⟩
structure Sy where
 name : ByteArray
 kind : Int
 ix : Int
 line : Int
 col : Int
theorem tl_inj {a b : ByteArray} (h : a.toList = b.toList) : a = b := by
 rw [Lib.toList_data, Lib.toList_data] at h
 cases a; cases b
 simp only [ByteArray.mk.injEq]
 exact Array.toList_inj.1 h
def resF (op a b : Int) : Int :=
 if op = 20 ∨ op = 22 then (if a = 1 then 1 else 0)
 else if op = 21 then (if a = 2 then 2 else 0)
 else if 30 ≤ op ∧ op ≤ 36 then (if a = 1 ∧ b = 1 then 1 else 0)
 else if op = 40 ∨ op = 41 then (if a = b then 2 else 0)
 else if 42 ≤ op ∧ op ≤ 45 then (if a = 1 ∧ b = 1 then 2 else 0)
 else if op = 50 ∨ op = 51 then (if a = 2 ∧ b = 2 then 2 else 0)
 else 0
theorem res20 (a b : Int) (w : World) :
  Calls Tryz.prog 120 #[.int .i64 20, .int .i64 a, .int .i64 b] w fun e w' => e = .returned (.int .i64 (if a = 1 then 1 else 0)) ∧ w' = w := by
 by_cases h : a = 1
 ·subst h
  rw [if_pos rfl]; go_enter Tryz.func120, Tryz.ntmps120
  go_wp2_with fail
  go_ret; exact ⟨rfl, rfl⟩
 ·rw [if_neg h]
  have n : (a == 1) = false := by simpa using h
  go_enter Tryz.func120, Tryz.ntmps120
  go_wp2_with fail
  go_ret; exact ⟨rfl, rfl⟩
theorem res22 (a b : Int) (w : World) :
  Calls Tryz.prog 120 #[.int .i64 22, .int .i64 a, .int .i64 b] w fun e w' => e = .returned (.int .i64 (if a = 1 then 1 else 0)) ∧ w' = w := by
 by_cases h : a = 1
 ·subst h
  rw [if_pos rfl]; go_enter Tryz.func120, Tryz.ntmps120
  go_wp2_with fail
  go_ret; exact ⟨rfl, rfl⟩
 ·rw [if_neg h]
  have n : (a == 1) = false := by simpa using h
  go_enter Tryz.func120, Tryz.ntmps120
  go_wp2_with fail
  go_ret; exact ⟨rfl, rfl⟩
theorem res21 (a b : Int) (w : World) :
  Calls Tryz.prog 120 #[.int .i64 21, .int .i64 a, .int .i64 b] w fun e w' => e = .returned (.int .i64 (if a = 2 then 2 else 0)) ∧ w' = w := by
 by_cases h : a = 2
 ·subst h
  rw [if_pos rfl]; go_enter Tryz.func120, Tryz.ntmps120
  go_wp2_with fail
  go_ret; exact ⟨rfl, rfl⟩
 ·rw [if_neg h]
  have n : (a == 2) = false := by simpa using h
  go_enter Tryz.func120, Tryz.ntmps120
  go_wp2_with fail
  go_ret; exact ⟨rfl, rfl⟩
theorem res30 (op : Int) (g1 : 30 ≤ op) (g2 : op ≤ 36) (a b : Int) (w : World) :
  Calls Tryz.prog 120 #[.int .i64 op, .int .i64 a, .int .i64 b] w fun e w' => e = .returned (.int .i64 (if a = 1 ∧ b = 1 then 1 else 0)) ∧ w' = w := by
 have n20 : (op == 20) = false := by simp; omega
 have n22 : (op == 22) = false := by simp; omega
 have n21 : (op == 21) = false := by simp; omega
 by_cases h : a = 1
 ·subst h
  by_cases g : b = 1
  ·subst g
   rw [if_pos ⟨rfl, rfl⟩]; go_enter Tryz.func120, Tryz.ntmps120
   go_wp2_with fail
   go_ret; exact ⟨rfl, rfl⟩
  ·rw [if_neg (fun q => g q.2)]
   have n : (b == 1) = false := by simpa using g
   go_enter Tryz.func120, Tryz.ntmps120
   go_wp2_with fail
   go_ret; exact ⟨rfl, rfl⟩
 ·rw [if_neg (fun q => h q.1)]
  have n : (a == 1) = false := by simpa using h
  go_enter Tryz.func120, Tryz.ntmps120
  go_wp2_with fail
  go_ret; exact ⟨rfl, rfl⟩
theorem res40 (a b : Int) (w : World) :
  Calls Tryz.prog 120 #[.int .i64 40, .int .i64 a, .int .i64 b] w fun e w' => e = .returned (.int .i64 (if a = b then 2 else 0)) ∧ w' = w := by
 by_cases h : a = b
 ·subst h
  rw [if_pos rfl]; go_enter Tryz.func120, Tryz.ntmps120
  go_wp2_with fail
  go_ret; exact ⟨rfl, rfl⟩
 ·rw [if_neg h]
  have n : (a == b) = false := by simpa using h
  go_enter Tryz.func120, Tryz.ntmps120
  go_wp2_with fail
  go_ret; exact ⟨rfl, rfl⟩
theorem res41 (a b : Int) (w : World) :
  Calls Tryz.prog 120 #[.int .i64 41, .int .i64 a, .int .i64 b] w fun e w' => e = .returned (.int .i64 (if a = b then 2 else 0)) ∧ w' = w := by
 by_cases h : a = b
 ·subst h
  rw [if_pos rfl]; go_enter Tryz.func120, Tryz.ntmps120
  go_wp2_with fail
  go_ret; exact ⟨rfl, rfl⟩
 ·rw [if_neg h]
  have n : (a == b) = false := by simpa using h
  go_enter Tryz.func120, Tryz.ntmps120
  go_wp2_with fail
  go_ret; exact ⟨rfl, rfl⟩
theorem res42 (op : Int) (g1 : 42 ≤ op) (g2 : op ≤ 45) (a b : Int) (w : World) :
  Calls Tryz.prog 120 #[.int .i64 op, .int .i64 a, .int .i64 b] w fun e w' => e = .returned (.int .i64 (if a = 1 ∧ b = 1 then 2 else 0)) ∧ w' = w := by
 have n20 : (op == 20) = false := by simp; omega
 have n22 : (op == 22) = false := by simp; omega
 have n21 : (op == 21) = false := by simp; omega
 have n40 : (op == 40) = false := by simp; omega
 have n41 : (op == 41) = false := by simp; omega
 have g3 : ¬ op ≤ 36 := by omega
 have g4 : 30 ≤ op := by omega
 by_cases h : a = 1
 ·subst h
  by_cases g : b = 1
  ·subst g
   rw [if_pos ⟨rfl, rfl⟩]; go_enter Tryz.func120, Tryz.ntmps120
   go_wp2_with fail
   go_ret; exact ⟨rfl, rfl⟩
  ·rw [if_neg (fun q => g q.2)]
   have n : (b == 1) = false := by simpa using g
   go_enter Tryz.func120, Tryz.ntmps120
   go_wp2_with fail
   go_ret; exact ⟨rfl, rfl⟩
 ·rw [if_neg (fun q => h q.1)]
  have n : (a == 1) = false := by simpa using h
  go_enter Tryz.func120, Tryz.ntmps120
  go_wp2_with fail
  go_ret; exact ⟨rfl, rfl⟩
theorem res50 (a b : Int) (w : World) :
  Calls Tryz.prog 120 #[.int .i64 50, .int .i64 a, .int .i64 b] w fun e w' => e = .returned (.int .i64 (if a = 2 ∧ b = 2 then 2 else 0)) ∧ w' = w := by
 by_cases h : a = 2
 ·subst h
  by_cases g : b = 2
  ·subst g
   rw [if_pos ⟨rfl, rfl⟩]; go_enter Tryz.func120, Tryz.ntmps120
   go_wp2_with fail
   go_ret; exact ⟨rfl, rfl⟩
  ·rw [if_neg (fun q => g q.2)]
   have n : (b == 2) = false := by simpa using g
   go_enter Tryz.func120, Tryz.ntmps120
   go_wp2_with fail
   go_ret; exact ⟨rfl, rfl⟩
 ·rw [if_neg (fun q => h q.1)]
  have n : (a == 2) = false := by simpa using h
  go_enter Tryz.func120, Tryz.ntmps120
  go_wp2_with fail
  go_ret; exact ⟨rfl, rfl⟩
theorem res51 (a b : Int) (w : World) :
  Calls Tryz.prog 120 #[.int .i64 51, .int .i64 a, .int .i64 b] w fun e w' => e = .returned (.int .i64 (if a = 2 ∧ b = 2 then 2 else 0)) ∧ w' = w := by
 by_cases h : a = 2
 ·subst h
  by_cases g : b = 2
  ·subst g
   rw [if_pos ⟨rfl, rfl⟩]; go_enter Tryz.func120, Tryz.ntmps120
   go_wp2_with fail
   go_ret; exact ⟨rfl, rfl⟩
  ·rw [if_neg (fun q => g q.2)]
   have n : (b == 2) = false := by simpa using g
   go_enter Tryz.func120, Tryz.ntmps120
   go_wp2_with fail
   go_ret; exact ⟨rfl, rfl⟩
 ·rw [if_neg (fun q => h q.1)]
  have n : (a == 2) = false := by simpa using h
  go_enter Tryz.func120, Tryz.ntmps120
  go_wp2_with fail
  go_ret; exact ⟨rfl, rfl⟩
def opB (op : Int) : Prop := (op = 20 ∨ op = 21 ∨ op = 22) ∨ (30 ≤ op ∧ op ≤ 36) ∨ (op = 40 ∨ op = 41) ∨ (42 ≤ op ∧ op ≤ 45) ∨ (op = 50 ∨ op = 51)
theorem result_any (op a b : Int) (w : World) (h : opB op) :
  Calls Tryz.prog 120 #[.int .i64 op, .int .i64 a, .int .i64 b] w fun e w' => e = .returned (.int .i64 (resF op a b)) ∧ w' = w := by
 rcases h with (rfl | rfl | rfl) | ⟨g1, g2⟩ | (rfl | rfl) | ⟨g1, g2⟩ | (rfl | rfl)
 ·exact res20 a b w
 ·exact res21 a b w
 ·exact res22 a b w
 ·rw [show resF op a b = if a = 1 ∧ b = 1 then 1 else 0 from by unfold resF; rw [if_neg (by omega), if_neg (by omega), if_pos ⟨g1, g2⟩]]
  exact res30 op g1 g2 a b w
 ·exact res40 a b w
 ·exact res41 a b w
 ·rw [show resF op a b = if a = 1 ∧ b = 1 then 2 else 0 from by unfold resF; rw [if_neg (by omega), if_neg (by omega), if_neg (by omega), if_neg (by omega), if_pos ⟨g1, g2⟩]]
  exact res42 op g1 g2 a b w
 ·exact res50 a b w
 ·exact res51 a b w
structure Sz where
 g : Nat
 d : Nat
 t : Nat
 c : Nat
 v : Nat
def plB (i : Int) (n : Nat) : Bool := decide (0 ≤ i) && decide (i < (n : Int))
def blB (s : ByteArray) (l c : Int) : Bool := emB s && (decide (l = 0) && decide (c = 0))
def ndV (z : Sz) (op val : Int) : Bool :=
 if op = 3 then false
 else if op = 1 then true
 else if op = 2 then decide (val = 0) || decide (val = 1)
 else if op = 5 ∨ op = 6 then plB val z.g
 else if op = 7 then plB val z.v
 else if op = 8 then plB val z.t
 else if op = 9 then plB val z.c
 else if op = 10 then plB val z.d
 else decide (val = 0)
def ndB (z : Sz) (x : Nd) : Bool := blB x.name x.line x.col && ndV z x.op x.val
def lfT (op : Int) : Int := if op = 3 then 0 else if op = 1 ∨ op = 4 ∨ op = 7 ∨ op = 8 ∨ op = 9 then 1 else 2
def stF : List Int → List Nd → Int
 | st, [] => st.getD 0 0
 | st, x :: L =>
   if x.op < 20 then stF (st ++ [lfT x.op]) L
   else if x.op < 30 then (if resF x.op (st.getD (st.length - 1) 0) 0 = 0 then 0 else stF (st.take (st.length - 1) ++ [resF x.op (st.getD (st.length - 1) 0) 0]) L)
   else (if resF x.op (st.getD (st.length - 2) 0) (st.getD (st.length - 1) 0) = 0 then 0 else stF (st.take (st.length - 2) ++ [resF x.op (st.getD (st.length - 2) 0) (st.getD (st.length - 1) 0)]) L)
theorem st_end (st : List Int) (L : List Nd) (k : Nat) (h : L.length ≤ k) : stF st (L.drop k) = st.getD 0 0 := by
 rw [List.drop_eq_nil_of_le h]; unfold stF; rfl
theorem st_leaf (st : List Int) (L : List Nd) (k : Nat) (h : k < L.length) (ho : L[k].op < 20) : stF st (L.drop k) = stF (st ++ [lfT L[k].op]) (L.drop (k + 1)) := by
 rw [List.drop_eq_getElem_cons h]
 conv => lhs; unfold stF
 rw [if_pos ho]
theorem st_one (st : List Int) (L : List Nd) (k : Nat) (h : k < L.length) (h1 : 20 ≤ L[k].op) (h2 : L[k].op < 30) : stF st (L.drop k) = if resF L[k].op (st.getD (st.length - 1) 0) 0 = 0 then 0 else stF (st.take (st.length - 1) ++ [resF L[k].op (st.getD (st.length - 1) 0) 0]) (L.drop (k + 1)) := by
 rw [List.drop_eq_getElem_cons h]
 conv => lhs; unfold stF
 rw [if_neg (by omega), if_pos h2]
theorem st_two (st : List Int) (L : List Nd) (k : Nat) (h : k < L.length) (h1 : 30 ≤ L[k].op) : stF st (L.drop k) = if resF L[k].op (st.getD (st.length - 2) 0) (st.getD (st.length - 1) 0) = 0 then 0 else stF (st.take (st.length - 2) ++ [resF L[k].op (st.getD (st.length - 2) 0) (st.getD (st.length - 1) 0)]) (L.drop (k + 1)) := by
 rw [List.drop_eq_getElem_cons h]
 conv => lhs; unfold stF
 rw [if_neg (by omega), if_neg (by omega)]
def lvZ (z : Sz) (op val : Int) : Int :=
 if op = 1 then 1
 else if op = 2 then (if val = 0 ∨ val = 1 then 2 else 0)
 else if op = 4 then (if val = 0 then 1 else 0)
 else if op = 7 then (if plB val z.v = true then 1 else 0)
 else if op = 8 then (if plB val z.t = true then 1 else 0)
 else if op = 9 then (if plB val z.c = true then 1 else 0)
 else if op = 5 ∨ op = 6 then (if plB val z.g = true then 2 else 0)
 else if op = 10 then (if plB val z.d = true then 2 else 0)
 else 0
def lfO (op : Int) : Prop := op = 1 ∨ op = 2 ∨ op = 3 ∨ op = 4 ∨ op = 5 ∨ op = 6 ∨ op = 7 ∨ op = 8 ∨ op = 9 ∨ op = 10
theorem lv_eq (z : Sz) (op val : Int) (h : lfO op) : lvZ z op val = if ndV z op val = true then lfT op else 0 := by
 unfold lfO at h
 rcases h with rfl | rfl | rfl | rfl | rfl | rfl | rfl | rfl | rfl | rfl
 all_goals
  unfold lvZ ndV lfT; simp
def tdF (z : Sz) : List Int → List Nd → Int
 | st, [] => st.getD 0 0
 | st, x :: L =>
   if blB x.name x.line x.col = false then 0
   else if x.op < 20 then (if lvZ z x.op x.val = 0 then 0 else tdF z (st ++ [lvZ z x.op x.val]) L)
   else if x.val ≠ 0 then 0
   else if x.op < 30 then (if resF x.op (st.getD (st.length - 1) 0) 0 = 0 then 0 else tdF z (st.take (st.length - 1) ++ [resF x.op (st.getD (st.length - 1) 0) 0]) L)
   else (if resF x.op (st.getD (st.length - 2) 0) (st.getD (st.length - 1) 0) = 0 then 0 else tdF z (st.take (st.length - 2) ++ [resF x.op (st.getD (st.length - 2) 0) (st.getD (st.length - 1) 0)]) L)
theorem td_eq (z : Sz) : ∀ (L : List Nd) (st : List Int), (∀ x ∈ L, lfO x.op ∨ opB x.op) → tdF z st L = if L.all (ndB z) = true then stF st L else 0 := by
 intro L
 induction L with
 | nil => intro st _; unfold tdF stF; simp
 | cons x L ih =>
   intro st h; have hx := h x (List.mem_cons_self); have ih' := fun st => ih st (fun y hy => h y (List.mem_cons_of_mem _ hy))
   unfold tdF stF; rw [List.all_cons]; unfold ndB
   cases hb : blB x.name x.line x.col with
   | false => simp
   | true =>
     simp only [Bool.true_and, Bool.true_eq_false, if_false]
     by_cases c1 : x.op < 20
     ·have hl : lfO x.op := by
       rcases hx with h | h
       ·exact h
       ·unfold opB at h; omega
      rw [if_pos c1, if_pos c1, lv_eq z _ _ hl, ih']
      cases hv : ndV z x.op x.val with
      | false => simp
      | true =>
        have hn : ¬ lfT x.op = 0 := by
         unfold lfT
         by_cases c3 : x.op = 3
         ·rw [c3] at hv; simp [ndV] at hv
         ·rw [if_neg c3]; by_cases q : x.op = 1 ∨ x.op = 4 ∨ x.op = 7 ∨ x.op = 8 ∨ x.op = 9 <;> simp [q]
        simp only [if_true, Bool.true_and]; rw [if_neg hn]
        rfl
     ·have ho : opB x.op := by
       rcases hx with h | h
       ·unfold lfO at h; omega
       ·exact h
      have hv : ndV z x.op x.val = decide (x.val = 0) := by
       unfold opB at ho; unfold ndV; rw [if_neg (by omega), if_neg (by omega), if_neg (by omega), if_neg (by omega), if_neg (by omega), if_neg (by omega), if_neg (by omega), if_neg (by omega)]
      rw [if_neg c1, if_neg c1, hv]
      by_cases c2 : x.val = 0
      ·rw [if_neg (by simpa using c2), decide_eq_true c2, Bool.true_and, ih', ih']
       by_cases c3 : x.op < 30
       ·rw [if_pos c3, if_pos c3]
        by_cases r : resF x.op (st.getD (st.length - 1) 0) 0 = 0
        ·rw [if_pos r, if_pos r]; simp
        ·rw [if_neg r, if_neg r]; rfl
       ·rw [if_neg c3, if_neg c3]
        by_cases r : resF x.op (st.getD (st.length - 2) 0) (st.getD (st.length - 1) 0) = 0
        ·rw [if_pos r, if_pos r]; simp
        ·rw [if_neg r, if_neg r]; rfl
      ·rw [if_pos c2, decide_eq_false c2]; simp
def trB (L : List Nd) : Bool := decide (L.length ≤ 256) && (decide (0 ≤ zCc L) && decide (zCc L ≤ 64))
def sxB (z : Sz) (L : List Nd) (typ : Int) : Bool := trB L && (L.all (ndB z) && (decide (stF [] L ≠ 0) && decide (stF [] L = typ)))
theorem htr (L : List Nd) (h : trB L = true) : ∃ H : Nat → Nat, 1 ≤ L.length ∧ L.length ≤ 256 ∧ zBu L ((L.length : Int) - 1) = 0 ∧ H 0 = 0 ∧ H L.length = 1 ∧ (∀ k, k ≤ L.length → H k ≤ k) ∧ ∀ k (hk : k < L.length),
  (lfO L[k].op ∧ H (k + 1) = H k + 1) ∨
  ((20 ≤ L[k].op ∧ L[k].op < 30) ∧ opB L[k].op ∧ 1 ≤ H k ∧ H (k + 1) = H k) ∨
  (30 ≤ L[k].op ∧ opB L[k].op ∧ 2 ≤ H k ∧ H (k + 1) + 1 = H k) := by
 unfold trB at h
 simp only [Bool.and_eq_true, decide_eq_true_eq] at h
 obtain ⟨h1, h2, h3⟩ := h
 have hs : zBu L ((L.length : Int) - 1) = 0 := by
  unfold zCc at h2
  by_cases q : zBu L ((L.length : Int) - 1) = 0
  ·exact q
  ·rw [if_neg q] at h2; omega
 have hs0 := hs
 unfold zBu at hs
 by_cases hp : 0 ≤ (L.length : Int) - 1 ∧ (L.length : Int) - 1 < L.length
 case neg => rw [if_neg hp] at hs; omega
 rw [if_pos hp, show ((L.length : Int) - 1).toNat + 1 = L.length by omega] at hs
 obtain ⟨e1, e2⟩ := zEn L L.length 1 (Nat.le_refl _) (by omega) hs
 have key : ∀ k (hk : k < L.length), (lfO L[k].op ∧ (zAp L (k + 1)).length = (zAp L k).length + 1) ∨
  ((20 ≤ L[k].op ∧ L[k].op < 30) ∧ opB L[k].op ∧ 1 ≤ (zAp L k).length ∧ (zAp L (k + 1)).length = (zAp L k).length) ∨
  (30 ≤ L[k].op ∧ opB L[k].op ∧ 2 ≤ (zAp L k).length ∧ (zAp L (k + 1)).length + 1 = (zAp L k).length) := by
  intro k hk; obtain ⟨a1, a2⟩ := e2 k hk hk; rw [zCe L k hk, zDe]; generalize (zAp L k).length = n at *; generalize L[k].op = op at *; unfold opB lfO; unfold arF at *
  by_cases c1 : 1 ≤ op ∧ op ≤ 10
  ·simp only [if_pos c1] at *
   left
   refine ⟨by omega, by simp⟩
  ·by_cases c2 : 20 ≤ op ∧ op ≤ 22
   ·simp only [if_neg c1, if_pos c2] at *
    right; left
    refine ⟨by omega, by omega, by omega, ?_⟩; have : (1 : Int).toNat = 1 := rfl; omega
   ·by_cases c3 : 30 ≤ op ∧ op ≤ 36 ∨ 40 ≤ op ∧ op ≤ 45 ∨ op = 50 ∨ op = 51
    ·simp only [if_neg c1, if_neg c2, if_pos c3] at *
     right; right
     refine ⟨by omega, by omega, by omega, ?_⟩; have : (2 : Int).toNat = 2 := rfl; omega
    ·simp only [if_neg c1, if_neg c2, if_neg c3] at *
     exact absurd rfl a1
 refine ⟨fun k => (zAp L k).length, by omega, h1, hs0, rfl, by show (zAp L L.length).length = 1; omega, ?_, key⟩
 intro k
 induction k with
 | zero => intro _; exact Nat.le_refl _
 | succ k ih =>
   intro hk; have i1 := ih (by omega); have i2 := key k (by omega); simp only at i1 ⊢; omega
theorem htr_ops {L : List Nd} (h : trB L = true) : ∀ x ∈ L, lfO x.op ∨ opB x.op := by
 obtain ⟨H, _, _, _, _, _, _, hk⟩ := htr L h
 intro x hx
 obtain ⟨i, hi, rfl⟩ := List.getElem_of_mem hx
 rcases hk i hi with h | h | h
 ·exact .inl h.1
 ·exact .inr h.2.1
 ·exact .inr h.2.1
theorem sx_ref (z : Sz) (L : List Nd) (typ : Int) (h : trB L = true) : sxB z L typ = (decide (tdF z [] L ≠ 0) && decide (tdF z [] L = typ)) := by
 unfold sxB
 rw [h, Bool.true_and, td_eq z L [] (htr_ops h)]
 cases L.all (ndB z) <;> simp
def ixB (z : Sz) (kind ix : Int) : Bool :=
 if kind = 1 then plB ix z.v
 else if kind = 2 ∨ kind = 3 ∨ kind = 4 then plB ix z.t
 else if kind = 5 ∨ kind = 10 then plB ix z.c
 else if kind = 6 then plB ix z.d
 else if kind = 7 ∨ kind = 8 ∨ kind = 9 then decide (ix = 0)
 else false
theorem zEr (op : Int) (w : World) :
  Calls Tryz.prog 118 #[.int .i64 op] w fun e w' => e = .returned (.int .i64 (if 30 ≤ op then 2 else if 20 ≤ op then 1 else 0)) ∧ w' = w := by
 by_cases h1 : 30 ≤ op
 ·rw [if_pos h1]
  go_enter Tryz.func118, Tryz.ntmps118
  go_wp2_with fail
  go_ret; exact ⟨rfl, rfl⟩
 ·rw [if_neg h1]
  by_cases h2 : 20 ≤ op
  ·rw [if_pos h2]
   go_enter Tryz.func118, Tryz.ntmps118
   go_wp2_with fail
   go_ret; exact ⟨rfl, rfl⟩
  ·rw [if_neg h2]
   go_enter Tryz.func118, Tryz.ntmps118
   go_wp2_with fail
   go_ret; exact ⟨rfl, rfl⟩
theorem bel1 {w : World} (o : Obj) : Below w.heap.size w (w.alloc o) := (Below.refl _ _).alloc (Nat.le_refl _) o
theorem nd_op (x : Nd) (h : fNd x = true) : ¬ (x.op = 7 ∨ x.op = 8 ∨ x.op = 9 ∨ x.op = 10) := by
 intro q
 unfold fNd at h
 rw [if_neg (by omega), if_neg (by omega), if_neg (by omega), if_pos q] at h
 cases h
theorem hts (L : List Nd) (h : fEx L = true) : ∃ H : Nat → Nat, L.length ≤ 256 ∧ H 0 = 0 ∧ H L.length = 1 ∧ (∀ k, k ≤ L.length → H k ≤ k) ∧ ∀ k (hk : k < L.length),
  ((L[k].op = 1 ∨ L[k].op = 2 ∨ L[k].op = 3 ∨ L[k].op = 4 ∨ L[k].op = 5 ∨ L[k].op = 6) ∧ H (k + 1) = H k + 1) ∨
  ((20 ≤ L[k].op ∧ L[k].op < 30) ∧ opB L[k].op ∧ 1 ≤ H k ∧ H (k + 1) = H k) ∨
  (30 ≤ L[k].op ∧ opB L[k].op ∧ 2 ≤ H k ∧ H (k + 1) + 1 = H k) := by
 unfold fEx at h
 simp only [Bool.and_eq_true, decide_eq_true_eq, List.all_eq_true] at h
 obtain ⟨h1, h2, h3, h4⟩ := h
 have hs : zBu L ((L.length : Int) - 1) = 0 := by
  unfold zCc at h2
  by_cases q : zBu L ((L.length : Int) - 1) = 0
  ·exact q
  ·rw [if_neg q] at h2; omega
 unfold zBu at hs
 by_cases hp : 0 ≤ (L.length : Int) - 1 ∧ (L.length : Int) - 1 < L.length
 case neg => rw [if_neg hp] at hs; omega
 rw [if_pos hp, show ((L.length : Int) - 1).toNat + 1 = L.length by omega] at hs
 obtain ⟨e1, e2⟩ := zEn L L.length 1 (Nat.le_refl _) (by omega) hs
 have key : ∀ k (hk : k < L.length), ((L[k].op = 1 ∨ L[k].op = 2 ∨ L[k].op = 3 ∨ L[k].op = 4 ∨ L[k].op = 5 ∨ L[k].op = 6) ∧ (zAp L (k + 1)).length = (zAp L k).length + 1) ∨
  ((20 ≤ L[k].op ∧ L[k].op < 30) ∧ opB L[k].op ∧ 1 ≤ (zAp L k).length ∧ (zAp L (k + 1)).length = (zAp L k).length) ∨
  (30 ≤ L[k].op ∧ opB L[k].op ∧ 2 ≤ (zAp L k).length ∧ (zAp L (k + 1)).length + 1 = (zAp L k).length) := by
  intro k hk; obtain ⟨a1, a2⟩ := e2 k hk hk; have a3 := nd_op _ (h4 _ (List.getElem_mem hk)); rw [zCe L k hk, zDe]; generalize (zAp L k).length = n at *; generalize L[k].op = op at *; unfold opB; unfold arF at *
  by_cases c1 : 1 ≤ op ∧ op ≤ 10
  ·simp only [if_pos c1] at *
   left
   refine ⟨by omega, by simp⟩
  ·by_cases c2 : 20 ≤ op ∧ op ≤ 22
   ·simp only [if_neg c1, if_pos c2] at *
    right; left
    refine ⟨by omega, by omega, by omega, ?_⟩; have : (1 : Int).toNat = 1 := rfl; omega
   ·by_cases c3 : 30 ≤ op ∧ op ≤ 36 ∨ 40 ≤ op ∧ op ≤ 45 ∨ op = 50 ∨ op = 51
    ·simp only [if_neg c1, if_neg c2, if_pos c3] at *
     right; right
     refine ⟨by omega, by omega, by omega, ?_⟩; have : (2 : Int).toNat = 2 := rfl; omega
    ·simp only [if_neg c1, if_neg c2, if_neg c3] at *
     exact absurd rfl a1
 refine ⟨fun k => (zAp L k).length, h1, rfl, by show (zAp L L.length).length = 1; omega, ?_, key⟩
 intro k
 induction k with
 | zero => intro _; exact Nat.le_refl _
 | succ k ih =>
   intro hk; have i1 := ih (by omega); have i2 := key k (by omega); simp only at i1 ⊢; omega
structure Fd where
 c : Int
 s : Int
 a : Int
 b : Int
def Fd.cs (x : Fd) : List Value := [.int .i64 x.c, .int .i64 x.s, .int .i64 x.a, .int .i64 x.b]
theorem fd_len (x : Fd) : x.cs.length = 4 := rfl
def addF (F : List Fd) (x : Fd) : List Fd := if F.length < 64 then F ++ [x] else F
def addL (F : List Fd) (L : List Fd) : List Fd := L.foldl addF F
theorem addF_le {F : List Fd} (x : Fd) (h : F.length ≤ 64) : (addF F x).length ≤ 64 := by
 unfold addF; split
 ·simp; omega
 ·exact h
theorem zAf (F : List Fd) : addL F [] = F := rfl
theorem zDm (F : List Fd) (x : Fd) (L : List Fd) : addL F (x :: L) = addL (addF F x) L := rfl
theorem zAj (F : List Fd) (x : Fd) : addL F [x] = addF F x := rfl
theorem zBh (F L M : List Fd) : addL F (L ++ M) = addL (addL F L) M := List.foldl_append
theorem addF_full {F : List Fd} (x : Fd) (h : 64 ≤ F.length) : addF F x = F := by unfold addF; rw [if_neg (by omega)]
theorem addL_full {F : List Fd} (h : 64 ≤ F.length) : ∀ L, addL F L = F
 | [] => rfl
 | x :: L => by rw [zDm, addF_full x h]; exact addL_full h L
theorem zFk : ∀ (L F : List Fd), F.length ≤ 64 → (addL F L).length ≤ 64
 | [], _, h => h
 | x :: L, F, h => by rw [zDm]; exact zFk L _ (addF_le x h)
theorem info70 : (Tryz.prog.info? 70).map (fun i => (i.zero, i.size, i.bytes)) = some (some (.agg #[.int .i64 0, .int .i64 0, .int .i64 0, .int .i64 0]), 4, 32) := by kernel_rfl
structure RP (w : World) (rb : Nat) (Z : Array Value) (fa : Option Addr) (fc : Nat) (F : List Fd) (W : World) : Prop where
 hb : Below w.heap.size w W
 box : Has W rb (Z.push (.slice fa F.length fc))
 own : W.ownsRow w.heap.size 70 4 (.slice fa F.length fc) F.length (zAc Fd.cs F)
 ge : w.heap.size ≤ rb
 ne : (Value.slice fa F.length fc).ownBlock ≠ some rb
 le : F.length ≤ 64
 zs : Z.size = 14
structure TellS (rb : Nat) (v v' : Value) (W W' : World) : Prop where
 only : Only (fun q => q = rb ∨ v.ownBlock = some q) W W'
 new : ∀ q, v'.ownBlock = some q → v.ownBlock = some q ∨ W.heap.size ≤ q
theorem RP.below {w W W' : World} {rb : Nat} {Z : Array Value} {fa : Option Addr} {fc : Nat} {F : List Fd} (h : RP w rb Z fa fc F W) (hb : Below W.heap.size W W') : RP w rb Z fa fc F W' :=
 ⟨zAa h.hb h.hb.size hb, h.box.below hb, zAe h.own hb, h.ge, h.ne, h.le, h.zs⟩
theorem TellS.refl (rb : Nat) (v : Value) {W W' : World} (hb : Below W.heap.size W W') : TellS rb v v W W' := ⟨Only.of_below hb, fun q h => .inl h⟩
theorem TellS.has {rb b : Nat} {v v' : Value} {W W' : World} {vs : Array Value} (h : TellS rb v v' W W') (q : Has W b vs) (h1 : b ≠ rb) (h2 : v.ownBlock ≠ some b) : Has W' b vs :=
 q.only h.only (by rintro (e | e); exact h1 e; exact h2 e)
theorem TellS.far {rb : Nat} {v v' : Value} {W W' : World} (h : TellS rb v v' W W') {P : Nat → Prop} (h1 : ∀ q, v.ownBlock = some q → P q) (h2 : ∀ q, W.heap.size ≤ q → P q) : ∀ q, v'.ownBlock = some q → P q :=
 fun q hq => (h.new q hq).elim (h1 q) (h2 q)
theorem RP.at14 {w W : World} {rb : Nat} {Z : Array Value} {fa : Option Addr} {fc : Nat} {F : List Fd} (h : RP w rb Z fa fc F W) : W.cell? ⟨rb, 14, none⟩ = some (.slice fa F.length fc) := by
 rw [h.box.2.1 14, ← h.zs, Array.getElem?_push_size]
theorem RP.atZ {w W : World} {rb : Nat} {Z : Array Value} {fa : Option Addr} {fc : Nat} {F : List Fd} (h : RP w rb Z fa fc F W) (i : Nat) (hi : i < 14) : W.cell? ⟨rb, i, none⟩ = Z[i]? := by
 rw [h.box.2.1 i, Array.getElem?_push_lt (by rw [h.zs]; exact hi), Array.getElem?_eq_getElem]
theorem zBp (w W : World) (rb : Nat) (Z : Array Value) (fa : Option Addr) (fc : Nat) (F : List Fd) (c s a b : Int) (h : RP w rb Z fa fc F W) :
  Calls Tryz.prog 63 #[.pointer (some ⟨rb, 0, none⟩), .int .i64 c, .int .i64 s, .int .i64 a, .int .i64 b] W fun e W' => e = .returned (.tuple #[]) ∧ ∃ fa' fc', RP w rb Z fa' fc' (addF F ⟨c, s, a, b⟩) W' ∧ TellS rb (.slice fa F.length fc) (.slice fa' (addF F ⟨c, s, a, b⟩).length fc') W W' := by
 obtain ⟨ti, hi, hi0, hi1, hi2⟩ := info_parts info70
 have c14 := h.at14
 have f14 := h.box.2.2 14
 have l14 : rb < W.heap.size := h.box.1
 have hle := h.le
 have hne := h.ne
 have hzs := h.zs
 have hge := h.ge
 have hz := h.hb.size
 by_cases hl : F.length < 64
 ·have t1 : (F.length : Int) < 64 := by omega
  have eF : addF F ⟨c, s, a, b⟩ = F ++ [⟨c, s, a, b⟩] := by unfold addF; rw [if_pos hl]
  rw [eF]; have hb1 : Below W.heap.size W (W.alloc (.cells #[.int .i64 c, .int .i64 s, .int .i64 a, .int .i64 b] 70)) := bel1 _; have h1 := h.below hb1; go_enter Tryz.func63, Tryz.ntmps63
  go_wp2_with (at_builtin; (refine zAd _ rfl _ _ 33 rfl w.heap.size 70 ti _ 4 32 Tryz.underlying33 hi hi0 hi1 hi2 rfl (by decide) (.slice fa F.length fc) F.length (zAc Fd.cs F) rfl h1.own ⟨W.heap.size, 0, none⟩ 1 1 [.int .i64 c, .int .i64 s, .int .i64 a, .int .i64 b] rfl rfl (zBa (W := W) rfl _ _) (zAz rfl) (by decide) (by unfold maxLen; omega) (by omega) (Nat.le_trans hz hb1.size) ?_); intro g7 k7 w7 o7 gr7 at7 _ hc7; have n7 : some rb ≠ (Value.slice fa F.length fc).ownBlock := fun e => hne e.symm; have B7 : Has w7 rb _ := h1.box.blk gr7.size (gr7.block _ h1.box.1 n7); have c7 : w7.cell? ⟨rb, 14, none⟩ = some (.slice fa F.length fc) := (by rw [B7.2.1 14, ← hzs, Array.getElem?_push_size]); have f7 := B7.2.2 14; have l7 := B7.1)
  have h7 : Below w.heap.size w w7 := zAn h1.hb gr7 (Nat.le_refl _) (fun q hq => (zAg h1.own q hq).1); have B8 := B7.set 14 (by simp [hzs]) (.slice (some ⟨g7, 0, none⟩) (F.length + 1) k7); have hg7 : g7 ≠ rb := by
   rcases at7 with e | e
   ·intro e2; subst e2; exact n7 e.symm
   ·have := h1.box.1; omega
  go_end0
  refine ⟨rfl, some ⟨g7, 0, none⟩, k7, ⟨?_, ?_, ?_, hge, ?_, ?_, hzs⟩, ⟨?_, ?_⟩⟩
  ·exact h7.setCell (p := ⟨rb, 14, none⟩) hge _
  ·have e : (F ++ [(⟨c, s, a, b⟩ : Fd)]).length = F.length + 1 := by simp
   rw [e]; have e2 : (Z.push (.slice fa F.length fc)).setIfInBounds 14 (.slice (some ⟨g7, 0, none⟩) (F.length + 1) k7) = Z.push (.slice (some ⟨g7, 0, none⟩) (F.length + 1) k7) := by
    apply Array.ext_getElem?
    intro i; rw [Array.getElem?_setIfInBounds, ← hzs]
    by_cases hi : i < Z.size
    ·rw [if_neg (by omega), Array.getElem?_push_lt hi, Array.getElem?_push_lt hi]
    ·by_cases h2 : i = Z.size
     ·subst h2; simp
     ·rw [if_neg (by omega), Array.getElem?_eq_none (by simp; omega), Array.getElem?_eq_none (by simp; omega)]
   rw [e2] at B8; exact B8
  ·have e : (F ++ [(⟨c, s, a, b⟩ : Fd)]).length = F.length + 1 := by simp
   rw [e, show zAc Fd.cs (F ++ [⟨c, s, a, b⟩]) = zAc Fd.cs F ++ [.int .i64 c, .int .i64 s, .int .i64 a, .int .i64 b] from by rw [zBe]; simp [zAc, Fd.cs]]; refine ⟨o7.1, ?_⟩; rcases o7.2 with h0 | ⟨g, cap, cur, q1, q2, q3, q4⟩
   ·exact .inl h0
   ·refine .inr ⟨g, cap, cur, q1, q2, ?_, q4⟩
    have e3 : g = g7 := by injection q1 with q _ _; injection q with q; injection q with q; exact q.symm
    rw [Below.heap_setCell _ _ _ _ (by rw [e3]; exact hg7)]; exact q3
  ·intro e; injection e with e; exact hg7 e
  ·simp; omega
  ·refine (Only.of_below (S := _) hb1).trans ⟨gr7.os, gr7.tape, gr7.output, by simpa [World.setCell] using gr7.size, fun q hq hn => ?_⟩
   rw [Below.heap_setCell _ _ _ _ (fun e => hn (.inl e))]; exact gr7.block q hq (fun e => hn (.inr e.symm))
  ·intro q hq
   have e : g7 = q := by injection hq
   subst e; rcases at7 with e | e
   ·exact .inl e
   ·exact .inr (Nat.le_trans hb1.size e)
 ·have t1 : ¬ (F.length : Int) < 64 := by omega
  rw [addF_full _ (by omega)]; go_enter Tryz.func63, Tryz.ntmps63
  go_wp2_with fail
  go_end0
  exact ⟨rfl, fa, fc, h, TellS.refl _ _ (Below.refl _ _)⟩
end Go.Proofs.YtjfieclmagbfbaaGreatDoor
