import Derived.Test.YtnicolaphmffkaaGreatDoorMaA
import Derived.Test.YtnicolaphmffkaaGreatDoorLxC
namespace Go.Proofs.YtnicolaphmffkaaGreatDoor
open Go.RowKit
set_option linter.unusedVariables false
set_option linter.unusedSimpArgs false

/-- A name that can be looked at. -/
def Sm (s : ByteArray) : Prop := s.size < 4611686018427387904
def nmB (s : ByteArray) : Bool := kindL s.data.toList == 1
def emB (s : ByteArray) : Bool := s.toList.isEmpty
def fNd (x : Nd) : Bool :=
  if x.op = 1 then decide (0 ≤ x.val) && emB x.name
  else if x.op = 2 then (decide (x.val = 0) || decide (x.val = 1)) && emB x.name
  else if x.op = 3 ∨ x.op = 5 ∨ x.op = 6 then decide (x.val = 0) && nmB x.name
  else if x.op = 7 ∨ x.op = 8 ∨ x.op = 9 ∨ x.op = 10 then false
  else decide (x.val = 0) && emB x.name
def fEx (L : List Nd) : Bool := decide (L.length ≤ 256) && (decide (0 ≤ nestF L) && (decide (nestF L ≤ 64) && L.all fNd))
/-- The three tables of words stand. -/
structure Tb (w : World) : Prop where
  wt : Wt w
  kt : Kt w
  st : SgT w
theorem Tb.lo {w : World} (h : Tb w) : 2 < w.heap.size := h.wt.1
theorem Tb.below {w w' : World} (h : Tb w) (hb : Below w.heap.size w w') : Tb w' := ⟨h.wt.below hb h.wt.1, h.kt.below hb h.kt.1, h.st.below hb h.st.1⟩
theorem Tb.alloc {w : World} (h : Tb w) (o : Obj) : Tb (w.alloc o) := h.below ((Below.refl _ _).alloc (Nat.le_refl _) o)
end Go.Proofs.YtnicolaphmffkaaGreatDoor
namespace Go.Proofs.YtnicolaphmffkaaGreatDoor
open Go.RowKit
set_option linter.unusedVariables false
set_option linter.unusedSimpArgs false

/-- A symbol. -/
structure Sy where
  name : ByteArray
  kind : Int
  ix : Int
  line : Int
  col : Int
theorem tl_inj {a b : ByteArray} (h : a.toList = b.toList) : a = b := by
  rw [Lib.toList_data, Lib.toList_data] at h
  cases a; cases b
  simp only [ByteArray.mk.injEq]
  exact Array.toList_inj.1 h
def resF (op a b : Int) : Int :=
  if op = 20 ∨ op = 22 then (if a = 1 then 1 else 0)
  else if op = 21 then (if a = 2 then 2 else 0)
  else if 30 ≤ op ∧ op ≤ 36 then (if a = 1 ∧ b = 1 then 1 else 0)
  else if op = 40 ∨ op = 41 then (if a = b then 2 else 0)
  else if 42 ≤ op ∧ op ≤ 45 then (if a = 1 ∧ b = 1 then 2 else 0)
  else if op = 50 ∨ op = 51 then (if a = 2 ∧ b = 2 then 2 else 0)
  else 0
/-- What the reference keeps of each symbol, as it is read: name and kind, and that it may be seen. -/
def Ens (w : World) (v : Value) (S : List Sy) : Prop :=
  ∃ a cap, v = .slice a S.length cap ∧ (S = [] ∨ ∃ g o, a = some ⟨g, o, none⟩ ∧ g < w.heap.size ∧ ∀ (i : Nat) (h : i < S.length),
    w.cell? ⟨g, o + i * 8, none⟩ = some (.string S[i].name) ∧ w.cell? ⟨g, o + i * 8 + 1, none⟩ = some (.int .i64 S[i].kind) ∧ w.cell? ⟨g, o + i * 8 + 5, none⟩ = some (.int .i64 (-1)))
theorem Ens.below {w w' : World} {v : Value} {S : List Sy} (h : Ens w v S) (hb : Below w.heap.size w w') : Ens w' v S := by
  obtain ⟨a, cap, rfl, h | ⟨g, o, rfl, hg, hc⟩⟩ := h
  · exact ⟨a, cap, rfl, .inl h⟩
  · refine ⟨_, cap, rfl, .inr ⟨g, o, rfl, Nat.lt_of_lt_of_le hg hb.size, fun i hi => ?_⟩⟩
    obtain ⟨h0, h1, h2⟩ := hc i hi
    exact ⟨(hb.cell (p := ⟨g, _, none⟩) hg).trans h0, (hb.cell (p := ⟨g, _, none⟩) hg).trans h1, (hb.cell (p := ⟨g, _, none⟩) hg).trans h2⟩
end Go.Proofs.YtnicolaphmffkaaGreatDoor
namespace Go.Proofs.YtnicolaphmffkaaGreatDoor
open Go.RowKit
set_option linter.unusedVariables false
set_option linter.unusedSimpArgs false
set_option maxRecDepth 100000 in
set_option maxHeartbeats 4000000 in
theorem res20 (a b : Int) (w : World) :
    Calls Tryz.prog 83 #[.int .i64 20, .int .i64 a, .int .i64 b] w fun e w' => e = .returned (.int .i64 (if a = 1 then 1 else 0)) ∧ w' = w := by
  by_cases h : a = 1
  · subst h
    rw [if_pos rfl]
    go_enter Tryz.func83, Tryz.ntmps83
    go_wp2_with fail
    go_ret
    exact ⟨rfl, rfl⟩
  · rw [if_neg h]
    have n : (a == 1) = false := by simpa using h
    go_enter Tryz.func83, Tryz.ntmps83
    go_wp2_with fail
    go_ret
    exact ⟨rfl, rfl⟩
set_option maxRecDepth 100000 in
set_option maxHeartbeats 4000000 in
theorem res22 (a b : Int) (w : World) :
    Calls Tryz.prog 83 #[.int .i64 22, .int .i64 a, .int .i64 b] w fun e w' => e = .returned (.int .i64 (if a = 1 then 1 else 0)) ∧ w' = w := by
  by_cases h : a = 1
  · subst h
    rw [if_pos rfl]
    go_enter Tryz.func83, Tryz.ntmps83
    go_wp2_with fail
    go_ret
    exact ⟨rfl, rfl⟩
  · rw [if_neg h]
    have n : (a == 1) = false := by simpa using h
    go_enter Tryz.func83, Tryz.ntmps83
    go_wp2_with fail
    go_ret
    exact ⟨rfl, rfl⟩
set_option maxRecDepth 100000 in
set_option maxHeartbeats 4000000 in
theorem res21 (a b : Int) (w : World) :
    Calls Tryz.prog 83 #[.int .i64 21, .int .i64 a, .int .i64 b] w fun e w' => e = .returned (.int .i64 (if a = 2 then 2 else 0)) ∧ w' = w := by
  by_cases h : a = 2
  · subst h
    rw [if_pos rfl]
    go_enter Tryz.func83, Tryz.ntmps83
    go_wp2_with fail
    go_ret
    exact ⟨rfl, rfl⟩
  · rw [if_neg h]
    have n : (a == 2) = false := by simpa using h
    go_enter Tryz.func83, Tryz.ntmps83
    go_wp2_with fail
    go_ret
    exact ⟨rfl, rfl⟩
set_option maxRecDepth 100000 in
set_option maxHeartbeats 4000000 in
theorem res30 (op : Int) (g1 : 30 ≤ op) (g2 : op ≤ 36) (a b : Int) (w : World) :
    Calls Tryz.prog 83 #[.int .i64 op, .int .i64 a, .int .i64 b] w fun e w' => e = .returned (.int .i64 (if a = 1 ∧ b = 1 then 1 else 0)) ∧ w' = w := by
  have n20 : (op == 20) = false := by simp; omega
  have n22 : (op == 22) = false := by simp; omega
  have n21 : (op == 21) = false := by simp; omega
  by_cases h : a = 1
  · subst h
    by_cases g : b = 1
    · subst g
      rw [if_pos ⟨rfl, rfl⟩]
      go_enter Tryz.func83, Tryz.ntmps83
      go_wp2_with fail
      go_ret
      exact ⟨rfl, rfl⟩
    · rw [if_neg (fun q => g q.2)]
      have n : (b == 1) = false := by simpa using g
      go_enter Tryz.func83, Tryz.ntmps83
      go_wp2_with fail
      go_ret
      exact ⟨rfl, rfl⟩
  · rw [if_neg (fun q => h q.1)]
    have n : (a == 1) = false := by simpa using h
    go_enter Tryz.func83, Tryz.ntmps83
    go_wp2_with fail
    go_ret
    exact ⟨rfl, rfl⟩
set_option maxRecDepth 100000 in
set_option maxHeartbeats 4000000 in
theorem res40 (a b : Int) (w : World) :
    Calls Tryz.prog 83 #[.int .i64 40, .int .i64 a, .int .i64 b] w fun e w' => e = .returned (.int .i64 (if a = b then 2 else 0)) ∧ w' = w := by
  by_cases h : a = b
  · subst h
    rw [if_pos rfl]
    go_enter Tryz.func83, Tryz.ntmps83
    go_wp2_with fail
    go_ret
    exact ⟨rfl, rfl⟩
  · rw [if_neg h]
    have n : (a == b) = false := by simpa using h
    go_enter Tryz.func83, Tryz.ntmps83
    go_wp2_with fail
    go_ret
    exact ⟨rfl, rfl⟩
set_option maxRecDepth 100000 in
set_option maxHeartbeats 4000000 in
theorem res41 (a b : Int) (w : World) :
    Calls Tryz.prog 83 #[.int .i64 41, .int .i64 a, .int .i64 b] w fun e w' => e = .returned (.int .i64 (if a = b then 2 else 0)) ∧ w' = w := by
  by_cases h : a = b
  · subst h
    rw [if_pos rfl]
    go_enter Tryz.func83, Tryz.ntmps83
    go_wp2_with fail
    go_ret
    exact ⟨rfl, rfl⟩
  · rw [if_neg h]
    have n : (a == b) = false := by simpa using h
    go_enter Tryz.func83, Tryz.ntmps83
    go_wp2_with fail
    go_ret
    exact ⟨rfl, rfl⟩
set_option maxRecDepth 100000 in
set_option maxHeartbeats 4000000 in
theorem res42 (op : Int) (g1 : 42 ≤ op) (g2 : op ≤ 45) (a b : Int) (w : World) :
    Calls Tryz.prog 83 #[.int .i64 op, .int .i64 a, .int .i64 b] w fun e w' => e = .returned (.int .i64 (if a = 1 ∧ b = 1 then 2 else 0)) ∧ w' = w := by
  have n20 : (op == 20) = false := by simp; omega
  have n22 : (op == 22) = false := by simp; omega
  have n21 : (op == 21) = false := by simp; omega
  have n40 : (op == 40) = false := by simp; omega
  have n41 : (op == 41) = false := by simp; omega
  have g3 : ¬ op ≤ 36 := by omega
  have g4 : 30 ≤ op := by omega
  by_cases h : a = 1
  · subst h
    by_cases g : b = 1
    · subst g
      rw [if_pos ⟨rfl, rfl⟩]
      go_enter Tryz.func83, Tryz.ntmps83
      go_wp2_with fail
      go_ret
      exact ⟨rfl, rfl⟩
    · rw [if_neg (fun q => g q.2)]
      have n : (b == 1) = false := by simpa using g
      go_enter Tryz.func83, Tryz.ntmps83
      go_wp2_with fail
      go_ret
      exact ⟨rfl, rfl⟩
  · rw [if_neg (fun q => h q.1)]
    have n : (a == 1) = false := by simpa using h
    go_enter Tryz.func83, Tryz.ntmps83
    go_wp2_with fail
    go_ret
    exact ⟨rfl, rfl⟩
set_option maxRecDepth 100000 in
set_option maxHeartbeats 4000000 in
theorem res50 (a b : Int) (w : World) :
    Calls Tryz.prog 83 #[.int .i64 50, .int .i64 a, .int .i64 b] w fun e w' => e = .returned (.int .i64 (if a = 2 ∧ b = 2 then 2 else 0)) ∧ w' = w := by
  by_cases h : a = 2
  · subst h
    by_cases g : b = 2
    · subst g
      rw [if_pos ⟨rfl, rfl⟩]
      go_enter Tryz.func83, Tryz.ntmps83
      go_wp2_with fail
      go_ret
      exact ⟨rfl, rfl⟩
    · rw [if_neg (fun q => g q.2)]
      have n : (b == 2) = false := by simpa using g
      go_enter Tryz.func83, Tryz.ntmps83
      go_wp2_with fail
      go_ret
      exact ⟨rfl, rfl⟩
  · rw [if_neg (fun q => h q.1)]
    have n : (a == 2) = false := by simpa using h
    go_enter Tryz.func83, Tryz.ntmps83
    go_wp2_with fail
    go_ret
    exact ⟨rfl, rfl⟩
set_option maxRecDepth 100000 in
set_option maxHeartbeats 4000000 in
theorem res51 (a b : Int) (w : World) :
    Calls Tryz.prog 83 #[.int .i64 51, .int .i64 a, .int .i64 b] w fun e w' => e = .returned (.int .i64 (if a = 2 ∧ b = 2 then 2 else 0)) ∧ w' = w := by
  by_cases h : a = 2
  · subst h
    by_cases g : b = 2
    · subst g
      rw [if_pos ⟨rfl, rfl⟩]
      go_enter Tryz.func83, Tryz.ntmps83
      go_wp2_with fail
      go_ret
      exact ⟨rfl, rfl⟩
    · rw [if_neg (fun q => g q.2)]
      have n : (b == 2) = false := by simpa using g
      go_enter Tryz.func83, Tryz.ntmps83
      go_wp2_with fail
      go_ret
      exact ⟨rfl, rfl⟩
  · rw [if_neg (fun q => h q.1)]
    have n : (a == 2) = false := by simpa using h
    go_enter Tryz.func83, Tryz.ntmps83
    go_wp2_with fail
    go_ret
    exact ⟨rfl, rfl⟩
/-- An operator that there is. -/
def opB (op : Int) : Prop := (op = 20 ∨ op = 21 ∨ op = 22) ∨ (30 ≤ op ∧ op ≤ 36) ∨ (op = 40 ∨ op = 41) ∨ (42 ≤ op ∧ op ≤ 45) ∨ (op = 50 ∨ op = 51)
theorem result_any (op a b : Int) (w : World) (h : opB op) :
    Calls Tryz.prog 83 #[.int .i64 op, .int .i64 a, .int .i64 b] w fun e w' => e = .returned (.int .i64 (resF op a b)) ∧ w' = w := by
  rcases h with (rfl | rfl | rfl) | ⟨g1, g2⟩ | (rfl | rfl) | ⟨g1, g2⟩ | (rfl | rfl)
  · exact res20 a b w
  · exact res21 a b w
  · exact res22 a b w
  · rw [show resF op a b = if a = 1 ∧ b = 1 then 1 else 0 from by unfold resF; rw [if_neg (by omega), if_neg (by omega), if_pos ⟨g1, g2⟩]]
    exact res30 op g1 g2 a b w
  · exact res40 a b w
  · exact res41 a b w
  · rw [show resF op a b = if a = 1 ∧ b = 1 then 2 else 0 from by unfold resF; rw [if_neg (by omega), if_neg (by omega), if_neg (by omega), if_neg (by omega), if_pos ⟨g1, g2⟩]]
    exact res42 op g1 g2 a b w
  · exact res50 a b w
  · exact res51 a b w
end Go.Proofs.YtnicolaphmffkaaGreatDoor
namespace Go.Proofs.YtnicolaphmffkaaGreatDoor
open Go.RowKit
set_option linter.unusedVariables false
set_option linter.unusedSimpArgs false

/-- How many things there are. -/
structure Sz where
  g : Nat
  d : Nat
  t : Nat
  c : Nat
  v : Nat
def plB (i : Int) (n : Nat) : Bool := decide (0 ≤ i) && decide (i < (n : Int))
/-- No name and no place. -/
def blB (s : ByteArray) (l c : Int) : Bool := emB s && (decide (l = 0) && decide (c = 0))
/-- What a node says beside that. -/
def ndV (z : Sz) (op val : Int) : Bool :=
  if op = 3 then false
  else if op = 1 then true
  else if op = 2 then decide (val = 0) || decide (val = 1)
  else if op = 5 ∨ op = 6 then plB val z.g
  else if op = 7 then plB val z.v
  else if op = 8 then plB val z.t
  else if op = 9 then plB val z.c
  else if op = 10 then plB val z.d
  else decide (val = 0)
def ndB (z : Sz) (x : Nd) : Bool := blB x.name x.line x.col && ndV z x.op x.val
/-- The type of a leaf without a name. -/
def lfT (op : Int) : Int := if op = 3 then 0 else if op = 1 ∨ op = 4 ∨ op = 7 ∨ op = 8 ∨ op = 9 then 1 else 2
/-- The type of a tree, the types that wait in hand; 0: there is none. -/
def stF : List Int → List Nd → Int
  | st, [] => st.getD 0 0
  | st, x :: L =>
    if x.op < 20 then stF (st ++ [lfT x.op]) L
    else if x.op < 30 then (if resF x.op (st.getD (st.length - 1) 0) 0 = 0 then 0 else stF (st.take (st.length - 1) ++ [resF x.op (st.getD (st.length - 1) 0) 0]) L)
    else (if resF x.op (st.getD (st.length - 2) 0) (st.getD (st.length - 1) 0) = 0 then 0 else stF (st.take (st.length - 2) ++ [resF x.op (st.getD (st.length - 2) 0) (st.getD (st.length - 1) 0)]) L)
theorem st_end (st : List Int) (L : List Nd) (k : Nat) (h : L.length ≤ k) : stF st (L.drop k) = st.getD 0 0 := by
  rw [List.drop_eq_nil_of_le h]; unfold stF; rfl
theorem st_leaf (st : List Int) (L : List Nd) (k : Nat) (h : k < L.length) (ho : L[k].op < 20) : stF st (L.drop k) = stF (st ++ [lfT L[k].op]) (L.drop (k + 1)) := by
  rw [List.drop_eq_getElem_cons h]
  conv => lhs; unfold stF
  rw [if_pos ho]
theorem st_one (st : List Int) (L : List Nd) (k : Nat) (h : k < L.length) (h1 : 20 ≤ L[k].op) (h2 : L[k].op < 30) : stF st (L.drop k) = if resF L[k].op (st.getD (st.length - 1) 0) 0 = 0 then 0 else stF (st.take (st.length - 1) ++ [resF L[k].op (st.getD (st.length - 1) 0) 0]) (L.drop (k + 1)) := by
  rw [List.drop_eq_getElem_cons h]
  conv => lhs; unfold stF
  rw [if_neg (by omega), if_pos h2]
theorem st_two (st : List Int) (L : List Nd) (k : Nat) (h : k < L.length) (h1 : 30 ≤ L[k].op) : stF st (L.drop k) = if resF L[k].op (st.getD (st.length - 2) 0) (st.getD (st.length - 1) 0) = 0 then 0 else stF (st.take (st.length - 2) ++ [resF L[k].op (st.getD (st.length - 2) 0) (st.getD (st.length - 1) 0)]) (L.drop (k + 1)) := by
  rw [List.drop_eq_getElem_cons h]
  conv => lhs; unfold stF
  rw [if_neg (by omega), if_neg (by omega)]
/-- A leaf as the reference sees it. -/
def lvZ (z : Sz) (op val : Int) : Int :=
  if op = 1 then 1
  else if op = 2 then (if val = 0 ∨ val = 1 then 2 else 0)
  else if op = 4 then (if val = 0 then 1 else 0)
  else if op = 7 then (if plB val z.v = true then 1 else 0)
  else if op = 8 then (if plB val z.t = true then 1 else 0)
  else if op = 9 then (if plB val z.c = true then 1 else 0)
  else if op = 5 ∨ op = 6 then (if plB val z.g = true then 2 else 0)
  else if op = 10 then (if plB val z.d = true then 2 else 0)
  else 0
def lfO (op : Int) : Prop := op = 1 ∨ op = 2 ∨ op = 3 ∨ op = 4 ∨ op = 5 ∨ op = 6 ∨ op = 7 ∨ op = 8 ∨ op = 9 ∨ op = 10
theorem lv_eq (z : Sz) (op val : Int) (h : lfO op) : lvZ z op val = if ndV z op val = true then lfT op else 0 := by
  unfold lfO at h
  rcases h with rfl | rfl | rfl | rfl | rfl | rfl | rfl | rfl | rfl | rfl
  all_goals
    unfold lvZ ndV lfT
    simp
/-- The reference's walk. -/
def tdF (z : Sz) : List Int → List Nd → Int
  | st, [] => st.getD 0 0
  | st, x :: L =>
    if blB x.name x.line x.col = false then 0
    else if x.op < 20 then (if lvZ z x.op x.val = 0 then 0 else tdF z (st ++ [lvZ z x.op x.val]) L)
    else if x.val ≠ 0 then 0
    else if x.op < 30 then (if resF x.op (st.getD (st.length - 1) 0) 0 = 0 then 0 else tdF z (st.take (st.length - 1) ++ [resF x.op (st.getD (st.length - 1) 0) 0]) L)
    else (if resF x.op (st.getD (st.length - 2) 0) (st.getD (st.length - 1) 0) = 0 then 0 else tdF z (st.take (st.length - 2) ++ [resF x.op (st.getD (st.length - 2) 0) (st.getD (st.length - 1) 0)]) L)
theorem td_eq (z : Sz) : ∀ (L : List Nd) (st : List Int), (∀ x ∈ L, lfO x.op ∨ opB x.op) → tdF z st L = if L.all (ndB z) = true then stF st L else 0 := by
  intro L
  induction L with
  | nil => intro st _; unfold tdF stF; simp
  | cons x L ih =>
    intro st h
    have hx := h x (List.mem_cons_self)
    have ih' := fun st => ih st (fun y hy => h y (List.mem_cons_of_mem _ hy))
    unfold tdF stF
    rw [List.all_cons]
    unfold ndB
    cases hb : blB x.name x.line x.col with
    | false => simp
    | true =>
      simp only [Bool.true_and, Bool.true_eq_false, if_false]
      by_cases c1 : x.op < 20
      · have hl : lfO x.op := by
          rcases hx with h | h
          · exact h
          · unfold opB at h; omega
        rw [if_pos c1, if_pos c1, lv_eq z _ _ hl, ih']
        cases hv : ndV z x.op x.val with
        | false => simp
        | true =>
          have hn : ¬ lfT x.op = 0 := by
            unfold lfT
            by_cases c3 : x.op = 3
            · rw [c3] at hv; simp [ndV] at hv
            · rw [if_neg c3]; by_cases q : x.op = 1 ∨ x.op = 4 ∨ x.op = 7 ∨ x.op = 8 ∨ x.op = 9 <;> simp [q]
          simp only [if_true, Bool.true_and]
          rw [if_neg hn]
          rfl
      · have ho : opB x.op := by
          rcases hx with h | h
          · unfold lfO at h; omega
          · exact h
        have hv : ndV z x.op x.val = decide (x.val = 0) := by
          unfold opB at ho
          unfold ndV
          rw [if_neg (by omega), if_neg (by omega), if_neg (by omega), if_neg (by omega), if_neg (by omega), if_neg (by omega), if_neg (by omega), if_neg (by omega)]
        rw [if_neg c1, if_neg c1, hv]
        by_cases c2 : x.val = 0
        · rw [if_neg (by simpa using c2), decide_eq_true c2, Bool.true_and, ih', ih']
          by_cases c3 : x.op < 30
          · rw [if_pos c3, if_pos c3]
            by_cases r : resF x.op (st.getD (st.length - 1) 0) 0 = 0
            · rw [if_pos r, if_pos r]; simp
            · rw [if_neg r, if_neg r]; rfl
          · rw [if_neg c3, if_neg c3]
            by_cases r : resF x.op (st.getD (st.length - 2) 0) (st.getD (st.length - 1) 0) = 0
            · rw [if_pos r, if_pos r]; simp
            · rw [if_neg r, if_neg r]; rfl
        · rw [if_pos c2, decide_eq_false c2]; simp
/-- A list that is one tree, not too long and not too deep. -/
def trB (L : List Nd) : Bool := decide (L.length ≤ 256) && (decide (0 ≤ nestF L) && decide (nestF L ≤ 64))
/-- A sound expression. -/
def sxB (z : Sz) (L : List Nd) (typ : Int) : Bool := trB L && (L.all (ndB z) && (decide (stF [] L ≠ 0) && decide (stF [] L = typ)))
/-- How many types wait ahead of each node of a tree. -/
theorem htr (L : List Nd) (h : trB L = true) : ∃ H : Nat → Nat, 1 ≤ L.length ∧ L.length ≤ 256 ∧ spanF L ((L.length : Int) - 1) = 0 ∧ H 0 = 0 ∧ H L.length = 1 ∧ (∀ k, k ≤ L.length → H k ≤ k) ∧ ∀ k (hk : k < L.length),
    (lfO L[k].op ∧ H (k + 1) = H k + 1) ∨
    ((20 ≤ L[k].op ∧ L[k].op < 30) ∧ opB L[k].op ∧ 1 ≤ H k ∧ H (k + 1) = H k) ∨
    (30 ≤ L[k].op ∧ opB L[k].op ∧ 2 ≤ H k ∧ H (k + 1) + 1 = H k) := by
  unfold trB at h
  simp only [Bool.and_eq_true, decide_eq_true_eq] at h
  obtain ⟨h1, h2, h3⟩ := h
  have hs : spanF L ((L.length : Int) - 1) = 0 := by
    unfold nestF at h2
    by_cases q : spanF L ((L.length : Int) - 1) = 0
    · exact q
    · rw [if_neg q] at h2; omega
  have hs0 := hs
  unfold spanF at hs
  by_cases hp : 0 ≤ (L.length : Int) - 1 ∧ (L.length : Int) - 1 < L.length
  case neg => rw [if_neg hp] at hs; omega
  rw [if_pos hp, show ((L.length : Int) - 1).toNat + 1 = L.length by omega] at hs
  obtain ⟨e1, e2⟩ := span_high L L.length 1 (Nat.le_refl _) (by omega) hs
  have key : ∀ k (hk : k < L.length), (lfO L[k].op ∧ (runSt L (k + 1)).length = (runSt L k).length + 1) ∨
    ((20 ≤ L[k].op ∧ L[k].op < 30) ∧ opB L[k].op ∧ 1 ≤ (runSt L k).length ∧ (runSt L (k + 1)).length = (runSt L k).length) ∨
    (30 ≤ L[k].op ∧ opB L[k].op ∧ 2 ≤ (runSt L k).length ∧ (runSt L (k + 1)).length + 1 = (runSt L k).length) := by
    intro k hk
    obtain ⟨a1, a2⟩ := e2 k hk hk
    rw [runSt_succ L k hk, stepSt_len]
    generalize (runSt L k).length = n at *
    generalize L[k].op = op at *
    unfold opB lfO
    unfold arF at *
    by_cases c1 : 1 ≤ op ∧ op ≤ 10
    · simp only [if_pos c1] at *
      left
      refine ⟨by omega, by simp⟩
    · by_cases c2 : 20 ≤ op ∧ op ≤ 22
      · simp only [if_neg c1, if_pos c2] at *
        right; left
        refine ⟨by omega, by omega, by omega, ?_⟩
        have : (1 : Int).toNat = 1 := rfl
        omega
      · by_cases c3 : 30 ≤ op ∧ op ≤ 36 ∨ 40 ≤ op ∧ op ≤ 45 ∨ op = 50 ∨ op = 51
        · simp only [if_neg c1, if_neg c2, if_pos c3] at *
          right; right
          refine ⟨by omega, by omega, by omega, ?_⟩
          have : (2 : Int).toNat = 2 := rfl
          omega
        · simp only [if_neg c1, if_neg c2, if_neg c3] at *
          exact absurd rfl a1
  refine ⟨fun k => (runSt L k).length, by omega, h1, hs0, rfl, by show (runSt L L.length).length = 1; omega, ?_, key⟩
  intro k
  induction k with
  | zero => intro _; exact Nat.le_refl _
  | succ k ih =>
    intro hk
    have i1 := ih (by omega)
    have i2 := key k (by omega)
    simp only at i1 ⊢
    omega
theorem htr_ops {L : List Nd} (h : trB L = true) : ∀ x ∈ L, lfO x.op ∨ opB x.op := by
  obtain ⟨H, _, _, _, _, _, _, hk⟩ := htr L h
  intro x hx
  obtain ⟨i, hi, rfl⟩ := List.getElem_of_mem hx
  rcases hk i hi with h | h | h
  · exact .inl h.1
  · exact .inr h.2.1
  · exact .inr h.2.1
/-- The reference's way to say it. -/
theorem sx_ref (z : Sz) (L : List Nd) (typ : Int) (h : trB L = true) : sxB z L typ = (decide (tdF z [] L ≠ 0) && decide (tdF z [] L = typ)) := by
  unfold sxB
  rw [h, Bool.true_and, td_eq z L [] (htr_ops h)]
  cases L.all (ndB z) <;> simp
/-- A statement by itself. -/
def ixB (z : Sz) (kind ix : Int) : Bool :=
  if kind = 1 then plB ix z.v
  else if kind = 2 ∨ kind = 3 ∨ kind = 4 then plB ix z.t
  else if kind = 5 ∨ kind = 10 then plB ix z.c
  else if kind = 6 then plB ix z.d
  else if kind = 7 ∨ kind = 8 ∨ kind = 9 then decide (ix = 0)
  else false
end Go.Proofs.YtnicolaphmffkaaGreatDoor
namespace Go.Proofs.YtnicolaphmffkaaGreatDoor
open Go.RowKit
set_option linter.unusedVariables false
set_option linter.unusedSimpArgs false

set_option maxRecDepth 100000 in
set_option maxHeartbeats 4000000 in
theorem operands_any (op : Int) (w : World) :
    Calls Tryz.prog 81 #[.int .i64 op] w fun e w' => e = .returned (.int .i64 (if 30 ≤ op then 2 else if 20 ≤ op then 1 else 0)) ∧ w' = w := by
  by_cases h1 : 30 ≤ op
  · rw [if_pos h1]
    go_enter Tryz.func81, Tryz.ntmps81
    go_wp2_with fail
    go_ret
    exact ⟨rfl, rfl⟩
  · rw [if_neg h1]
    by_cases h2 : 20 ≤ op
    · rw [if_pos h2]
      go_enter Tryz.func81, Tryz.ntmps81
      go_wp2_with fail
      go_ret
      exact ⟨rfl, rfl⟩
    · rw [if_neg h2]
      go_enter Tryz.func81, Tryz.ntmps81
      go_wp2_with fail
      go_ret
      exact ⟨rfl, rfl⟩
end Go.Proofs.YtnicolaphmffkaaGreatDoor
namespace Go.Proofs.YtnicolaphmffkaaGreatDoor
open Go.RowKit
set_option linter.unusedVariables false
set_option linter.unusedSimpArgs false

theorem bel1 {w : World} (o : Obj) : Below w.heap.size w (w.alloc o) := (Below.refl _ _).alloc (Nat.le_refl _) o
end Go.Proofs.YtnicolaphmffkaaGreatDoor
namespace Go.Proofs.YtnicolaphmffkaaGreatDoor
open Go.RowKit
set_option linter.unusedVariables false
set_option linter.unusedSimpArgs false

theorem nd_op (x : Nd) (h : fNd x = true) : ¬ (x.op = 7 ∨ x.op = 8 ∨ x.op = 9 ∨ x.op = 10) := by
  intro q
  unfold fNd at h
  rw [if_neg (by omega), if_neg (by omega), if_neg (by omega), if_pos q] at h
  cases h
/-- How many types wait ahead of each node of a tree. -/
theorem hts (L : List Nd) (h : fEx L = true) : ∃ H : Nat → Nat, L.length ≤ 256 ∧ H 0 = 0 ∧ H L.length = 1 ∧ (∀ k, k ≤ L.length → H k ≤ k) ∧ ∀ k (hk : k < L.length),
    ((L[k].op = 1 ∨ L[k].op = 2 ∨ L[k].op = 3 ∨ L[k].op = 4 ∨ L[k].op = 5 ∨ L[k].op = 6) ∧ H (k + 1) = H k + 1) ∨
    ((20 ≤ L[k].op ∧ L[k].op < 30) ∧ opB L[k].op ∧ 1 ≤ H k ∧ H (k + 1) = H k) ∨
    (30 ≤ L[k].op ∧ opB L[k].op ∧ 2 ≤ H k ∧ H (k + 1) + 1 = H k) := by
  unfold fEx at h
  simp only [Bool.and_eq_true, decide_eq_true_eq, List.all_eq_true] at h
  obtain ⟨h1, h2, h3, h4⟩ := h
  have hs : spanF L ((L.length : Int) - 1) = 0 := by
    unfold nestF at h2
    by_cases q : spanF L ((L.length : Int) - 1) = 0
    · exact q
    · rw [if_neg q] at h2; omega
  unfold spanF at hs
  by_cases hp : 0 ≤ (L.length : Int) - 1 ∧ (L.length : Int) - 1 < L.length
  case neg => rw [if_neg hp] at hs; omega
  rw [if_pos hp, show ((L.length : Int) - 1).toNat + 1 = L.length by omega] at hs
  obtain ⟨e1, e2⟩ := span_high L L.length 1 (Nat.le_refl _) (by omega) hs
  have key : ∀ k (hk : k < L.length), ((L[k].op = 1 ∨ L[k].op = 2 ∨ L[k].op = 3 ∨ L[k].op = 4 ∨ L[k].op = 5 ∨ L[k].op = 6) ∧ (runSt L (k + 1)).length = (runSt L k).length + 1) ∨
    ((20 ≤ L[k].op ∧ L[k].op < 30) ∧ opB L[k].op ∧ 1 ≤ (runSt L k).length ∧ (runSt L (k + 1)).length = (runSt L k).length) ∨
    (30 ≤ L[k].op ∧ opB L[k].op ∧ 2 ≤ (runSt L k).length ∧ (runSt L (k + 1)).length + 1 = (runSt L k).length) := by
    intro k hk
    obtain ⟨a1, a2⟩ := e2 k hk hk
    have a3 := nd_op _ (h4 _ (List.getElem_mem hk))
    rw [runSt_succ L k hk, stepSt_len]
    generalize (runSt L k).length = n at *
    generalize L[k].op = op at *
    unfold opB
    unfold arF at *
    by_cases c1 : 1 ≤ op ∧ op ≤ 10
    · simp only [if_pos c1] at *
      left
      refine ⟨by omega, by simp⟩
    · by_cases c2 : 20 ≤ op ∧ op ≤ 22
      · simp only [if_neg c1, if_pos c2] at *
        right; left
        refine ⟨by omega, by omega, by omega, ?_⟩
        have : (1 : Int).toNat = 1 := rfl
        omega
      · by_cases c3 : 30 ≤ op ∧ op ≤ 36 ∨ 40 ≤ op ∧ op ≤ 45 ∨ op = 50 ∨ op = 51
        · simp only [if_neg c1, if_neg c2, if_pos c3] at *
          right; right
          refine ⟨by omega, by omega, by omega, ?_⟩
          have : (2 : Int).toNat = 2 := rfl
          omega
        · simp only [if_neg c1, if_neg c2, if_neg c3] at *
          exact absurd rfl a1
  refine ⟨fun k => (runSt L k).length, h1, rfl, by show (runSt L L.length).length = 1; omega, ?_, key⟩
  intro k
  induction k with
  | zero => intro _; exact Nat.le_refl _
  | succ k ih =>
    intro hk
    have i1 := ih (by omega)
    have i2 := key k (by omega)
    simp only at i1 ⊢
    omega
end Go.Proofs.YtnicolaphmffkaaGreatDoor
