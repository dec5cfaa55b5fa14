import Derived.Test.YtoaokpmnjppfcaaWaE
import Derived.Test.YtoaokpmnjppfcaaWaF
import Derived.Test.YtoaokpmnjppfcaaWaG
import Derived.Test.YtoaokpmnjppfcaaWaH
namespace Go.Proofs.Ytoaokpmnjppfcaa
open Go.RowKit
set_option linter.unusedVariables false
set_option linter.unusedSimpArgs false

/-- Rows of n things, one behind the other. -/
def rwA {α : Type} (cs : α → List Value) (n : Nat) (f : Nat → α) : Array Value := (cellsF cs ((List.range n).map f)).toArray
theorem rwA_size {α : Type} {cs : α → List Value} {sz : Nat} (h : ∀ x, (cs x).length = sz) (n : Nat) (f : Nat → α) : (rwA cs n f).size = n * sz := by
  unfold rwA
  have := cellsF_len h ((List.range n).map f)
  simpa using this
theorem rwA_get {α : Type} {cs : α → List Value} {sz : Nat} (h : ∀ x, (cs x).length = sz) (n : Nat) (f : Nat → α) {k j : Nat} (hk : k < n) (hj : j < sz) : (rwA cs n f)[k * sz + j]? = (cs (f k))[j]? := by
  unfold rwA
  have := cellsF_get h ((List.range n).map f) k j (by simpa using hk) hj
  simpa using this
def updA {α : Type} (f : Nat → α) (k : Nat) (x : α) : Nat → α := fun j => if j = k then x else f j
/-- A row that parts from another one in one thing. -/
theorem rwA_upd {α : Type} {cs : α → List Value} {sz : Nat} (h : ∀ x, (cs x).length = sz) (h0 : 0 < sz) (n : Nat) (f : Nat → α) {k : Nat} (hk : k < n) (x : α) (A : Array Value) (hs : A.size = n * sz)
    (hin : ∀ j, j < sz → A[k * sz + j]? = (cs x)[j]?) (hout : ∀ i, (i < k * sz ∨ k * sz + sz ≤ i) → A[i]? = (rwA cs n f)[i]?) : A = rwA cs n (updA f k x) := by
  apply Array.ext_getElem?
  intro i
  by_cases hi : i < n * sz
  · have e := Nat.div_add_mod i sz
    have hm := Nat.mod_lt i h0
    have hq : i / sz < n := Nat.div_lt_of_lt_mul (by rw [Nat.mul_comm]; exact hi)
    have ei : i = i / sz * sz + i % sz := by rw [Nat.mul_comm]; omega
    rw [ei, rwA_get h n _ hq hm]
    by_cases ek : i / sz = k
    · rw [ek, hin _ hm]; simp [updA]
    · rw [hout _ (by
        rcases Nat.lt_or_ge (i / sz) k with hl | hl
        · left
          have : (i / sz + 1) * sz ≤ k * sz := Nat.mul_le_mul_right sz hl
          rw [Nat.succ_mul] at this
          omega
        · right
          have : (k + 1) * sz ≤ i / sz * sz := Nat.mul_le_mul_right sz (by omega)
          rw [Nat.succ_mul] at this
          omega), rwA_get h n _ hq hm]
      simp [updA, ek]
  · rw [Array.getElem?_eq_none (by omega), Array.getElem?_eq_none (by rw [rwA_size h]; omega)]
theorem get_set (A : Array Value) (i j : Nat) (v : Value) : (A.setIfInBounds i v)[j]? = if i = j ∧ j < A.size then some v else A[j]? := by
  rw [Array.getElem?_setIfInBounds]
  by_cases e : i = j
  · subst e
    by_cases h : i < A.size
    · simp [h]
    · simp [h]
  · simp [e]
theorem lamps_upd (n : Nat) (f : Nat → Lm) {k : Nat} (hk : k < n) (l : Lm) : st3 (rwA Lm.cs n f) (k * 3) l = rwA Lm.cs n (updA f k l) := by
  have hs := rwA_size lm_len n f
  have hk3 : k * 3 + 2 < n * 3 := by omega
  refine rwA_upd lm_len (by decide) n f hk l _ (by unfold st3; simp [hs]) (fun j hj => ?_) (fun i hi => ?_)
  · unfold st3
    match j, hj with
    | 0, _ => simp [get_set, hs, Lm.cs]; omega
    | 1, _ => simp [get_set, hs, Lm.cs]; omega
    | 2, _ => simp [get_set, hs, Lm.cs]; omega
  · unfold st3
    rw [get_set, if_neg (by omega), get_set, if_neg (by omega), get_set, if_neg (by omega)]
def tn0 : Tn := ⟨0, ⟨0, 0, 0⟩, ⟨0, 0, 0⟩⟩
def gr0 : Gr := ⟨0, 0, 0, 0⟩
def cf0 : Cf := ⟨0, 0, 0, 0⟩
def zer86 : Array Value := rwA Tn.cs 64 (fun _ => tn0)
set_option maxRecDepth 100000 in
theorem alloc86 (w : World) : (Instr.alloc 86 true (.tuple #[])).run Try.prog w = .ok (.pointer (some ⟨w.heap.size, 0, none⟩)) (w.alloc (.cells zer86 86)) := by kernel_rfl
theorem wpList_alloc_named {P : Program} {ops : Array Oper} {rest : List Oper} {o2 : Oper} {a : Act} {w : World} {Q : Exit → Act → World → Prop}
    (g2 : o2.guard = none) (t : TypeId) (h2 : o2.op = .alloc t) (zeros : Array Value)
    (hr : ∀ w : World, (Instr.alloc t true (.tuple #[])).run P w = .ok (.pointer (some ⟨w.heap.size, 0, none⟩)) (w.alloc (.cells zeros t)))
    (h : wpList P ops Q rest (a.put o2.dst (.pointer (some ⟨w.heap.size, 0, none⟩))) (w.alloc (.cells zeros t))) : wpList P ops Q (o2 :: rest) a w := by
  refine wpList_plain g2 fun K hK => ?_
  unfold Oper.wp
  simp only [execOp, h2, Sem.run_bind, hr, Result.andThen_ok]
  exact hK _ _ h
/-- Seven cells behind a store. -/
def st7 (vs : Array Value) (o : Nat) (t : Tn) : Array Value := ((((((vs.setIfInBounds o (.int .i64 t.t)).setIfInBounds (o + 1) (.int .u8 t.was.ch)).setIfInBounds (o + 2) (.int .i64 t.was.lo)).setIfInBounds (o + 3) (.int .i64 t.was.fr)).setIfInBounds (o + 4) (.int .u8 t.now.ch)).setIfInBounds (o + 5) (.int .i64 t.now.lo)).setIfInBounds (o + 6) (.int .i64 t.now.fr)
theorem turns_upd (n : Nat) (f : Nat → Tn) {k : Nat} (hk : k < n) (l : Tn) : st7 (rwA Tn.cs n f) (k * 7) l = rwA Tn.cs n (updA f k l) := by
  have hs := rwA_size tn_len n f
  have hk3 : k * 7 + 6 < n * 7 := by omega
  refine rwA_upd tn_len (by decide) n f hk l _ (by unfold st7; simp [hs]) (fun j hj => ?_) (fun i hi => ?_)
  · unfold st7
    match j, hj with
    | 0, _ => simp [get_set, hs, Tn.cs]; omega
    | 1, _ => simp [get_set, hs, Tn.cs]; omega
    | 2, _ => simp [get_set, hs, Tn.cs]; omega
    | 3, _ => simp [get_set, hs, Tn.cs]; omega
    | 4, _ => simp [get_set, hs, Tn.cs]; omega
    | 5, _ => simp [get_set, hs, Tn.cs]; omega
    | 6, _ => simp [get_set, hs, Tn.cs]; omega
  · unfold st7
    rw [get_set, if_neg (by omega), get_set, if_neg (by omega), get_set, if_neg (by omega), get_set, if_neg (by omega), get_set, if_neg (by omega), get_set, if_neg (by omega), get_set, if_neg (by omega)]
theorem Has.set7 {w : World} {b o : Nat} {vs : Array Value} (h : Has w b vs) (ho : o + 6 < vs.size) (t : Tn) : Has (((((((w.setCell ⟨b, o, none⟩ (.int .i64 t.t)).setCell ⟨b, o + 1, none⟩ (.int .u8 t.was.ch)).setCell ⟨b, o + 2, none⟩ (.int .i64 t.was.lo)).setCell ⟨b, o + 3, none⟩ (.int .i64 t.was.fr)).setCell ⟨b, o + 4, none⟩ (.int .u8 t.now.ch)).setCell ⟨b, o + 5, none⟩ (.int .i64 t.now.lo)).setCell ⟨b, o + 6, none⟩ (.int .i64 t.now.fr)) b (st7 vs o t) :=
  ((((((h.set o (by omega) _).set (o + 1) (by simp; omega) _).set (o + 2) (by simp; omega) _).set (o + 3) (by simp; omega) _).set (o + 4) (by simp; omega) _).set (o + 5) (by simp; omega) _).set (o + 6) (by simp; omega) _
theorem Has.far7' {w : World} {b B o : Nat} {vs : Array Value} (h : Has w B vs) (hn : B ≠ b) (x0 x1 x2 x3 x4 x5 x6 : Value) : Has (((((((w.setCell ⟨b, o, none⟩ x0).setCell ⟨b, o + 1, none⟩ x1).setCell ⟨b, o + 2, none⟩ x2).setCell ⟨b, o + 3, none⟩ x3).setCell ⟨b, o + 4, none⟩ x4).setCell ⟨b, o + 5, none⟩ x5).setCell ⟨b, o + 6, none⟩ x6) B vs :=
  ((((((h.far hn _).far hn _).far hn _).far hn _).far hn _).far hn _).far hn _
theorem Only.new7 {S : Nat → Prop} {a w : World} {b o : Nat} (h : Only S a w) (hn : a.heap.size ≤ b) (x0 x1 x2 x3 x4 x5 x6 : Value) : Only S a (((((((w.setCell ⟨b, o, none⟩ x0).setCell ⟨b, o + 1, none⟩ x1).setCell ⟨b, o + 2, none⟩ x2).setCell ⟨b, o + 3, none⟩ x3).setCell ⟨b, o + 4, none⟩ x4).setCell ⟨b, o + 5, none⟩ x5).setCell ⟨b, o + 6, none⟩ x6) :=
  ((((((h.set_new hn _).set_new hn _).set_new hn _).set_new hn _).set_new hn _).set_new hn _).set_new hn _
/-- A list that is read in another block than B. -/
def FlX {α : Type} (sz : Nat) (cs : α → List Value) (B : Nat) (w : World) (v : Value) (L : List α) : Prop :=
  ∃ a cap, v = .slice a L.length cap ∧ (L = [] ∨ ∃ g o, a = some ⟨g, o, none⟩ ∧ g < w.heap.size ∧ g ≠ B ∧ ∀ (i : Nat) (h : i < L.length) (j : Nat) (u : Value), (cs L[i])[j]? = some u → w.cell? ⟨g, o + i * sz + j, none⟩ = some u)
theorem Only.cell {S : Nat → Prop} {w w' : World} (h : Only S w w') {g i : Nat} (hg : g < w.heap.size) (hn : ¬ S g) : w'.cell? ⟨g, i, none⟩ = w.cell? ⟨g, i, none⟩ := by
  simp only [World.cell?, h.block g hg hn]
theorem FlX.only {α : Type} {sz : Nat} {cs : α → List Value} {B : Nat} {w w' : World} {v : Value} {L : List α} (h : FlX sz cs B w v L) (ho : Only (fun q => q = B) w w') : FlX sz cs B w' v L := by
  obtain ⟨a, cap, rfl, h⟩ := h
  refine ⟨a, cap, rfl, ?_⟩
  rcases h with h | ⟨g, o, rfl, hg, hn, hx⟩
  · exact .inl h
  · exact .inr ⟨g, o, rfl, Nat.lt_of_lt_of_le hg ho.size, hn, fun i hi j u hu => by rw [ho.cell hg hn]; exact hx i hi j u hu⟩
/-- A group's way at a tick. -/
def tnF (f : Nat → Lm) (t : Int) (s : ByteArray) (k : Nat) : Tn := ⟨t, f k, shF (f k) t (ltr s k)⟩
def lkN (R : List Gr) (f : Nat → Lm) (t : Int) (s : ByteArray) (x : Al) : Nat → Al
  | 0 => x
  | k + 1 => lkF (lkN R f t s x k) (R.getD k gr0) (tnF f t s k)
def prN (C : List Cf) (f : Nat → Lm) (t : Int) (s : ByteArray) (x : Al) : Nat → Al
  | 0 => x
  | k + 1 => prF (prN C f t s x k) (C.getD k cf0) (tnF f t s (C.getD k cf0).a.toNat) (tnF f t s (C.getD k cf0).b.toNat)
/-- The first alarm of a tick. -/
def frF (R : List Gr) (C : List Cf) (f : Nat → Lm) (t : Int) (s : ByteArray) : Al :=
  if (msF R.length t s).k = 0 then prN C f t s (lkN R f t s (msF R.length t s) R.length) C.length else msF R.length t s
/-- The lamps behind a tick, k of them looked at. -/
def lmN (f : Nat → Lm) (t : Int) (s : ByteArray) (k : Nat) : Nat → Lm := fun j => if j < k then shF (f j) t (ltr s j) else f j
def lmF (R : List Gr) (f : Nat → Lm) (t : Int) (s : ByteArray) : Nat → Lm := if (msF R.length t s).k = 0 then lmN f t s R.length else f
theorem lmN_step (f : Nat → Lm) (t : Int) (s : ByteArray) (k : Nat) : updA (lmN f t s k) k (shF (f k) t (ltr s k)) = lmN f t s (k + 1) := by
  funext j
  unfold updA lmN
  by_cases e : j = k
  · subst e; simp
  · by_cases hl : j < k
    · simp [e, hl, Nat.lt_succ_of_lt hl]
    · simp [e, hl, show ¬ j < k + 1 by omega]
def tnN (f : Nat → Lm) (t : Int) (s : ByteArray) (k : Nat) : Nat → Tn := fun j => if j < k then tnF f t s j else tn0
theorem tnN_step (f : Nat → Lm) (t : Int) (s : ByteArray) (k : Nat) : updA (tnN f t s k) k (tnF f t s k) = tnN f t s (k + 1) := by
  funext j
  unfold updA tnN
  by_cases e : j = k
  · subst e; simp
  · by_cases hl : j < k
    · simp [e, hl, Nat.lt_succ_of_lt hl]
    · simp [e, hl, show ¬ j < k + 1 by omega]
end Go.Proofs.Ytoaokpmnjppfcaa
