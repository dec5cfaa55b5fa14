import Derived.Test.YtnicolaphmffkaaGreatDoorSnG
import Derived.Test.YtnicolaphmffkaaGreatDoorApA
namespace Go.Proofs.YtnicolaphmffkaaGreatDoor
open Go.RowKit
set_option linter.unusedVariables false
set_option linter.unusedSimpArgs false

/-- A statement by itself. -/
def smV (z : Sz) (kd ix : Int) (xe : List Nd) : Bool := ixB z kd ix && (if tyK kd = 0 then decide (xe.length = 0) else sxB z xe (tyK kd))
def smB (z : Sz) (s : St) : Bool := blB s.name s.line s.col && smV z s.kind s.ix s.expr
def brZ (z : Sz) : List Bool → List St → Bool
  | bs, [] => decide (bs.length = 0)
  | bs, s :: L => smB z s && (if s.kind = 7 then decide (bs.length < 16) && brZ z (bs ++ [false]) L
    else if s.kind = 8 then decide (0 < bs.length) && (!(bs.getD (bs.length - 1) true) && brZ z (bs.set (bs.length - 1) true) L)
    else if s.kind = 9 then decide (0 < bs.length) && brZ z (bs.take (bs.length - 1)) L
    else brZ z bs L)
set_option maxRecDepth 100000 in
set_option maxHeartbeats 8000000 in
theorem sStmtB (z : Sz) (kd : Int) (nm : ByteArray) (ix : Int) (xe : List Nd) (ea : Option Addr) (ec : Nat) (ln cl : Int) (w : World) (hbl : blB nm ln cl = false) :
    Calls Tryz.prog 97 #[(.agg #[.int .i64 (z.g : Int), .int .i64 (z.d : Int), .int .i64 (z.t : Int), .int .i64 (z.c : Int), .int .i64 (z.v : Int)]), .agg #[.int .i64 kd, .string nm, .int .i64 ix, .slice ea xe.length ec, .int .i64 ln, .int .i64 cl]] w fun e w' => e = .returned (.bool false) ∧ Below w.heap.size w w' := by
  have hb : Below w.heap.size w ((w.alloc (.cells #[.int .i64 (z.g : Int), .int .i64 (z.d : Int), .int .i64 (z.t : Int), .int .i64 (z.c : Int), .int .i64 (z.v : Int)] 104)).alloc (.cells #[.int .i64 kd, .string nm, .int .i64 ix, .slice ea xe.length ec, .int .i64 ln, .int .i64 cl] 133)) := ((Below.refl _ _).alloc (Nat.le_refl _) _).alloc (by simp) _
  by_cases e0 : emB nm = true
  · have e1 := em_eq e0
    subst e1
    have e2 : ¬ (ln = 0 ∧ cl = 0) := by intro q; obtain ⟨rfl, rfl⟩ := q; simp [blB, emB] at hbl
    by_cases l0 : ln = 0
    · subst l0
      have c0 : ¬ cl = 0 := fun q => e2 ⟨rfl, q⟩
      have n0 : (cl == 0) = false := by simpa using c0
      clear hbl e0 e2
      go_enter Tryz.func97, Tryz.ntmps97
      go_wp2_with fail
      go_ret
      exact ⟨rfl, hb⟩
    · have n0 : (ln == 0) = false := by simpa using l0
      clear hbl e0 e2
      go_enter Tryz.func97, Tryz.ntmps97
      go_wp2_with fail
      go_ret
      exact ⟨rfl, hb⟩
  · have e1 : ¬ nm.toList = [] := by intro q; exact e0 (by unfold emB; rw [q]; rfl)
    clear hbl e0
    go_enter Tryz.func97, Tryz.ntmps97
    go_wp2_with fail
    all_goals go_ret
    all_goals exact ⟨rfl, hb⟩
set_option maxRecDepth 100000 in
set_option maxHeartbeats 8000000 in
theorem sStmtV (z : Sz) (kd ix : Int) (xe : List Nd) (ea : Option Addr) (ec : Nat) (w : World) (hN : Nds w (.slice ea xe.length ec) xe) (hl : xe.length ≤ 2932031007317) (hr : ∀ x ∈ xe, vOk x.val) :
    Calls Tryz.prog 97 #[(.agg #[.int .i64 (z.g : Int), .int .i64 (z.d : Int), .int .i64 (z.t : Int), .int .i64 (z.c : Int), .int .i64 (z.v : Int)]), .agg #[.int .i64 kd, .string ⟨#[]⟩, .int .i64 ix, .slice ea xe.length ec, .int .i64 0, .int .i64 0]] w fun e w' => e = .returned (.bool (smV z kd ix xe)) ∧ Below w.heap.size w w' := by
  have hb : Below w.heap.size w ((w.alloc (.cells #[.int .i64 (z.g : Int), .int .i64 (z.d : Int), .int .i64 (z.t : Int), .int .i64 (z.c : Int), .int .i64 (z.v : Int)] 104)).alloc (.cells #[.int .i64 kd, .string ⟨#[]⟩, .int .i64 ix, .slice ea xe.length ec, .int .i64 0, .int .i64 0] 133)) := ((Below.refl _ _).alloc (Nat.le_refl _) _).alloc (by simp) _
  have Z0 : Has ((w.alloc (.cells #[.int .i64 (z.g : Int), .int .i64 (z.d : Int), .int .i64 (z.t : Int), .int .i64 (z.c : Int), .int .i64 (z.v : Int)] 104)).alloc (.cells #[.int .i64 kd, .string ⟨#[]⟩, .int .i64 ix, .slice ea xe.length ec, .int .i64 0, .int .i64 0] 133)) w.heap.size #[.int .i64 (z.g : Int), .int .i64 (z.d : Int), .int .i64 (z.t : Int), .int .i64 (z.c : Int), .int .i64 (z.v : Int)] := (Has.new _ _ _ rfl).alloc _
  have S0 : Has ((w.alloc (.cells #[.int .i64 (z.g : Int), .int .i64 (z.d : Int), .int .i64 (z.t : Int), .int .i64 (z.c : Int), .int .i64 (z.v : Int)] 104)).alloc (.cells #[.int .i64 kd, .string ⟨#[]⟩, .int .i64 ix, .slice ea xe.length ec, .int .i64 0, .int .i64 0] 133)) (w.heap.size + 1) #[.int .i64 kd, .string ⟨#[]⟩, .int .i64 ix, .slice ea xe.length ec, .int .i64 0, .int .i64 0] := Has.new _ _ _ (by simp)
  have kI := fun X => ix_any z kd ⟨#[]⟩ ix ea xe.length ec 0 0 X
  have kT := fun X => typeIn_any kd X
  have kE := fun (X : World) (hX : Below w.heap.size w X) => sExpr_any z xe (.slice ea xe.length ec) (tyK kd) X (hN.below hX) hl hr
  unfold smV
  clear hN
  cases hi : ixB z kd ix with
  | false =>
    rw [hi] at kI
    rw [Bool.false_and]
    go_enter Tryz.func97, Tryz.ntmps97
    go_wp2_with (go_at_call 113; (with_reducible refine Calls.mono (kI _) ?_); rintro e w2 ⟨rfl, h2⟩; have hb2 := bel_after hb hb.size h2; have Z2 := Z0.below h2; have S2 := S0.below h2; obtain ⟨_, z1, _⟩ := id Z2; obtain ⟨_, s1, _⟩ := id S2)
    go_ret
    exact ⟨by simp, hb2⟩
  | true =>
    rw [hi] at kI
    rw [Bool.true_and]
    by_cases k0 : tyK kd = 0
    · rw [k0] at kT
      rw [if_pos k0]
      clear kE
      by_cases x0 : xe.length = 0
      · have n0 : ((xe.length : Int) == 0) = true := by simp [x0]
        rw [decide_eq_true x0]
        clear x0 hl
        go_enter Tryz.func97, Tryz.ntmps97
        go_wp2_with (first | (go_at_call 113; (with_reducible refine Calls.mono (kI _) ?_); rintro e w2 ⟨rfl, h2⟩; have hb2 := bel_after hb hb.size h2; have Z2 := Z0.below h2; have S2 := S0.below h2; obtain ⟨_, z1, _⟩ := id Z2; obtain ⟨_, s1, _⟩ := id S2) | (go_at_call 114; (with_reducible refine Calls.mono (kT _) ?_); rintro e wx ⟨rfl, hwx⟩; have hwy := hwx.symm; clear hwx; subst hwy))
        go_ret
        exact ⟨by simp, hb2⟩
      · have n0 : ((xe.length : Int) == 0) = false := beq_eq_false_iff_ne.2 (by omega)
        rw [decide_eq_false x0]
        clear x0 hl
        go_enter Tryz.func97, Tryz.ntmps97
        go_wp2_with (first | (go_at_call 113; (with_reducible refine Calls.mono (kI _) ?_); rintro e w2 ⟨rfl, h2⟩; have hb2 := bel_after hb hb.size h2; have Z2 := Z0.below h2; have S2 := S0.below h2; obtain ⟨_, z1, _⟩ := id Z2; obtain ⟨_, s1, _⟩ := id S2) | (go_at_call 114; (with_reducible refine Calls.mono (kT _) ?_); rintro e wx ⟨rfl, hwx⟩; have hwy := hwx.symm; clear hwx; subst hwy))
        go_ret
        exact ⟨by simp, hb2⟩
    · have n0 : (tyK kd == 0) = false := by simpa using k0
      have n1 : (tyK kd != 0) = true := by simpa using k0
      rw [if_neg k0]
      generalize tyK kd = ty at *
      go_enter Tryz.func97, Tryz.ntmps97
      go_wp2_with (first | (go_at_call 113; (with_reducible refine Calls.mono (kI _) ?_); rintro e w2 ⟨rfl, h2⟩; have hb2 := bel_after hb hb.size h2; have Z2 := Z0.below h2; have S2 := S0.below h2; obtain ⟨_, z1, _⟩ := id Z2; obtain ⟨_, s1, _⟩ := id S2) | (go_at_call 114; (with_reducible refine Calls.mono (kT _) ?_); rintro e wx ⟨rfl, hwx⟩; have hwy := hwx.symm; clear hwx; subst hwy) | (go_at_call 41; (with_reducible refine Calls.mono (kE _ (by exact hb2)) ?_); rintro e w3 ⟨rfl, h3⟩; have hb3 := bel_after hb2 hb2.size h3))
      go_ret
      exact ⟨by simp, hb3⟩
theorem sStmt_any (z : Sz) (s : St) (ea : Option Addr) (ec : Nat) (w : World) (hN : Nds w (.slice ea s.expr.length ec) s.expr) (hl : s.expr.length ≤ 2932031007317) (hr : ∀ x ∈ s.expr, vOk x.val) :
    Calls Tryz.prog 97 #[(.agg #[.int .i64 (z.g : Int), .int .i64 (z.d : Int), .int .i64 (z.t : Int), .int .i64 (z.c : Int), .int .i64 (z.v : Int)]), .agg #[.int .i64 s.kind, .string s.name, .int .i64 s.ix, .slice ea s.expr.length ec, .int .i64 s.line, .int .i64 s.col]] w fun e w' => e = .returned (.bool (smB z s)) ∧ Below w.heap.size w w' := by
  obtain ⟨kd, nm, ix, xe, ln, cl⟩ := s
  simp only at hN hl hr ⊢
  unfold smB
  cases hbl : blB nm ln cl with
  | false => exact sStmtB z kd nm ix xe ea ec ln cl w hbl
  | true =>
    simp only [Bool.true_and]
    unfold blB at hbl
    simp only [Bool.and_eq_true, decide_eq_true_eq] at hbl
    obtain ⟨h1, rfl, rfl⟩ := hbl
    have h1 := em_eq h1
    subst h1
    exact sStmtV z kd ix xe ea ec w hN hl hr
/-- Sixteen truths, the first ones told. -/
def Ab (w : World) (b : Nat) (bs : List Bool) : Prop := ∃ cs : Array Value, cs.size = 16 ∧ Has w b cs ∧ ∀ j (h : j < bs.length), cs[j]? = some (.bool bs[j])
theorem Ab.below {w w' : World} {b : Nat} {bs : List Bool} (h : Ab w b bs) (hb : Below w.heap.size w w') : Ab w' b bs := by
  obtain ⟨cs, h1, h2, h3⟩ := h
  exact ⟨cs, h1, h2.below hb, h3⟩
theorem Ab.alloc {w : World} {b : Nat} {bs : List Bool} (h : Ab w b bs) (o : Obj) : Ab (w.alloc o) b bs := h.below (bel1 o)
theorem Ab.cell {w : World} {b : Nat} {bs : List Bool} (h : Ab w b bs) {j : Nat} (hj : j < bs.length) : w.cell? ⟨b, j, none⟩ = some (.bool bs[j]) := by
  obtain ⟨cs, h1, h2, h3⟩ := h
  exact (h2.2.1 j).trans (h3 j hj)
theorem Ab.some {w : World} {b : Nat} {bs : List Bool} (h : Ab w b bs) {j : Nat} (hj : j < 16) : ∃ u, w.cell? ⟨b, j, none⟩ = some u := by
  obtain ⟨cs, h1, h2, h3⟩ := h
  exact ⟨cs[j]'(by omega), (h2.2.1 j).trans (by simp [h1, hj])⟩
theorem Ab.frz {w : World} {b : Nat} {bs : List Bool} (h : Ab w b bs) (j : Nat) : w.frozen? ⟨b, j, none⟩ = false := by
  obtain ⟨cs, h1, h2, h3⟩ := h
  exact h2.2.2 j
theorem Ab.push {w : World} {b n : Nat} {bs : List Bool} (h : Ab w b bs) (hn : bs.length = n) (hj : n < 16) (x : Bool) : Ab (w.setCell ⟨b, n, none⟩ (.bool x)) b (bs ++ [x]) := by
  obtain ⟨cs, h1, h2, h3⟩ := h
  refine ⟨cs.setIfInBounds n (.bool x), by simpa using h1, h2.set n (by omega) _, fun j hj' => ?_⟩
  by_cases e : j = n
  · subst e
    subst hn
    simp [h1, hj]
  · have l : j < bs.length := by simp at hj'; omega
    rw [Array.getElem?_setIfInBounds_ne (by omega), h3 j l]
    simp [List.getElem_append_left l]
theorem Ab.mark {w : World} {b m : Nat} {bs : List Bool} (h : Ab w b bs) (hm : m < bs.length) (x : Bool) : Ab (w.setCell ⟨b, m, none⟩ (.bool x)) b (bs.set m x) := by
  obtain ⟨cs, h1, h2, h3⟩ := h
  have lm : m < cs.size := by
    have := h3 m hm
    rcases Nat.lt_or_ge m cs.size with q | q
    · exact q
    · simp [q] at this
  refine ⟨cs.setIfInBounds m (.bool x), by simpa using h1, h2.set m lm _, fun j hj' => ?_⟩
  have l : j < bs.length := by simpa using hj'
  by_cases e : j = m
  · subst e
    simp [lm]
  · rw [Array.getElem?_setIfInBounds_ne (by omega), h3 j l]
    simp [show ¬ m = j by omega]
theorem Ab.pop {w : World} {b : Nat} {bs : List Bool} (h : Ab w b bs) (m : Nat) : Ab w b (bs.take m) := by
  obtain ⟨cs, h1, h2, h3⟩ := h
  refine ⟨cs, h1, h2, fun j hj => ?_⟩
  have l : j < bs.length := by simp at hj; omega
  rw [h3 j l]
  simp
theorem br_end (z : Sz) (bs : List Bool) (L : List St) (k : Nat) (h : L.length ≤ k) : brZ z bs (L.drop k) = decide (bs.length = 0) := by
  rw [List.drop_eq_nil_of_le h]; unfold brZ; rfl
theorem br_bad (z : Sz) (bs : List Bool) (L : List St) (k : Nat) (h : k < L.length) (hf : smB z L[k] = false) : brZ z bs (L.drop k) = false := by
  rw [List.drop_eq_getElem_cons h]; unfold brZ; rw [hf]; rfl
theorem br_if (z : Sz) (bs : List Bool) (L : List St) (k : Nat) (h : k < L.length) (hf : smB z L[k] = true) (hk : L[k].kind = 7) : brZ z bs (L.drop k) = (decide (bs.length < 16) && brZ z (bs ++ [false]) (L.drop (k + 1))) := by
  rw [List.drop_eq_getElem_cons h]
  conv => lhs; unfold brZ
  rw [hf, if_pos hk]; rfl
theorem br_else (z : Sz) (bs : List Bool) (L : List St) (k : Nat) (h : k < L.length) (hf : smB z L[k] = true) (hk : L[k].kind = 8) : brZ z bs (L.drop k) = (decide (0 < bs.length) && (!(bs.getD (bs.length - 1) true) && brZ z (bs.set (bs.length - 1) true) (L.drop (k + 1)))) := by
  rw [List.drop_eq_getElem_cons h]
  conv => lhs; unfold brZ
  rw [hf, if_neg (by omega), if_pos hk]; rfl
theorem br_fi (z : Sz) (bs : List Bool) (L : List St) (k : Nat) (h : k < L.length) (hf : smB z L[k] = true) (hk : L[k].kind = 9) : brZ z bs (L.drop k) = (decide (0 < bs.length) && brZ z (bs.take (bs.length - 1)) (L.drop (k + 1))) := by
  rw [List.drop_eq_getElem_cons h]
  conv => lhs; unfold brZ
  rw [hf, if_neg (by omega), if_neg (by omega), if_pos hk]; rfl
theorem br_on (z : Sz) (bs : List Bool) (L : List St) (k : Nat) (h : k < L.length) (hf : smB z L[k] = true) (h7 : L[k].kind ≠ 7) (h8 : L[k].kind ≠ 8) (h9 : L[k].kind ≠ 9) : brZ z bs (L.drop k) = brZ z bs (L.drop (k + 1)) := by
  rw [List.drop_eq_getElem_cons h]
  conv => lhs; unfold brZ
  rw [hf, if_neg h7, if_neg h8, if_neg h9]; rfl
theorem bel_setM {w w2 : World} {j : Nat} {u : Value} (h : Below w.heap.size w w2) : Below w.heap.size w (w2.setCell ⟨w.heap.size + 1, j, none⟩ u) := h.setCell (by show w.heap.size ≤ w.heap.size + 1; omega) _
set_option maxRecDepth 100000 in
set_option maxHeartbeats 8000000 in
theorem sBlock_any (z : Sz) (L : List St) (v : Value) (S : Nat → Prop) (w : World) (h : Sts S w v L) (hr : ∀ s ∈ L, ∀ x ∈ s.expr, vOk x.val) :
    Calls Tryz.prog 69 #[(.agg #[.int .i64 (z.g : Int), .int .i64 (z.d : Int), .int .i64 (z.t : Int), .int .i64 (z.c : Int), .int .i64 (z.v : Int)]), v] w fun e w' => e = .returned (.bool (brZ z [] L)) ∧ Below w.heap.size w w' := by
  have kS := fun (k : Nat) (hk : k < L.length) (ea : Option Addr) (ec : Nat) (hv : Exs S w (.slice ea L[k].expr.length ec) L[k].expr) (X : World) (hX : Below w.heap.size w X) => sStmt_any z L[k] ea ec X (hv.nds.1.below hX) (by obtain ⟨_, _, _, q, _⟩ := Rows.any hv; exact q) (hr _ (List.getElem_mem hk))
  obtain ⟨a, cap, rfl, hlen, hc⟩ := Rows.any h
  clear h hr
  generalize hA : brZ z [] L = A
  have hA0 : brZ z [] (L.drop 0) = A := hA
  have B0 : Ab ((w.alloc (.cells #[.int .i64 (z.g : Int), .int .i64 (z.d : Int), .int .i64 (z.t : Int), .int .i64 (z.c : Int), .int .i64 (z.v : Int)] 104)).alloc (.cells #[.bool false, .bool false, .bool false, .bool false, .bool false, .bool false, .bool false, .bool false, .bool false, .bool false, .bool false, .bool false, .bool false, .bool false, .bool false, .bool false] 188)) (w.heap.size + 1) [] := ⟨_, rfl, Has.new _ _ 188 (by simp), fun j hj => by simp at hj⟩
  have b0 : Below w.heap.size w ((w.alloc (.cells #[.int .i64 (z.g : Int), .int .i64 (z.d : Int), .int .i64 (z.t : Int), .int .i64 (z.c : Int), .int .i64 (z.v : Int)] 104)).alloc (.cells #[.bool false, .bool false, .bool false, .bool false, .bool false, .bool false, .bool false, .bool false, .bool false, .bool false, .bool false, .bool false, .bool false, .bool false, .bool false, .bool false] 188)) := ((Below.refl _ _).alloc (Nat.le_refl _) _).alloc (by simp) _
  have Z0 : Has ((w.alloc (.cells #[.int .i64 (z.g : Int), .int .i64 (z.d : Int), .int .i64 (z.t : Int), .int .i64 (z.c : Int), .int .i64 (z.v : Int)] 104)).alloc (.cells #[.bool false, .bool false, .bool false, .bool false, .bool false, .bool false, .bool false, .bool false, .bool false, .bool false, .bool false, .bool false, .bool false, .bool false, .bool false, .bool false] 188)) w.heap.size #[.int .i64 (z.g : Int), .int .i64 (z.d : Int), .int .i64 (z.t : Int), .int .i64 (z.c : Int), .int .i64 (z.v : Int)] := (Has.new _ _ _ rfl).alloc _
  clear hA
  go_enter Tryz.func69, Tryz.ntmps69
  go_upto_region 2 with fail
  generalize ((w.alloc (.cells #[.int .i64 (z.g : Int), .int .i64 (z.d : Int), .int .i64 (z.t : Int), .int .i64 (z.c : Int), .int .i64 (z.v : Int)] 104)).alloc (.cells #[.bool false, .bool false, .bool false, .bool false, .bool false, .bool false, .bool false, .bool false, .bool false, .bool false, .bool false, .bool false, .bool false, .bool false, .bool false, .bool false] 188)) = W0 at *
  go_wp2_with fail
  go_loopw [6, 11] (fun u i wr => ∃ (k n : Nat) (bs : List Bool), k ≤ L.length ∧ n ≤ 16 ∧ u = .int .i64 (n : Int) ∧ i = .int .i64 (k : Int) ∧ Hid (bs.length = n) ∧ Hid (brZ z bs (L.drop k) = A) ∧ Hid (Ab wr (w.heap.size + 1) bs) ∧ Hid (Has wr w.heap.size #[.int .i64 (z.g : Int), .int .i64 (z.d : Int), .int .i64 (z.t : Int), .int .i64 (z.c : Int), .int .i64 (z.v : Int)]) ∧ Hid (Below w.heap.size w wr)) (fun _ i _ => L.length - (intOf i).toNat)
  case atStart => exact ⟨0, 0, [], by omega, by omega, rfl, rfl, rfl, hA0, B0, Z0, b0⟩
  case round =>
    clear hA0 B0 b0 Z0
    obtain ⟨k, n, bs, hkl, hn, rfl, rfl, hbs', hq', Ba', Zb', hb'⟩ := hrel
    have hbs := hbs'.out
    have hq := hq'.out
    have Ba := Ba'.out
    have Zb := Zb'.out
    have hb := hb'.out
    clear hbs' hq' Ba' Zb' hb'
    by_cases hlt : k < L.length
    case neg =>
      have s1 : ¬ (k : Int) < (L.length : Int) := by omega
      rw [br_end z bs L k (by omega)] at hq
      by_cases n0 : n = 0
      · subst n0
        obtain rfl : A = true := by rw [← hq, hbs]; rfl
        clear hq hbs Ba
        go_wp2_with fail
        go_ret
        exact ⟨rfl, hb⟩
      · have D0 : ((n : Int) == 0) = false := by simp; omega
        obtain rfl : A = false := by rw [← hq, hbs]; simp [n0]
        clear hq hbs Ba
        go_wp2_with fail
        go_ret
        exact ⟨rfl, hb⟩
    case pos =>
      obtain ⟨g, o, rfl, _, hg, hx⟩ := hc.resolve_left (by intro e; rw [e] at hlt; simp at hlt)
      obtain ⟨cs, _, ⟨v', rfl, hv⟩, h3⟩ := hx k hlt
      obtain ⟨ea, ec, rfl, -⟩ := Rows.any hv
      have cS := kS k hlt ea ec hv
      obtain ⟨_, zb1, _⟩ := id Zb
      have p0 := (hb.cell (p := ⟨g, _, none⟩) hg).trans (h3 0 _ rfl)
      have p1 := (hb.cell (p := ⟨g, _, none⟩) hg).trans (h3 1 _ rfl)
      have p2 := (hb.cell (p := ⟨g, _, none⟩) hg).trans (h3 2 _ rfl)
      have p3 := (hb.cell (p := ⟨g, _, none⟩) hg).trans (h3 3 _ rfl)
      have p4 := (hb.cell (p := ⟨g, _, none⟩) hg).trans (h3 4 _ rfl)
      have p5 := (hb.cell (p := ⟨g, _, none⟩) hg).trans (h3 5 _ rfl)
      simp only [Nat.add_zero] at p0
      have hBad := br_bad z bs L k hlt
      have hIf := br_if z bs L k hlt
      have hElse := br_else z bs L k hlt
      have hFi := br_fi z bs L k hlt
      have hOn := br_on z bs L k hlt
      have s1 : (k : Int) < (L.length : Int) := by omega
      have s0 : (0 : Int) ≤ (k : Int) := by omega
      have tk : k + 1 ≤ L.length := hlt
      clear h3 hv hx hc kS
      generalize L[k] = x at *
      obtain ⟨kd, nm, ix, xe, ln, cl⟩ := x
      simp only at *
      have hbA := hb.alloc hb.size (.cells #[.int .i64 kd, .string nm, .int .i64 ix, .slice ea xe.length ec, .int .i64 ln, .int .i64 cl] 133)
      have hz : w.heap.size < wr.heap.size := by obtain ⟨_, _, q, _⟩ := Ba; have := q.1; omega
      cases hf : smB z ⟨kd, nm, ix, xe, ln, cl⟩ with
      | false =>
        rw [hf] at cS
        rw [hBad hf] at hq
        clear hBad hIf hElse hFi hOn
        subst hq
        go_wp2_with (go_at_call 97; (with_reducible refine Calls.mono (cS _ (by exact hbA)) ?_); rintro e w2 ⟨rfl, hb2⟩; have hbM := bel_after hbA hbA.size hb2; have K1 := Has.below (Has.new wr _ 133 rfl) hb2; obtain ⟨_, c1, _⟩ := id K1; have B2 := (Ba.alloc _).below hb2; have Zc := (Zb.alloc _).below hb2)
        go_ret
        exact ⟨rfl, hbM⟩
      | true =>
        rw [hf] at cS
        by_cases k7 : kd = 7
        · rw [hIf hf k7, hbs] at hq
          clear hBad hIf hElse hFi hOn
          subst k7
          by_cases n16 : n < 16
          · have D1 : ((n : Int) == 16) = false := by simp; omega
            have i0 : (0 : Int) ≤ (n : Int) := by omega
            have i1 : (n : Int) < 16 := by omega
            rw [decide_eq_true n16, Bool.true_and] at hq
            go_upto_region 12 with (go_at_call 97; (with_reducible refine Calls.mono (cS _ (by exact hbA)) ?_); rintro e w2 ⟨rfl, hb2⟩; have hbM := bel_after hbA hbA.size hb2; have K1 := Has.below (Has.new wr _ 133 rfl) hb2; obtain ⟨_, c1, _⟩ := id K1; have B2 := (Ba.alloc _).below hb2; have Zc := (Zb.alloc _).below hb2)
            obtain ⟨zz, zc⟩ := B2.some n16
            have zf := B2.frz n
            go_wp2_with fail
            have B3 := B2.push hbs n16 false
            have b3 : Below w.heap.size w (w2.setCell ⟨w.heap.size + 1, n, none⟩ (.bool false)) := bel_setM hbM
            go_roundw
            case rel => exact ⟨k + 1, n + 1, bs ++ [false], by omega, by omega, by go_num, by go_num, (by show _ = _; simp [hbs]), hq, B3, Zc.far (by omega) _, b3⟩
            case measure => simp [intOf]; omega
          · have e16 : n = 16 := by omega
            subst e16
            rw [decide_eq_false n16, Bool.false_and] at hq
            subst hq
            go_wp2_with (go_at_call 97; (with_reducible refine Calls.mono (cS _ (by exact hbA)) ?_); rintro e w2 ⟨rfl, hb2⟩; have hbM := bel_after hbA hbA.size hb2; have K1 := Has.below (Has.new wr _ 133 rfl) hb2; obtain ⟨_, c1, _⟩ := id K1; have B2 := (Ba.alloc _).below hb2; have Zc := (Zb.alloc _).below hb2)
            go_ret
            exact ⟨rfl, hbM⟩
        · have E7 : (kd == 7) = false := by simpa using k7
          by_cases k8 : kd = 8
          · rw [hElse hf k8, hbs] at hq
            clear hBad hIf hElse hFi hOn
            subst k8
            cases n with
            | zero =>
              simp only [Nat.lt_irrefl, decide_false, Bool.false_and] at hq
              subst hq
              go_wp2_with (go_at_call 97; (with_reducible refine Calls.mono (cS _ (by exact hbA)) ?_); rintro e w2 ⟨rfl, hb2⟩; have hbM := bel_after hbA hbA.size hb2; have K1 := Has.below (Has.new wr _ 133 rfl) hb2; obtain ⟨_, c1, _⟩ := id K1; have B2 := (Ba.alloc _).below hb2; have Zc := (Zb.alloc _).below hb2)
              go_ret
              exact ⟨rfl, hbM⟩
            | succ m =>
              have i0 : (0 : Int) ≤ (m : Int) := by omega
              have i1 : (m : Int) < 16 := by omega
              have lm : m < bs.length := by omega
              have D0 : (((m + 1 : Nat) : Int) == 0) = false := by simp; omega
              have D9 : ((m : Int) + 1 == 0) = false := by simp; omega
              simp only [Nat.zero_lt_succ, decide_true, Bool.true_and, Nat.add_sub_cancel] at hq
              rw [show bs.getD m true = bs[m] by simp [List.getD_eq_getElem?_getD, lm]] at hq
              cases hbm : bs[m] with
              | true =>
                rw [hbm] at hq
                simp only [Bool.not_true, Bool.false_and] at hq
                have Bc := fun (X : World) (hX : Ab X (w.heap.size + 1) bs) => hX.cell lm
                rw [hbm] at Bc
                subst hq
                go_upto_region 15 with (go_at_call 97; (with_reducible refine Calls.mono (cS _ (by exact hbA)) ?_); rintro e w2 ⟨rfl, hb2⟩; have hbM := bel_after hbA hbA.size hb2; have K1 := Has.below (Has.new wr _ 133 rfl) hb2; obtain ⟨_, c1, _⟩ := id K1; have B2 := (Ba.alloc _).below hb2; have Zc := (Zb.alloc _).below hb2)
                have zc := Bc _ B2
                go_wp2_with fail
                go_ret
                exact ⟨rfl, hbM⟩
              | false =>
                rw [hbm] at hq
                simp only [Bool.not_false, Bool.true_and] at hq
                have Bc := fun (X : World) (hX : Ab X (w.heap.size + 1) bs) => hX.cell lm
                rw [hbm] at Bc
                go_upto_region 15 with (go_at_call 97; (with_reducible refine Calls.mono (cS _ (by exact hbA)) ?_); rintro e w2 ⟨rfl, hb2⟩; have hbM := bel_after hbA hbA.size hb2; have K1 := Has.below (Has.new wr _ 133 rfl) hb2; obtain ⟨_, c1, _⟩ := id K1; have B2 := (Ba.alloc _).below hb2; have Zc := (Zb.alloc _).below hb2)
                have zc := Bc _ B2
                have zf := B2.frz m
                go_wp2_with fail
                have B3 := B2.mark lm true
                have b3 : Below w.heap.size w (w2.setCell ⟨w.heap.size + 1, m, none⟩ (.bool true)) := bel_setM hbM
                go_roundw
                case rel => exact ⟨k + 1, m + 1, bs.set m true, by omega, by omega, by go_num, by go_num, (by show _ = _; simp [hbs]), hq, B3, Zc.far (by omega) _, b3⟩
                case measure => simp [intOf]; omega
          · have E8 : (kd == 8) = false := by simpa using k8
            by_cases k9 : kd = 9
            · rw [hFi hf k9, hbs] at hq
              clear hBad hIf hElse hFi hOn
              subst k9
              cases n with
              | zero =>
                simp only [Nat.lt_irrefl, decide_false, Bool.false_and] at hq
                subst hq
                go_wp2_with (go_at_call 97; (with_reducible refine Calls.mono (cS _ (by exact hbA)) ?_); rintro e w2 ⟨rfl, hb2⟩; have hbM := bel_after hbA hbA.size hb2; have K1 := Has.below (Has.new wr _ 133 rfl) hb2; obtain ⟨_, c1, _⟩ := id K1; have B2 := (Ba.alloc _).below hb2; have Zc := (Zb.alloc _).below hb2)
                go_ret
                exact ⟨rfl, hbM⟩
              | succ m =>
                have D0 : (((m + 1 : Nat) : Int) == 0) = false := by simp; omega
                have D9 : ((m : Int) + 1 == 0) = false := by simp; omega
                simp only [Nat.zero_lt_succ, decide_true, Bool.true_and, Nat.add_sub_cancel] at hq
                go_wp2_with (go_at_call 97; (with_reducible refine Calls.mono (cS _ (by exact hbA)) ?_); rintro e w2 ⟨rfl, hb2⟩; have hbM := bel_after hbA hbA.size hb2; have K1 := Has.below (Has.new wr _ 133 rfl) hb2; obtain ⟨_, c1, _⟩ := id K1; have B2 := (Ba.alloc _).below hb2; have Zc := (Zb.alloc _).below hb2)
                have B3 := B2.pop m
                go_roundw
                case rel => exact ⟨k + 1, m, bs.take m, by omega, by omega, by go_num, by go_num, (by show _ = _; simp; omega), hq, B3, Zc, hbM⟩
                case measure => simp [intOf]; omega
            · have E9 : (kd == 9) = false := by simpa using k9
              rw [hOn hf k7 k8 k9] at hq
              clear hBad hIf hElse hFi hOn
              go_wp2_with (go_at_call 97; (with_reducible refine Calls.mono (cS _ (by exact hbA)) ?_); rintro e w2 ⟨rfl, hb2⟩; have hbM := bel_after hbA hbA.size hb2; have K1 := Has.below (Has.new wr _ 133 rfl) hb2; obtain ⟨_, c1, _⟩ := id K1; have B2 := (Ba.alloc _).below hb2; have Zc := (Zb.alloc _).below hb2)
              go_roundw
              case rel => exact ⟨k + 1, n, bs, by omega, by omega, by go_num, by go_num, hbs, hq, B2, Zc, hbM⟩
              case measure => simp [intOf]; omega
end Go.Proofs.YtnicolaphmffkaaGreatDoor
