import Derived.Test.YtjfieclmagbfbaaGreatDoorTlC
set_option linter.unusedVariables false
set_option linter.unusedSimpArgs false
namespace Go.Proofs.YtjfieclmagbfbaaGreatDoor
open Go.RowKit
/-- A list read with its places. -/
def fm {α β : Type} (f : Nat → α → List β) : Nat → List α → List β
  | _, [] => []
  | k, x :: L => f k x ++ fm f (k + 1) L
theorem fm_nil {α β : Type} (f : Nat → α → List β) : ∀ (L : List α) (k : Nat), (∀ (j : Nat) (h : j < L.length), f (k + j) L[j] = []) → fm f k L = []
  | [], _, _ => rfl
  | x :: L, k, h => by
    have h0 := h 0 (by simp)
    have h1 := fm_nil f L (k + 1) (fun j hj => by have := h (j + 1) (by simpa using hj); rw [show k + 1 + j = k + (j + 1) by omega]; simpa using this)
    show f k x ++ fm f (k + 1) L = []
    rw [h1]; simpa using h0
theorem fm_one {α β : Type} (f : Nat → α → List β) : ∀ (L : List α) (k i : Nat) (hi : i < L.length), (∀ (j : Nat) (h : j < L.length), j ≠ i → f (k + j) L[j] = []) → fm f k L = f (k + i) L[i]
  | x :: L, k, 0, _, h => by
    have h1 := fm_nil f L (k + 1) (fun j hj => by have := h (j + 1) (by simpa using hj) (by omega); rw [show k + 1 + j = k + (j + 1) by omega]; simpa using this)
    show f k x ++ fm f (k + 1) L = _
    rw [h1]; simp
  | x :: L, k, i + 1, hi, h => by
    have h0 := h 0 (by simp) (by omega)
    have h1 := fm_one f L (k + 1) i (by simpa using hi) (fun j hj ne => by have := h (j + 1) (by simpa using hj) (by omega); rw [show k + 1 + j = k + (j + 1) by omega]; simpa using this)
    show f k x ++ fm f (k + 1) L = _
    rw [h1, show k + 1 + i = k + (i + 1) by omega]
    simp only [Nat.add_zero, List.getElem_cons_zero] at h0
    rw [h0]; simp
theorem ln_fm : ∀ (G : List Gp) (k : Nat), lnF k G = fm lnX k G
  | [], _ => rfl
  | g :: G, k => by show lnX k g ++ _ = lnX k g ++ _; rw [ln_fm G (k + 1)]
theorem tr_fm (R : List Bool) : ∀ (L : List Ts) (k : Nat), trF R k L = fm (fun k s => if sn R k = true ∧ s.nexts.length = 0 then [⟨65, k, -1, -1⟩] else []) k L
  | [], _ => rfl
  | g :: G, k => by show _ ++ _ = _ ++ _; rw [tr_fm R G (k + 1)]
theorem ne_fm (U : Nat) : ∀ (L : List Gp) (k : Nat), neF U k L = fm (fun k _ => if hasN U k = true then [] else [⟨66, -1, k, -1⟩]) k L
  | [], _ => rfl
  | g :: G, k => by show _ ++ _ = _ ++ _; rw [ne_fm U G (k + 1)]
theorem sc_fm (C : List Cf) : ∀ (L : List Ts) (k : Nat), scF C k L = fm (fun k s => scX k s.green.toNat C) k L
  | [], _ => rfl
  | g :: G, k => by show _ ++ _ = _ ++ _; rw [sc_fm C G (k + 1)]
theorem sh_fm (G : List Gp) : ∀ (C : List Cf) (k : Nat), shL G C = fm (fun _ c => shX G c) k C
  | [], _ => rfl
  | c :: C, k => by show _ ++ _ = _ ++ _; rw [sh_fm G C (k + 1)]
theorem sl_app (Q : List Bool) (lp : Int → Int → Int) : ∀ (L M : List (Int × Int)), slF Q lp (L ++ M) = slF Q lp L ++ slF Q lp M
  | [], M => rfl
  | x :: L, M => by show slX Q lp x ++ slF Q lp (L ++ M) = (slX Q lp x ++ slF Q lp L) ++ _; rw [sl_app Q lp L M, List.append_assoc]
theorem sl_fm (Q : List Bool) (lp : Int → Int → Int) (R : List Bool) : ∀ (L : List Ts) (k : Nat), slF Q lp (mvsF R k L) = fm (fun k s => slF Q lp (if sn R k = true then mvS k s.nexts else [])) k L
  | [], _ => rfl
  | g :: G, k => by show slF Q lp (_ ++ _) = _ ++ _; rw [sl_app, sl_fm Q lp R G (k + 1)]
theorem sl_nil (Q : List Bool) (lp : Int → Int → Int) (h : ∀ x y, lp x y ≤ 3600) : ∀ L : List (Int × Int), slF Q lp L = []
  | [] => rfl
  | x :: L => by
    have e : slX Q lp x = [] := by
      have := h x.1 x.2
      unfold slX
      split
      · rfl
      · rw [if_neg (by omega)]
    show slX Q lp x ++ _ = []
    rw [e, sl_nil Q lp h L]; rfl
/-- All that is shown. -/
theorem us_mono (R : List Bool) (j : Nat) : ∀ (L : List Ts) (k M : Nat), M.testBit j = true → (usK R k L M).testBit j = true
  | [], _, _, h => h
  | s :: L, k, M, h => us_mono R j L (k + 1) _ (by split <;> simp [h])
theorem us_one (R : List Bool) (j : Nat) : ∀ (L : List Ts) (k M i : Nat) (hi : i < L.length), sn R (k + i) = true → L[i].green.toNat.testBit j = true → (usK R k L M).testBit j = true
  | s :: L, k, M, 0, _, hr, hb => us_mono R j L (k + 1) _ (by rw [Nat.add_zero] at hr; rw [if_pos hr]; simp at hb; simp [hb])
  | s :: L, k, M, i + 1, hi, hr, hb => us_one R j L (k + 1) _ i (by simpa using hi) (by rw [show k + 1 + i = k + (i + 1) by omega]; exact hr) (by simpa using hb)
theorem us_none (R : List Bool) (j : Nat) : ∀ (L : List Ts) (k M : Nat), M.testBit j = false → (∀ s ∈ L, s.green.toNat.testBit j = false) → (usK R k L M).testBit j = false
  | [], _, _, h, _ => h
  | s :: L, k, M, h, hs => us_none R j L (k + 1) _ (by have := hs s (by simp); split <;> simp [h, this]) (fun t ht => hs t (by simp [ht]))
theorem hasN_nat (M j : Nat) (h : j < 64) : hasN M (j : Int) = M.testBit j := by
  unfold hasN
  have : (j : Int) < 64 := by omega
  simp [this]
theorem hasN_two {i : Nat} {g : Int} (h : hasN (2 ^ i) g = true) : g = (i : Int) := by
  unfold hasN at h
  simp [Nat.testBit_two_pow] at h
  omega
/-- A mask of one group has no conflict. -/
theorem hit_two (n i : Nat) (c : Cf) (h : c.a ≠ c.b) : hit n (2 ^ i) c = false := by
  cases e : hit n (2 ^ i) c with
  | false => rfl
  | true =>
    unfold hit at e
    simp only [Bool.and_eq_true] at e
    exact absurd ((hasN_two e.1.1).trans (hasN_two e.2.1).symm) h
theorem clash_no (n M : Nat) : ∀ C : List Cf, (∀ c ∈ C, hit n M c = false) → (clashF n M C).2.2 = false
  | [], _ => rfl
  | c :: C, h => by
    unfold clashF
    rw [h c (by simp), if_neg (by decide)]
    exact clash_no n M C (fun d hd => h d (by simp [hd]))
theorem sc_no (k M : Nat) : ∀ C : List Cf, (∀ c ∈ C, (hasN M c.a && hasN M c.b) = false) → scX k M C = []
  | [], _ => rfl
  | c :: C, h => by
    unfold scX
    rw [h c (by simp), sc_no k M C (fun d hd => h d (by simp [hd]))]; rfl
theorem sc_two (k i : Nat) (C : List Cf) (h : ∀ c ∈ C, c.a ≠ c.b) : scX k (2 ^ i) C = [] := by
  refine sc_no k _ C fun c hc => ?_
  cases e : (hasN (2 ^ i) c.a && hasN (2 ^ i) c.b) with
  | false => rfl
  | true =>
    simp only [Bool.and_eq_true] at e
    exact absurd ((hasN_two e.1).trans (hasN_two e.2).symm) (h c hc)
theorem pr_mem {n : Nat} {p : Int × Int} : p ∈ prL n ↔ ∃ a b : Nat, p = ((a : Int), (b : Int)) ∧ a < b ∧ b < n := by
  unfold prL prM rwL
  simp only [List.mem_flatMap, List.mem_map, List.mem_range]
  constructor
  · rintro ⟨a, ha, d, hd, rfl⟩; exact ⟨a, a + 1 + d, rfl, by omega, by omega⟩
  · rintro ⟨a, b, rfl, h1, h2⟩; exact ⟨a, by omega, b - 1 - a, by omega, by rw [show a + 1 + (b - 1 - a) = b by omega]⟩
theorem pr_in {n : Nat} {C : List Cf} (h : C.map pr = prL n) (c : Cf) (hc : c ∈ C) : ∃ a b : Nat, c.a = (a : Int) ∧ c.b = (b : Int) ∧ a < b ∧ b < n := by
  have : pr c ∈ prL n := by rw [← h]; exact List.mem_map_of_mem hc
  obtain ⟨a, b, e, h1, h2⟩ := pr_mem.1 this
  injection e with e1 e2
  exact ⟨a, b, e1, e2, h1, h2⟩
theorem pr_has {n : Nat} {C : List Cf} (h : C.map pr = prL n) (a b : Nat) (h1 : a < b) (h2 : b < n) : ∃ c ∈ C, c.a = (a : Int) ∧ c.b = (b : Int) := by
  have : ((a : Int), (b : Int)) ∈ C.map pr := by rw [h]; exact pr_mem.2 ⟨a, b, rfl, h1, h2⟩
  obtain ⟨c, hc, e⟩ := List.mem_map.1 this
  injection e with e1 e2
  exact ⟨c, hc, e1, e2⟩
theorem pr_ne {n : Nat} {C : List Cf} (h : C.map pr = prL n) (c : Cf) (hc : c ∈ C) : c.a ≠ c.b := by
  obtain ⟨a, b, e1, e2, h1, h2⟩ := pr_in h c hc
  omega
/-- Rows in order, by their pairs. -/
def ordQ (p : Option (Int × Int)) (c : Int × Int) : Bool := match p with
  | none => true
  | some b => decide (b.1 < c.1) || (decide (b.1 = c.1) && decide (b.2 < c.2))
def rowsP : Option (Int × Int) → List (Int × Int) → Bool
  | _, [] => true
  | p, c :: cs => ordQ p c && rowsP (some c) cs
theorem rows_P (n : Nat) : ∀ (C : List Cf) (q : Option Cf), (∀ c ∈ C, cfB n c = true) → rowsB n q C = rowsP (q.map pr) (C.map pr)
  | [], _, _ => by cases ‹Option Cf› <;> rfl
  | c :: C, q, h => by
    have e : ordP q c = ordQ (q.map pr) (pr c) := by cases q <;> rfl
    show ((cfB n c && ordP q c) && rowsB n (some c) C) = (ordQ (q.map pr) (pr c) && rowsP (some (pr c)) (C.map pr))
    rw [h c (by simp), rows_P n C (some c) (fun d hd => h d (by simp [hd])), e]
    rfl
theorem rowsP_all : ∀ n, n < 27 → rowsP none (prL n) = true := by decide +kernel
/-- Rows of these pairs with times are rows. -/
theorem rows_pr {n : Nat} {C : List Cf} (hn : n < 27) (h : C.map pr = prL n) (ht : ∀ c ∈ C, (timeB c.ab && timeB c.ba) = true) : rowsB n none C = true := by
  rw [rows_P n C none, h]
  · exact rowsP_all n hn
  · intro c hc
    obtain ⟨a, b, e1, e2, h1, h2⟩ := pr_in h c hc
    unfold cfB
    rw [ht c hc, e1, e2]
    simp; omega
/-- Intergreens. -/
theorem inter_le {o y B : Int} (hB : 0 ≤ B) : ∀ C : List Cf, (∀ c ∈ C, (c.a = o ∧ c.b = y → c.ab ≤ B) ∧ (c.a = y ∧ c.b = o → c.ba ≤ B)) → (interF C o y).1 ≤ B
  | [], _ => hB
  | c :: C, h => by
    unfold interF
    split
    · next e => exact (h c (by simp)).1 e
    · split
      · next e => exact (h c (by simp)).2 e
      · exact inter_le hB C (fun d hd => h d (by simp [hd]))
theorem inter_eq {o y V : Int} : ∀ C : List Cf, (∀ c ∈ C, (c.a = o ∧ c.b = y → c.ab = V) ∧ (c.a = y ∧ c.b = o → c.ba = V)) → (∃ c ∈ C, (c.a = o ∧ c.b = y) ∨ (c.a = y ∧ c.b = o)) → interF C o y = (V, true)
  | [], _, h => by obtain ⟨c, hc, _⟩ := h; cases hc
  | c :: C, h, hx => by
    unfold interF
    split
    · next e => rw [(h c (by simp)).1 e]
    · next e1 =>
      split
      · next e => rw [(h c (by simp)).2 e]
      · next e2 =>
        refine inter_eq C (fun d hd => h d (by simp [hd])) ?_
        obtain ⟨d, hd, e⟩ := hx
        rcases List.mem_cons.1 hd with rfl | hd
        · exact absurd e (by rintro (q | q); exact e1 q; exact e2 q)
        · exact ⟨d, hd, e⟩
theorem wait_le {x : Gp} {C : List Cf} {o g B : Int} (hB : 0 ≤ B) (h1 : x.amber ≤ B) (h2 : (interF C o g).1 ≤ B) : waitV x C o g ≤ B := by
  unfold waitV
  split
  · split <;> omega
  · exact hB
theorem ws_le {G : List Gp} {C : List Cf} {k : Nat} {B : Int} (hB : 0 ≤ B) (h : ∀ (o : Nat) (ho : o < G.length), waitV G[o] C (o : Int) (k : Int) ≤ B) : wsA G C k ≤ B := by
  unfold wsA
  rcases (wA_max C (2 ^ min G.length 64 - 1) (k : Int) G 0 0).2.2 with e | ⟨i, hi, _, e⟩
  · rw [e]; exact hB
  · rw [e]; simpa using h i hi
theorem ws_ge {G : List Gp} {C : List Cf} {k o : Nat} (ho : o < G.length) (h64 : G.length ≤ 64) : waitV G[o] C (o : Int) (k : Int) ≤ wsA G C k := by
  have hm : hasN (2 ^ min G.length 64 - 1) ((0 + o : Nat) : Int) = true := by
    rw [Nat.zero_add, hasN_nat _ _ (by omega), Nat.testBit_two_pow_sub_one]
    simp; omega
  have := (wA_max C (2 ^ min G.length 64 - 1) (k : Int) G 0 0).2.1 o ho hm
  simpa [wsA] using this
theorem th_ge (F T : Nat) (ws : Nat → Int) : ∀ (G : List Gp) (k : Nat) (n : Int), n ≤ thF F T ws G k n
  | [], _, _ => Int.le_refl _
  | x :: xs, k, n => by
    refine Int.le_trans ?_ (th_ge F T ws xs (k + 1) _)
    split
    · split <;> omega
    · split
      · split <;> omega
      · omega
theorem th_le (F T : Nat) (ws : Nat → Int) (B : Int) : ∀ (G : List Gp) (k : Nat) (n : Int), n ≤ B → (∀ (j : Nat) (h : j < G.length), 1 + G[j].amber ≤ B ∧ (loses T F (k + j) = true → 1 + ws (k + j) + G[j].lead ≤ B)) → thF F T ws G k n ≤ B
  | [], _, _, hn, _ => hn
  | x :: xs, k, n, hn, h => by
    have h0 := h 0 (by simp)
    simp only [List.getElem_cons_zero, Nat.add_zero] at h0
    refine th_le F T ws B xs (k + 1) _ ?_ (fun j hj => by have := h (j + 1) (by simpa using hj); rw [show k + 1 + j = k + (j + 1) by omega]; simpa using this)
    split
    · split <;> omega
    · split
      · next e => have := h0.2 e; split <;> omega
      · exact hn
theorem th_at (F T : Nat) (ws : Nat → Int) (G : List Gp) : ∀ (k : Nat) (n : Int) (j : Nat) (h : j < G.length), loses T F (k + j) = true → 1 + ws (k + j) + G[j].lead ≤ thF F T ws G k n := by
  induction G with
  | nil => intro k n j h; simp at h
  | cons x xs ih =>
    intro k n j hj hl
    cases j with
    | zero =>
      rw [Nat.add_zero] at hl ⊢
      have e : loses F T k = false := by simp [loses] at hl ⊢; simp [hl]
      unfold thF
      refine Int.le_trans ?_ (th_ge F T ws xs (k + 1) _)
      rw [e, hl, if_neg (by decide), if_pos rfl]
      simp only [List.getElem_cons_zero]
      split <;> omega
    | succ j =>
      unfold thF
      have := ih (k + 1) (if loses F T k = true then (if n < 1 + x.amber then 1 + x.amber else n) else if loses T F k = true then (if n < 1 + ws k + x.lead then 1 + ws k + x.lead else n) else n) j (by simpa using hj) (by rw [show k + 1 + j = k + (j + 1) by omega]; exact hl)
      rw [show k + 1 + j = k + (j + 1) by omega] at this
      simpa only [List.getElem_cons_succ] using this
theorem gL_len (n : Nat) (am : Int) : (gL n am).length = n := by simp [gL]
theorem sL_len (n : Nat) : (sL n).length = n := by simp [sL]
theorem gS_len (n : Nat) (am : Int) (i : Nat) (y : Gp) : ((gL n am).set i y).length = n := by simp [gL]
theorem sS_len (n : Nat) (i : Nat) (y : Ts) : ((sL n).set i y).length = n := by simp [sL]
theorem gS_at {n : Nat} {am : Int} {i : Nat} {y : Gp} (j : Nat) (h : j < ((gL n am).set i y).length) : ((gL n am).set i y)[j] = if i = j then y else gN am j := by
  rw [List.getElem_set]; simp [gL]
theorem sS_at {n : Nat} {i : Nat} {y : Ts} (j : Nat) (h : j < ((sL n).set i y).length) : ((sL n).set i y)[j] = if i = j then y else sN n j := by
  rw [List.getElem_set]; simp [sL]
theorem gL_self {n : Nat} {am : Int} {i : Nat} (h : i < n) : (gL n am).set i (gN am i) = gL n am := by
  have := @List.set_getElem_self _ (gL n am) i (by rw [gL_len]; exact h)
  simpa [gL] using this
theorem sL_self {n i : Nat} (h : i < n) : (sL n).set i (sN n i) = sL n := by
  have := @List.set_getElem_self _ (sL n) i (by rw [sL_len]; exact h)
  simpa [sL] using this
theorem lnX_u {am : Int} (h : 3 ≤ am) (k j : Nat) : lnX k (gN am j) = [] := by
  rcases (by omega : (j : Int) % 2 = 0 ∨ (j : Int) % 2 = 1) with e | e
  · simp [lnX, gN, e, ndM, ndA]; omega
  · simp [lnX, gN, e, ndM, ndA]; omega
/-- One group, one stage turned. -/
structure Tu (n : Nat) (am : Int) (i : Nat) (y : Gp) (k : Nat) (z : Ts) : Prop where
  n2 : 2 ≤ n
  n26 : n ≤ 26
  a3 : 3 ≤ am
  a60 : am ≤ 60
  hi : i < n
  hk : k < n
  y1 : 0 ≤ y.amber
  y2 : y.amber ≤ am
  y3 : 0 ≤ y.lead
  y4 : y.lead ≤ 4
theorem Tu.ln {n : Nat} {am : Int} {i : Nat} {y : Gp} {k : Nat} {z : Ts} (h : Tu n am i y k z) : lnF 0 ((gL n am).set i y) = lnX i y := by
  rw [ln_fm, fm_one lnX _ 0 i (by rw [gS_len]; exact h.hi)]
  · rw [gS_at, if_pos rfl, Nat.zero_add]
  · intro j hj ne
    rw [gS_at, if_neg (fun e => ne e.symm)]
    exact lnX_u h.a3 _ j
theorem Tu.sc {n : Nat} {am : Int} {i : Nat} {y : Gp} {k : Nat} {z : Ts} (h : Tu n am i y k z) {C : List Cf} (hC : C.map pr = prL n) : scF C 0 ((sL n).set k z) = scX k z.green.toNat C := by
  rw [sc_fm, fm_one _ _ 0 k (by rw [sS_len]; exact h.hk)]
  · rw [sS_at, if_pos rfl, Nat.zero_add]
  · intro j hj ne
    rw [sS_at, if_neg (fun e => ne e.symm)]
    show scX _ ((2 ^ j : Nat) : Int).toNat C = []
    rw [Int.toNat_natCast]
    exact sc_two _ _ _ (pr_ne hC)
theorem Tu.tr {n : Nat} {am : Int} {i : Nat} {y : Gp} {k : Nat} {z : Ts} (h : Tu n am i y k z) {R : List Bool} (hR : ∀ j, j < n → sn R j = true) : trF R 0 ((sL n).set k z) = if z.nexts.length = 0 then [⟨65, k, -1, -1⟩] else [] := by
  rw [tr_fm, fm_one _ _ 0 k (by rw [sS_len]; exact h.hk)]
  · rw [sS_at, if_pos rfl, Nat.zero_add, hR k h.hk]; simp
  · intro j hj ne
    have e : ((sL n).set k z)[j] = sN n j := by rw [sS_at, if_neg (fun e => ne e.symm)]
    show (if sn R (0 + j) = true ∧ ((sL n).set k z)[j].nexts.length = 0 then _ else _) = []
    rw [e]
    exact if_neg (by simp [sN])
theorem Tu.us {n : Nat} {am : Int} {i : Nat} {y : Gp} {k : Nat} {z : Ts} (h : Tu n am i y k z) {R : List Bool} (hR : ∀ j, j < n → sn R j = true) (j : Nat) (hj : j < n) (hb : j = k → z.green.toNat.testBit k = true) : hasN (usK R 0 ((sL n).set k z) 0) (j : Int) = true := by
  have := h.n26
  rw [hasN_nat _ _ (by omega)]
  refine us_one R j _ 0 0 j (by rw [sS_len]; exact hj) (by rw [Nat.zero_add]; exact hR j hj) ?_
  rw [sS_at]
  split
  · next e => subst e; exact hb rfl
  · show ((2 ^ j : Nat) : Int).toNat.testBit j = true
    rw [Int.toNat_natCast, Nat.testBit_two_pow]; simp
theorem Tu.ne0 {n : Nat} {am : Int} {i : Nat} {y : Gp} {k : Nat} {z : Ts} (h : Tu n am i y k z) {R : List Bool} (hR : ∀ j, j < n → sn R j = true) (hb : z.green.toNat.testBit k = true) : neF (usK R 0 ((sL n).set k z) 0) 0 ((gL n am).set i y) = [] := by
  rw [ne_fm]
  refine fm_nil _ _ 0 fun j hj => ?_
  rw [gS_len] at hj
  rw [Nat.zero_add, if_pos (h.us hR j hj (fun _ => hb))]
theorem Tu.ne1 {n : Nat} {am : Int} {i : Nat} {y : Gp} {k : Nat} {z : Ts} (h : Tu n am i y k z) {R : List Bool} (hR : ∀ j, j < n → sn R j = true) (hb : z.green = 0) : neF (usK R 0 ((sL n).set k z) 0) 0 ((gL n am).set i y) = [⟨66, -1, k, -1⟩] := by
  have hn := h.n26
  have hk := h.hk
  rw [ne_fm, fm_one _ _ 0 k (by rw [gS_len]; exact hk)]
  · rw [Nat.zero_add, if_neg]
    rw [hasN_nat _ _ (by omega), us_none R k _ 0 0 (by simp)]
    · decide
    · intro s hs
      obtain ⟨j, hj, rfl⟩ := List.getElem_of_mem hs
      rw [sS_at]
      split
      · rw [hb]; simp
      · next e =>
        show ((2 ^ j : Nat) : Int).toNat.testBit k = false
        rw [Int.toNat_natCast, Nat.testBit_two_pow]
        simp; omega
  · intro j hj ne
    rw [gS_len] at hj
    rw [Nat.zero_add, if_pos (h.us hR j hj (fun e => absurd e ne))]
theorem Tu.amb {n : Nat} {am : Int} {i : Nat} {y : Gp} {k : Nat} {z : Ts} (h : Tu n am i y k z) (x : Int) : amb ((gL n am).set i y) x ≤ am := by
  have := h.a3
  have := h.y2
  unfold Go.Proofs.YtjfieclmagbfbaaGreatDoor.amb
  by_cases hx : x.toNat < ((gL n am).set i y).length
  · rw [List.getElem?_eq_getElem hx, gS_at]
    simp only [Option.map_some, Option.getD_some]
    split
    · omega
    · exact Int.le_refl _
  · rw [List.getElem?_eq_none (by omega)]
    simp; omega
theorem Tu.ig0 {n : Nat} {am : Int} {i : Nat} {y : Gp} {k : Nat} {z : Ts} (h : Tu n am i y k z) {C : List Cf} (hc : ∀ c ∈ C, am ≤ c.ab ∧ am ≤ c.ba) : igF (shL ((gL n am).set i y) C) = [] := by
  rw [sh_fm _ C 0, fm_nil]
  · rfl
  · intro j hj
    have h1 := h.amb C[j].a
    have h2 := h.amb C[j].b
    have h3 := hc C[j] (List.getElem_mem hj)
    unfold shX
    rw [if_neg (by omega), if_neg (by omega)]; rfl
theorem gp_in {n : Nat} {am : Int} {i : Nat} {y : Gp} {k : Nat} {z : Ts} (h : Tu n am i y k z) (j : Nat) (hj : j < ((gL n am).set i y).length) : ((gL n am).set i y)[j].amber ≤ am ∧ ((gL n am).set i y)[j].lead ≤ 4 := by
  rw [gS_at]
  split
  · exact ⟨h.y2, h.y4⟩
  · exact ⟨Int.le_refl _, by simp [gN]⟩
/-- No wait for a group is too long. -/
theorem Tu.ws {n : Nat} {am : Int} {i : Nat} {y : Gp} {k : Nat} {z : Ts} (h : Tu n am i y k z) {C : List Cf} (g : Nat) (hc : ∀ c ∈ C, ∀ o : Int, (c.a = o ∧ c.b = g → c.ab ≤ 3060) ∧ (c.a = g ∧ c.b = o → c.ba ≤ 3060)) : wsA ((gL n am).set i y) C g ≤ 3060 := by
  have := h.a60
  refine ws_le (by omega) fun o ho => wait_le (by omega) ?_ (inter_le (by omega) C fun c hcc => hc c hcc o)
  have := (gp_in h o ho).1
  omega
theorem Tu.sl0 {n : Nat} {am : Int} {i : Nat} {y : Gp} {k : Nat} {z : Ts} (h : Tu n am i y k z) {C : List Cf} (hc : ∀ c ∈ C, c.ab ≤ 3060 ∧ c.ba ≤ 3060) (Q : List Bool) (SG : List Ts) (L : List (Int × Int)) : slF Q (lpA ((gL n am).set i y) C SG) L = [] := by
  have := h.a60
  refine sl_nil Q _ (fun x t => ?_) L
  refine th_le _ _ _ 3600 _ 0 0 (by omega) fun j hj => ?_
  have h1 := gp_in h j hj
  have h2 := h.ws (0 + j) fun c hcc o => ⟨fun _ => (hc c hcc).1, fun _ => (hc c hcc).2⟩
  exact ⟨by omega, fun _ => by omega⟩
theorem Tu.sc0 {n : Nat} {C : List Cf} (hC : C.map pr = prL n) (j k : Nat) : scX k ((2 ^ j : Nat) : Int).toNat C = [] := by
  rw [Int.toNat_natCast]; exact sc_two _ _ _ (pr_ne hC)
theorem two_bit (j : Nat) : ((2 ^ j : Nat) : Int).toNat.testBit j = true := by rw [Int.toNat_natCast, Nat.testBit_two_pow]; simp
/-- All stages are reached. -/
theorem all_reached {SG : List Ts} {R : List Bool} {st : Nat} (hr : RI (waysL SG).length 0 (goN (waysL SG)) R []) (h : ∀ (k : Nat) (hk : k < SG.length), k + 1 < SG.length → ∃ x ∈ SG[k].nexts, x.dst.toNat = k + 1) : ∀ j, j < SG.length → sn R j = true
  | 0, _ => hr.beg
  | j + 1, hj => by
    have ih := all_reached (st := st) hr h j (by omega)
    rcases hr.cl j ih with e | e
    · cases e
    · obtain ⟨x, hx, ex⟩ := h j (by omega) hj
      refine e (j + 1) ?_
      unfold goN waysL
      rw [List.getD_eq_getElem?_getD, List.getElem?_map, List.getElem?_eq_getElem (by omega : j < SG.length)]
      simp only [Option.map_some, Option.getD_some]
      exact List.mem_map.2 ⟨x, hx, ex⟩
theorem Tu.reach {n : Nat} {am : Int} {i : Nat} {y : Gp} {k : Nat} {z : Ts} (h : Tu n am i y k z) {R : List Bool} (hr : RI (waysL ((sL n).set k z)).length 0 (goN (waysL ((sL n).set k z))) R []) (hz : k + 1 < n → ∃ x ∈ z.nexts, x.dst.toNat = k + 1) : ∀ j, j < n → sn R j = true := by
  intro j hj
  refine all_reached (st := 0) hr (fun m hm h1 => ?_) j (by rw [sS_len]; exact hj)
  rw [sS_len] at h1
  rw [sS_at]
  split
  · next e => subst e; exact hz h1
  · refine ⟨_, List.mem_singleton.2 rfl, ?_⟩
    show ((((m + 1) % n : Nat) : Int)).toNat = m + 1
    rw [Int.toNat_natCast, Nat.mod_eq_of_lt h1]
/-- Just the pair of two groups. -/
theorem sc_pair {n : Nat} {C : List Cf} (k : Nat) (M : Nat) (a b : Nat) (hab : a < b) (hb : b < n) (hn : n ≤ 26) (hM : ∀ g, g < n → (M.testBit g = true ↔ g = a ∨ g = b)) (hC : C.map pr = prL n) : scX k M C = [⟨60, k, a, b⟩] := by
  have e1 : ∀ (L : List Cf) , scX k M L = (L.map pr).flatMap fun p => if (hasN M p.1 && hasN M p.2) = true then [(⟨60, k, p.1, p.2⟩ : Fd)] else [] := by
    intro L
    induction L with
    | nil => rfl
    | cons c L ih => unfold scX; rw [ih]; rfl
  have fl : ∀ (m : Nat) (f : Nat → List Fd) (j : Nat), j < m → (∀ i, i < m → i ≠ j → f i = []) → (List.range m).flatMap f = f j := by
    intro m
    induction m with
    | zero => intro f j h; omega
    | succ m ih =>
      intro f j hj h
      rw [List.range_succ, List.flatMap_append]
      by_cases e : j = m
      · subst e
        have : (List.range j).flatMap f = [] := List.flatMap_eq_nil_iff.2 fun x hx => h x (by have := List.mem_range.1 hx; omega) (by have := List.mem_range.1 hx; omega)
        rw [this]; simp
      · rw [ih f j (by omega) (fun i hi ne => h i (by omega) ne)]
        have := h m (by omega) (fun e2 => e e2.symm)
        simp [this]
  have hb' : ∀ g, g < n → (hasN M (g : Int) = true ↔ g = a ∨ g = b) := fun g hg => by rw [hasN_nat _ _ (by omega)]; exact hM g hg
  rw [e1, hC]
  unfold prL prM
  rw [List.flatMap_assoc, fl n _ a (by omega)]
  · unfold rwL
    rw [List.flatMap_map, fl (n - 1 - a) _ (b - 1 - a) (by omega)]
    · have : a + 1 + (b - 1 - a) = b := by omega
      simp only [this]
      rw [if_pos]
      rw [(hb' a (by omega)).2 (.inl rfl), (hb' b hb).2 (.inr rfl)]; rfl
    · intro d hd ne
      refine if_neg fun e => ?_
      simp only [Bool.and_eq_true] at e
      rcases (hb' (a + 1 + d) (by omega)).1 e.2 with q | q <;> omega
  · intro x hx ne
    refine List.flatMap_eq_nil_iff.2 fun p hp => ?_
    unfold rwL at hp
    obtain ⟨d, hd, rfl⟩ := List.mem_map.1 hp
    have hd := List.mem_range.1 hd
    refine if_neg fun e => ?_
    simp only [Bool.and_eq_true] at e
    rcases (hb' x hx).1 e.1 with q | q
    · exact ne q
    · rcases (hb' (x + 1 + d) (by omega)).1 e.2 with q2 | q2 <;> omega
theorem Tu.ch {n : Nat} {am : Int} {i : Nat} {y : Gp} {k : Nat} {z : Ts} (h : Tu n am i y k z) {C : List Cf} (hC : C.map pr = prL n) (hc : ∀ c ∈ C, (am ≤ c.ab ∧ c.ab ≤ 3060) ∧ (am ≤ c.ba ∧ c.ba ≤ 3060)) {R : List Bool} (hr : RI (waysL ((sL n).set k z)).length 0 (goN (waysL ((sL n).set k z))) R []) (hz : k + 1 < n → ∃ x ∈ z.nexts, x.dst.toNat = k + 1) {A3 A5 : List Fd} (h3 : scX k z.green.toNat C = A3) (hb : (z.green.toNat.testBit k = true ∧ A5 = []) ∨ (z.green = 0 ∧ A5 = [⟨66, -1, k, -1⟩])) :
    chF ((gL n am).set i y) C R ((sL n).set k z) 0 = addL (addL (addL (addL [] (lnX i y)) A3) (if z.nexts.length = 0 then [⟨65, k, -1, -1⟩] else [])) A5 := by
  have hR := h.reach hr hz
  have e5 : neF (usK R 0 ((sL n).set k z) 0) 0 ((gL n am).set i y) = A5 := by
    rcases hb with ⟨hb, rfl⟩ | ⟨hb, rfl⟩
    · exact h.ne0 hR hb
    · exact h.ne1 hR hb
  unfold chF
  rw [h.ln, h.ig0 (fun c q => ⟨(hc c q).1.1, (hc c q).2.1⟩), h.sc hC, h.tr hR, e5, h.sl0 (fun c q => ⟨(hc c q).1.2, (hc c q).2.2⟩), h3]
  rfl
theorem Cs.in {n : Nat} {am V : Int} {C : List Cf} (h : Cs n am V C) : ∀ c ∈ C, (am ≤ c.ab ∧ c.ab ≤ 3060) ∧ (am ≤ c.ba ∧ c.ba ≤ 3060) := fun c hc => by
  have := h.al c hc
  have := h.v1
  have := h.v2
  omega
theorem sN_next (n k : Nat) (h : k + 1 < n) : ∃ x ∈ (sN n k).nexts, x.dst.toNat = k + 1 :=
  ⟨_, List.mem_singleton.2 rfl, by show ((((k + 1) % n : Nat) : Int)).toNat = k + 1; rw [Int.toNat_natCast, Nat.mod_eq_of_lt h]⟩
/-- Only a group is turned. -/
theorem ch_g {n : Nat} {am V : Int} {i : Nat} {y : Gp} {C : List Cf} {R : List Bool} (h : Tu n am i y i (sN n i)) (hC : Cs n am V C) (hr : RI (waysL (sL n)).length 0 (goN (waysL (sL n))) R []) : chF ((gL n am).set i y) C R (sL n) 0 = addL [] (lnX i y) := by
  have e := sL_self h.hi
  have := h.ch hC.pr hC.in (R := R) (by rw [e]; exact hr) (fun q => sN_next n i q) (Tu.sc0 hC.pr i i) (.inl ⟨two_bit i, rfl⟩)
  rw [e] at this
  rw [this]; rfl
/-- Only a stage is turned. -/
theorem ch_s {n : Nat} {am V : Int} {k : Nat} {z : Ts} {C : List Cf} {R : List Bool} (h : Tu n am k (gN am k) k z) (hC : Cs n am V C) (hr : RI (waysL ((sL n).set k z)).length 0 (goN (waysL ((sL n).set k z))) R []) (hz : k + 1 < n → ∃ x ∈ z.nexts, x.dst.toNat = k + 1) {A3 A5 : List Fd} (h3 : scX k z.green.toNat C = A3) (hb : (z.green.toNat.testBit k = true ∧ A5 = []) ∨ (z.green = 0 ∧ A5 = [⟨66, -1, k, -1⟩])) : chF (gL n am) C R ((sL n).set k z) 0 = addL (addL (addL [] A3) (if z.nexts.length = 0 then [⟨65, k, -1, -1⟩] else [])) A5 := by
  have e := gL_self (am := am) h.hi
  have := h.ch hC.pr hC.in hr hz h3 hb
  rw [e, lnX_u h.a3] at this
  exact this
theorem tu_g {n : Nat} {am : Int} {i : Nat} (h1 : 2 ≤ n) (h2 : n ≤ 26) (h3 : 3 ≤ am) (h4 : am ≤ 60) (hi : i < n) (y : Gp) (k : Nat) (hk : k < n) (z : Ts) (y1 : 0 ≤ y.amber) (y2 : y.amber ≤ am) (y3 : 0 ≤ y.lead) (y4 : y.lead ≤ 4) : Tu n am i y k z := ⟨h1, h2, h3, h4, hi, hk, y1, y2, y3, y4⟩
/-- The size of a ring. -/
structure Rg (n : Nat) (am : Int) (i : Nat) : Prop where
  n2 : 2 ≤ n
  n26 : n ≤ 26
  a3 : 3 ≤ am
  a60 : am ≤ 60
  hi : i < n
theorem Rg.tu {n : Nat} {am : Int} {i : Nat} (h : Rg n am i) {y : Gp} {k : Nat} {z : Ts} (hk : k < n) (y1 : 0 ≤ y.amber) (y2 : y.amber ≤ am) (y3 : 0 ≤ y.lead) (y4 : y.lead ≤ 4) : Tu n am i y k z := ⟨h.n2, h.n26, h.a3, h.a60, h.hi, hk, y1, y2, y3, y4⟩
theorem Rg.ts {n : Nat} {am : Int} {i k : Nat} (h : Rg n am i) {z : Ts} (hk : k < n) : Tu n am k (gN am k) k z := ⟨h.n2, h.n26, h.a3, h.a60, hk, hk, by show 0 ≤ am; have := h.a3; omega, Int.le_refl _, Int.le_refl _, by show (0 : Int) ≤ 4; decide⟩
theorem gN_sort (am : Int) (i : Nat) : ((gN am i).sort = 1 ∨ (gN am i).sort = 2) := by
  show 1 + (i : Int) % 2 = 1 ∨ 1 + (i : Int) % 2 = 2
  omega
/-- The group of each kind. -/
def y0 (am : Int) (i : Nat) : Gp := ⟨(gN am i).name, (gN am i).sort, 5 - (gN am i).sort, am, 0⟩
def y1 (am : Int) (i : Nat) : Gp := ⟨(gN am i).name, 1, 5, 2, 0⟩
def y2 (am : Int) (i : Nat) : Gp := ⟨(gN am i).name, (gN am i).sort, 5, am, 4⟩
def y7 (am : Int) (i : Nat) : Gp := ⟨(gN am i).name, 1, 5, am, 3⟩
theorem ln0 {am : Int} (h : 3 ≤ am) (i : Nat) : lnX i (y0 am i) = [⟨62, -1, i, -1⟩] := by
  rcases gN_sort am i with e | e <;> simp [lnX, y0, e, ndM, ndA] <;> omega
theorem ln1 (am : Int) (i : Nat) : lnX i (y1 am i) = [⟨63, -1, i, -1⟩] := by simp [lnX, y1, ndM, ndA]
theorem ln2 {am : Int} (h : 3 ≤ am) (i : Nat) : lnX i (y2 am i) = [⟨64, -1, i, -1⟩] := by
  rcases gN_sort am i with e | e <;> simp [lnX, y2, e, ndM, ndA] <;> omega
theorem ln7 {am : Int} (h : 3 ≤ am) (i : Nat) : lnX i (y7 am i) = [] := by simp [lnX, y7, ndM, ndA]; omega
theorem ch0 {n : Nat} {am V : Int} {i : Nat} {C : List Cf} {R : List Bool} (h : Rg n am i) (hC : Cs n am V C) (hr : RI (waysL (sL n)).length 0 (goN (waysL (sL n))) R []) : chF ((gL n am).set i (y0 am i)) C R (sL n) 0 = [⟨62, -1, i, -1⟩] := by
  have := h.a3
  rw [ch_g (h.tu h.hi (by show 0 ≤ am; omega) (Int.le_refl _) (Int.le_refl _) (by show (0 : Int) ≤ 4; decide)) hC hr, ln0 h.a3]; rfl
theorem ch1 {n : Nat} {am V : Int} {i : Nat} {C : List Cf} {R : List Bool} (h : Rg n am i) (hC : Cs n am V C) (hr : RI (waysL (sL n)).length 0 (goN (waysL (sL n))) R []) : chF ((gL n am).set i (y1 am i)) C R (sL n) 0 = [⟨63, -1, i, -1⟩] := by
  have := h.a3
  rw [ch_g (h.tu h.hi (by show (0 : Int) ≤ 2; decide) (by show (2 : Int) ≤ am; omega) (Int.le_refl _) (by show (0 : Int) ≤ 4; decide)) hC hr, ln1]; rfl
theorem ch2 {n : Nat} {am V : Int} {i : Nat} {C : List Cf} {R : List Bool} (h : Rg n am i) (hC : Cs n am V C) (hr : RI (waysL (sL n)).length 0 (goN (waysL (sL n))) R []) : chF ((gL n am).set i (y2 am i)) C R (sL n) 0 = [⟨64, -1, i, -1⟩] := by
  have := h.a3
  rw [ch_g (h.tu h.hi (by show 0 ≤ am; omega) (Int.le_refl _) (by show (0 : Int) ≤ 4; decide) (Int.le_refl _)) hC hr, ln2 h.a3]; rfl
theorem chN {n : Nat} {am V : Int} {i : Nat} {C : List Cf} {R : List Bool} (h : Rg n am i) (hC : Cs n am V C) (hr : RI (waysL (sL n)).length 0 (goN (waysL (sL n))) R []) : chF (gL n am) C R (sL n) 0 = [] := by
  have := ch_g (h.ts h.hi) hC hr
  rw [gL_self h.hi, lnX_u h.a3] at this
  rw [this]; rfl
/-- Another stage's group is shown too. -/
def z4 (n i : Nat) : Ts := ⟨(sN n i).name, i, ((2 ^ i ||| 2 ^ ((i + 1) % n) : Nat) : Int), [], [], [], (sN n i).nexts⟩
def z5 (n : Nat) : Ts := ⟨(sN n (n - 1)).name, ((n - 1 : Nat) : Int), (sN n (n - 1)).green, [], [], [], []⟩
def z6 (n i : Nat) : Ts := ⟨(sN n i).name, i, 0, [], [], [], (sN n i).nexts⟩
theorem or_bit (a b g : Nat) : (2 ^ a ||| 2 ^ b).testBit g = true ↔ g = a ∨ g = b := by
  rw [Nat.testBit_or, Nat.testBit_two_pow, Nat.testBit_two_pow]
  simp only [Bool.or_eq_true, decide_eq_true_eq]
  omega
theorem o_ne {n i : Nat} (h2 : 2 ≤ n) (hi : i < n) : (i + 1) % n ≠ i ∧ (i + 1) % n < n := by
  refine ⟨?_, Nat.mod_lt _ (by omega)⟩
  rcases Nat.lt_or_ge (i + 1) n with h | h
  · rw [Nat.mod_eq_of_lt h]; omega
  · have : i + 1 = n := by omega
    rw [this, Nat.mod_self]; omega
theorem ch4 {n : Nat} {am V : Int} {i : Nat} {C : List Cf} {R : List Bool} (h : Rg n am i) (hC : Cs n am V C) (hr : RI (waysL ((sL n).set i (z4 n i))).length 0 (goN (waysL ((sL n).set i (z4 n i)))) R []) : chF (gL n am) C R ((sL n).set i (z4 n i)) 0 = [⟨60, i, ((min i ((i + 1) % n) : Nat) : Int), ((max i ((i + 1) % n) : Nat) : Int)⟩] := by
  obtain ⟨h1, h2⟩ := o_ne h.n2 h.hi
  have hi := h.hi
  have e3 : scX i (z4 n i).green.toNat C = [⟨60, i, ((min i ((i + 1) % n) : Nat) : Int), ((max i ((i + 1) % n) : Nat) : Int)⟩] := by
    show scX i ((2 ^ i ||| 2 ^ ((i + 1) % n) : Nat) : Int).toNat C = _
    rw [Int.toNat_natCast]
    refine sc_pair i _ _ _ (by omega) (by omega) h.n26 (fun g hg => ?_) hC.pr
    rw [or_bit]
    omega
  rw [ch_s (h.ts h.hi) hC hr (fun q => sN_next n i q) e3 (.inl ⟨by show ((2 ^ i ||| 2 ^ ((i + 1) % n) : Nat) : Int).toNat.testBit i = true; rw [Int.toNat_natCast, or_bit]; exact .inl rfl, rfl⟩)]
  rw [if_neg (by show ¬ (sN n i).nexts.length = 0; simp [sN])]
  rfl
theorem ch5 {n : Nat} {am V : Int} {i : Nat} {C : List Cf} {R : List Bool} (h : Rg n am i) (hC : Cs n am V C) (hr : RI (waysL ((sL n).set (n - 1) (z5 n))).length 0 (goN (waysL ((sL n).set (n - 1) (z5 n)))) R []) : chF (gL n am) C R ((sL n).set (n - 1) (z5 n)) 0 = [⟨65, ((n - 1 : Nat) : Int), -1, -1⟩] := by
  have := h.n2
  rw [ch_s (h.ts (by omega)) hC hr (fun q => by omega) (Tu.sc0 hC.pr (n - 1) (n - 1)) (.inl ⟨two_bit (n - 1), rfl⟩)]
  rfl
theorem ch6 {n : Nat} {am V : Int} {i : Nat} {C : List Cf} {R : List Bool} (h : Rg n am i) (hC : Cs n am V C) (hr : RI (waysL ((sL n).set i (z6 n i))).length 0 (goN (waysL ((sL n).set i (z6 n i)))) R []) : chF (gL n am) C R ((sL n).set i (z6 n i)) 0 = [⟨66, -1, i, -1⟩] := by
  have e3 : scX i (z6 n i).green.toNat C = [] := by
    show scX i (0 : Int).toNat C = []
    refine sc_no _ _ C fun c _ => ?_
    simp [hasN]
  rw [ch_s (h.ts h.hi) hC hr (fun q => sN_next n i q) e3 (.inr ⟨rfl, rfl⟩)]
  rw [if_neg (by show ¬ (sN n i).nexts.length = 0; simp [sN])]
  rfl
/-- A conflict's other way is too short. -/
def cq3 (am : Int) (c : Cf) : Cf := ⟨c.a, c.b, c.ab, am - 1⟩
theorem set_pr {C : List Cf} {m : Nat} (hm : m < C.length) (d : Cf) (h : pr d = pr C[m]) : (C.set m d).map pr = C.map pr := by
  rw [List.map_set, h]
  have := @List.set_getElem_self _ (C.map pr) m (by simpa using hm)
  simpa using this
theorem amb_at {n : Nat} {am : Int} {a : Nat} (h : a < n) : amb (gL n am) (a : Int) = am := by
  unfold amb
  rw [Int.toNat_natCast, List.getElem?_eq_getElem (by rw [gL_len]; exact h)]
  simp [gL, gN]
theorem ch3 {n : Nat} {am V : Int} {i m : Nat} {C : List Cf} {R : List Bool} (h : Rg n am i) (hC : Cs n am V C) (hm : m < C.length) (hr : RI (waysL (sL n)).length 0 (goN (waysL (sL n))) R []) : chF (gL n am) (C.set m (cq3 am C[m])) R (sL n) 0 = [⟨61, -1, C[m].b, C[m].a⟩] := by
  have a3 := h.a3
  have a60 := h.a60
  have v1 := hC.v1
  have v2 := hC.v2
  have hp : (C.set m (cq3 am C[m])).map pr = prL n := by rw [set_pr hm (cq3 am C[m]) rfl]; exact hC.pr
  have t := h.ts (k := i) (z := sN n i) h.hi
  have hR := t.reach (R := R) (by rw [sL_self h.hi]; exact hr) (fun q => sN_next n i q)
  have e1 := t.ln
  have e3 := t.sc hp
  have e4 := t.tr hR
  have e5 := t.ne0 hR (two_bit i)
  have hx : ∀ c ∈ C.set m (cq3 am C[m]), c.ab ≤ 3060 ∧ c.ba ≤ 3060 := by
    intro c hc
    rcases List.mem_or_eq_of_mem_set hc with hc | rfl
    · have := hC.in c hc; omega
    · have := hC.in C[m] (List.getElem_mem hm)
      exact ⟨this.1.2, by show am - 1 ≤ 3060; omega⟩
  have e6 := t.sl0 hx (ckL (gL n am).length (C.set m (cq3 am C[m])) (sL n)) (sL n) (mvsL R (sL n) 0)
  rw [gL_self h.hi] at e1 e5 e6
  rw [sL_self h.hi] at e3 e4 e5
  obtain ⟨a, b, ea, eb, hab, hbn⟩ := pr_in hC.pr C[m] (List.getElem_mem hm)
  have e2 : shL (gL n am) (C.set m (cq3 am C[m])) = [(C[m].b, C[m].a)] := by
    rw [sh_fm _ _ 0, fm_one _ _ 0 m (by simpa using hm)]
    · rw [List.getElem_set_self]
      have h1 := hC.al C[m] (List.getElem_mem hm)
      unfold shX
      rw [if_neg, if_pos]
      · rfl
      · show am - 1 < amb (gL n am) C[m].b
        rw [eb, amb_at hbn]; omega
      · show ¬ C[m].ab < amb (gL n am) C[m].a
        rw [ea, amb_at (by omega)]; omega
    · intro j hj ne
      rw [List.getElem_set_ne (fun e => ne e.symm)]
      have hj2 : j < C.length := by simpa using hj
      have h1 := hC.al C[j] (List.getElem_mem hj2)
      obtain ⟨a, b, ea, eb, hab, hbn⟩ := pr_in hC.pr C[j] (List.getElem_mem hj2)
      unfold shX
      rw [ea, eb, amb_at hbn, amb_at (by omega), if_neg (by omega), if_neg (by omega)]; rfl
  unfold chF
  rw [e1, e2, e3, e4, e5, e6, lnX_u h.a3, show scX i (sN n i).green.toNat (C.set m (cq3 am C[m])) = [] from Tu.sc0 hp i i, if_neg (by simp [sN])]
  rfl
/-- The intergreen from one group to another at its longest. -/
def cq7 (fr i : Int) (c : Cf) : Cf := ⟨c.a, c.b, if c.a = fr ∧ c.b = i then 3600 else c.ab, if c.b = fr ∧ c.a = i then 3600 else c.ba⟩
theorem cq7_pr {n : Nat} {C : List Cf} (h : C.map pr = prL n) (fr i : Int) : (C.map (cq7 fr i)).map pr = prL n := by
  rw [List.map_map, ← h]; rfl
theorem cq7_mem {fr i : Int} {C : List Cf} {c : Cf} (h : c ∈ C.map (cq7 fr i)) : ∃ d ∈ C, c = cq7 fr i d := by
  obtain ⟨d, hd, e⟩ := List.mem_map.1 h
  exact ⟨d, hd, e.symm⟩
theorem fr_ne {n i : Nat} (h2 : 2 ≤ n) (hi : i < n) : (i + n - 1) % n ≠ i ∧ (i + n - 1) % n < n ∧ ((i + n - 1) % n + 1) % n = i ∧ ∀ k, k < n → k ≠ (i + n - 1) % n → (k + 1) % n ≠ i := by
  rcases Nat.eq_zero_or_pos i with rfl | h
  · have e : (0 + n - 1) % n = n - 1 := by rw [Nat.mod_eq_of_lt (by omega)]; omega
    rw [e]
    refine ⟨by omega, by omega, by rw [show n - 1 + 1 = n by omega, Nat.mod_self], fun k hk ne => ?_⟩
    rw [Nat.mod_eq_of_lt (by omega)]; omega
  · have e : (i + n - 1) % n = i - 1 := by rw [show i + n - 1 = (i - 1) + n by omega, Nat.add_mod_right, Nat.mod_eq_of_lt (by omega)]
    rw [e]
    refine ⟨by omega, by omega, by rw [show i - 1 + 1 = i by omega, Nat.mod_eq_of_lt hi], fun k hk ne => ?_⟩
    rcases Nat.lt_or_ge (k + 1) n with q | q
    · rw [Nat.mod_eq_of_lt q]; omega
    · rw [show k + 1 = n by omega, Nat.mod_self]; omega
theorem sL_at {n : Nat} (t : Nat) (h : t < (sL n).length) : (sL n)[t] = sN n t := by simp [sL]
theorem gOf_sL {n : Nat} {t : Nat} (ht : t < n) : gOf (sL n) (t : Int) = 2 ^ t := by
  unfold gOf
  rw [if_neg (by omega), Int.toNat_natCast, List.getElem?_eq_getElem (by rw [sL_len]; exact ht)]
  simp only [Option.map_some, Option.getD_some]
  rw [sL_at]
  show ((2 ^ t : Nat) : Int).toNat = 2 ^ t
  rw [Int.toNat_natCast]
theorem gOf_no {n : Nat} {x : Int} {t : Nat} (hx : x = -1 ∨ ∃ k : Nat, x = (k : Int) ∧ k < n ∧ k ≠ t) (h64 : t < 64) : hasN (gOf (sL n) x) (t : Int) = false := by
  rw [hasN_nat _ _ h64]
  rcases hx with rfl | ⟨k, rfl, hk, ne⟩
  · simp [gOf]
  · rw [gOf_sL hk, Nat.testBit_two_pow]
    simp; omega
/-- Moves to another group are not too long. -/
theorem lp7_le {n : Nat} {am V : Int} {i : Nat} {C : List Cf} (h : Rg n am i) (hC : Cs n am V C) (fr : Int) (x : Int) {t : Nat} (ht : t < n) (ne : t ≠ i) : lpA ((gL n am).set i (y7 am i)) (C.map (cq7 fr i)) (sL n) x (t : Int) ≤ 3600 := by
  have a3 := h.a3
  have a60 := h.a60
  have v1 := hC.v1
  have v2 := hC.v2
  have tu : Tu n am i (y7 am i) i (sN n i) := h.tu h.hi (by show 0 ≤ am; omega) (Int.le_refl _) (by show (0 : Int) ≤ 3; decide) (by show (3 : Int) ≤ 4; decide)
  refine th_le _ _ _ 3600 _ 0 0 (by omega) fun j hj => ?_
  have h1 := gp_in tu j hj
  refine ⟨by omega, fun hl => ?_⟩
  rw [Nat.zero_add] at hl ⊢
  rw [gOf_sL ht] at hl
  have e : (j : Int) = (t : Int) := hasN_two (i := t) (by simp [loses] at hl; exact hl.1)
  have e2 : j = t := by omega
  subst e2
  have h2 := tu.ws (C := C.map (cq7 fr i)) j fun c hc o => by
    obtain ⟨d, hd, rfl⟩ := cq7_mem hc
    have hv := hC.al d hd
    constructor
    · rintro ⟨e1, e2⟩
      show (if d.a = fr ∧ d.b = i then 3600 else d.ab) ≤ 3060
      rw [if_neg (fun q => ne (by have : d.b = (j : Int) := e2; omega))]; omega
    · rintro ⟨e1, e2⟩
      show (if d.b = fr ∧ d.a = i then 3600 else d.ba) ≤ 3060
      rw [if_neg (fun q => ne (by have : d.a = (j : Int) := e1; omega))]; omega
  omega
/-- Moves to this group are. -/
theorem lp7_gt {n : Nat} {am V : Int} {i : Nat} {C : List Cf} (h : Rg n am i) (hC : Cs n am V C) {x : Int} (hx : x = -1 ∨ ∃ k : Nat, x = (k : Int) ∧ k < n ∧ k ≠ i) : 3600 < lpA ((gL n am).set i (y7 am i)) (C.map (cq7 (((i + n - 1) % n : Nat) : Int) i)) (sL n) x (i : Int) := by
  have n26 := h.n26
  have hi := h.hi
  have a60 := h.a60
  obtain ⟨f1, f2, _, _⟩ := fr_ne h.n2 h.hi
  generalize (i + n - 1) % n = f at *
  have hl : loses (gOf (sL n) (i : Int)) (gOf (sL n) x) (0 + i) = true := by
    rw [Nat.zero_add, loses, gOf_no hx (by omega), gOf_sL h.hi, hasN_nat _ _ (by omega), Nat.testBit_two_pow]
    simp
  have h1 := th_at (gOf (sL n) x) (gOf (sL n) (i : Int)) (wsA ((gL n am).set i (y7 am i)) (C.map (cq7 (f : Int) i))) ((gL n am).set i (y7 am i)) 0 0 i (by rw [gS_len]; exact h.hi) hl
  rw [gS_at, if_pos rfl, Nat.zero_add] at h1
  have hw := ws_ge (G := (gL n am).set i (y7 am i)) (C := C.map (cq7 (f : Int) i)) (k := i) (o := f) (by rw [gS_len]; exact f2) (by rw [gS_len]; omega)
  have e := inter_eq (o := (f : Int)) (y := (i : Int)) (V := 3600) (C.map (cq7 (f : Int) i)) (fun c hc => by
    obtain ⟨d, hd, rfl⟩ := cq7_mem hc
    exact ⟨fun q => if_pos q, fun q => if_pos ⟨q.2, q.1⟩⟩) (by
    rcases Nat.lt_or_ge f i with q | q
    · obtain ⟨c, hc, e1, e2⟩ := pr_has hC.pr f i q h.hi
      exact ⟨_, List.mem_map_of_mem hc, .inl ⟨e1, e2⟩⟩
    · obtain ⟨c, hc, e1, e2⟩ := pr_has hC.pr i f (by omega) f2
      exact ⟨_, List.mem_map_of_mem hc, .inr ⟨e1, e2⟩⟩)
  have hv : (3600 : Int) ≤ waitV (((gL n am).set i (y7 am i))[f]'(by rw [gS_len]; exact f2)) (C.map (cq7 (f : Int) i)) (f : Int) (i : Int) := by
    unfold waitV
    rw [e, if_pos rfl]
    split
    · next q => exact Int.le_of_lt q
    · exact Int.le_refl _
  have : (y7 am i).lead = 3 := rfl
  unfold lpA
  omega
theorem ck_false {n m : Nat} {C : List Cf} (hC : C.map pr = prL n) (t : Nat) : sn (ckL m C (sL n)) t = false := by
  by_cases h : t < (ckL m C (sL n)).length
  · unfold sn
    rw [List.getD_eq_getElem?_getD, List.getElem?_eq_getElem h]
    simp only [Option.getD_some, ckL, List.getElem_map]
    refine clash_no _ _ _ fun c hc => ?_
    have e : ((sL n)[t]'(by simpa [ckL] using h)).green.toNat = 2 ^ t := by
      rw [sL_at]
      show ((2 ^ t : Nat) : Int).toNat = 2 ^ t
      rw [Int.toNat_natCast]
    rw [e]
    exact hit_two _ _ _ (pr_ne hC c hc)
  · unfold sn
    rw [List.getD_eq_getElem?_getD, List.getElem?_eq_none (by omega)]; rfl
theorem ckM_false {n m : Nat} {C : List Cf} (hC : C.map pr = prL n) (x : Int) (t : Nat) : ckM (ckL m C (sL n)) x t = false := by
  unfold ckM
  rw [ck_false hC, ck_false hC]; simp
theorem ch7 {n : Nat} {am V : Int} {i : Nat} {C : List Cf} {R : List Bool} (h : Rg n am i) (hC : Cs n am V C) (hr : RI (waysL (sL n)).length 0 (goN (waysL (sL n))) R []) : chF ((gL n am).set i (y7 am i)) (C.map (cq7 (((i + n - 1) % n : Nat) : Int) i)) R (sL n) 0 = (if i = 0 then [⟨67, -1, -1, 0⟩] else []) ++ [⟨67, (((i + n - 1) % n : Nat) : Int), -1, (i : Int)⟩] := by
  have a3 := h.a3
  have a60 := h.a60
  have v1 := hC.v1
  have v2 := hC.v2
  have n2 := h.n2
  have hp := cq7_pr hC.pr (((i + n - 1) % n : Nat) : Int) i
  have t : Tu n am i (y7 am i) i (sN n i) := h.tu h.hi (by show 0 ≤ am; omega) (Int.le_refl _) (by show (0 : Int) ≤ 3; decide) (by show (3 : Int) ≤ 4; decide)
  have hR := t.reach (R := R) (by rw [sL_self h.hi]; exact hr) (fun q => sN_next n i q)
  have e1 := t.ln
  have e2 := t.ig0 (C := C.map (cq7 (((i + n - 1) % n : Nat) : Int) i)) fun c hc => by
    obtain ⟨d, hd, rfl⟩ := cq7_mem hc
    have := hC.al d hd
    constructor
    · show am ≤ (if _ then 3600 else d.ab); split <;> omega
    · show am ≤ (if _ then 3600 else d.ba); split <;> omega
  have e3 := t.sc hp
  have e4 := t.tr hR
  have e5 := t.ne0 hR (two_bit i)
  rw [sL_self h.hi] at e3 e4 e5
  obtain ⟨f1, f2, f3, f4⟩ := fr_ne h.n2 h.hi
  have g1 := fun (x : Int) (t : Nat) (ht : t < n) (ne : t ≠ i) => lp7_le h hC (((i + n - 1) % n : Nat) : Int) x ht ne
  have g2 := fun (x : Int) (hx : x = -1 ∨ ∃ k : Nat, x = (k : Int) ∧ k < n ∧ k ≠ i) => lp7_gt h hC hx
  have g3 := ckM_false (m := ((gL n am).set i (y7 am i)).length) hp
  generalize hlp : lpA ((gL n am).set i (y7 am i)) (C.map (cq7 (((i + n - 1) % n : Nat) : Int) i)) (sL n) = lp at *
  generalize hQ : ckL ((gL n am).set i (y7 am i)).length (C.map (cq7 (((i + n - 1) % n : Nat) : Int) i)) (sL n) = Q at *
  have x0 : ∀ (x : Int) (t : Nat), t < n → t ≠ i → slX Q lp (x, (t : Int)) = [] := fun x t ht ne => by
    unfold slX
    rw [g3]
    have := g1 x t ht ne
    rw [if_neg (by decide), if_neg (by show ¬ 3600 < lp x (t : Int); omega)]
  have x1 : ∀ x : Int, (x = -1 ∨ ∃ k : Nat, x = (k : Int) ∧ k < n ∧ k ≠ i) → slX Q lp (x, (i : Int)) = [⟨67, x, -1, (i : Int)⟩] := fun x hx => by
    unfold slX
    rw [g3]
    rw [if_neg (by decide), if_pos (g2 x hx)]
  have e6 : slF Q lp (mvsL R (sL n) 0) = (if i = 0 then [⟨67, -1, -1, 0⟩] else []) ++ [⟨67, (((i + n - 1) % n : Nat) : Int), -1, (i : Int)⟩] := by
    show slX Q lp (-1, ((0 : Nat) : Int)) ++ slF Q lp (mvsF R 0 (sL n)) = _
    congr 1
    · split
      · next e => subst e; exact x1 (-1) (.inl rfl)
      · next e => exact x0 (-1) 0 (by omega) (fun q => e q.symm)
    · have one : ∀ j, j < n → ∀ hj : j < (sL n).length, slF Q lp (if sn R (0 + j) = true then mvS (0 + j) (sL n)[j].nexts else []) = slX Q lp ((j : Int), (((j + 1) % n : Nat) : Int)) := fun j hj hj2 => by
        rw [Nat.zero_add, if_pos (hR j hj)]
        have : (sL n)[j] = sN n j := by simp [sL]
        rw [this]
        show slX Q lp ((j : Int), (((j + 1) % n : Nat) : Int)) ++ [] = _
        simp
      rw [sl_fm, fm_one _ _ 0 ((i + n - 1) % n) (by rw [sL_len]; exact f2)]
      · show slF Q lp (if sn R (0 + (i + n - 1) % n) = true then mvS (0 + (i + n - 1) % n) ((sL n)[(i + n - 1) % n]'(by rw [sL_len]; exact f2)).nexts else []) = _
        rw [one _ f2, f3]
        exact x1 _ (.inr ⟨_, rfl, f2, f1⟩)
      · intro j hj ne
        have hjn : j < n := by rw [sL_len] at hj; exact hj
        show slF Q lp (if sn R (0 + j) = true then mvS (0 + j) ((sL n)[j]'hj).nexts else []) = _
        rw [one j hjn]
        exact x0 _ _ (Nat.mod_lt _ (by omega)) (f4 j hjn ne)
  unfold chF
  rw [hlp, hQ, e1, e2, e3, e4, e5, e6, ln7 h.a3, show scX i (sN n i).green.toNat (C.map (cq7 (((i + n - 1) % n : Nat) : Int) i)) = [] from Tu.sc0 hp i i, if_neg (by simp [sN])]
  split <;> rfl
def gnm (i : Nat) : ByteArray := ⟨#[103, UInt8.ofNat (97 + i)]⟩
def snm (i : Nat) : ByteArray := ⟨#[115, UInt8.ofNat (97 + i)]⟩
theorem names_all : ∀ n, n < 27 → ulF [] ((List.range n).map gnm ++ (List.range n).map snm) = true := by decide +kernel
theorem ring_nm : nmB ⟨#[114, 105, 110, 103]⟩ = true := by decide +kernel
theorem gS_names {n : Nat} {am : Int} {i : Nat} {y : Gp} (h : y.name = (gN am i).name) : ((gL n am).set i y).map (·.name) = (List.range n).map gnm := by
  apply List.ext_getElem
  · simp [gL]
  · intro j h1 h2
    rw [List.getElem_map, gS_at]
    split
    · next e => subst e; rw [h]; simp [gnm, gN]
    · simp [gnm, gN]
theorem sS_names {n : Nat} {k : Nat} {z : Ts} (h : z.name = (sN n k).name) : ((sL n).set k z).map (·.name) = (List.range n).map snm := by
  apply List.ext_getElem
  · simp [sL]
  · intro j h1 h2
    rw [List.getElem_map, sS_at]
    split
    · next e => subst e; rw [h]; simp [snm, sN]
    · simp [snm, sN]
theorem sgs_of (z : Sz) (n : Nat) : ∀ (L : List Ts) (k : Nat), (∀ (j : Nat) (h : j < L.length), L[j].id = ((k + j : Nat) : Int)) → (∀ (j : Nat) (h : j < L.length), sgZ z n (k + j) (((k + j : Nat) : Int) - 1) L[j] = true) → sgsZ z n k ((k : Int) - 1) L = true
  | [], _, _, _ => rfl
  | s :: L, k, h1, h2 => by
    have a1 := h1 0 (by simp)
    have a2 := h2 0 (by simp)
    simp only [List.getElem_cons_zero, Nat.add_zero] at a1 a2
    have ih := sgs_of z n L (k + 1) (fun j hj => by have := h1 (j + 1) (by simpa using hj); rw [show k + 1 + j = k + (j + 1) by omega]; simpa using this) (fun j hj => by have := h2 (j + 1) (by simpa using hj); rw [show k + 1 + j = k + (j + 1) by omega]; simpa using this)
    show (sgZ z n k ((k : Int) - 1) s && sgsZ z n (k + 1) s.id L) = true
    rw [a2, a1, show (k : Int) = ((k + 1 : Nat) : Int) - 1 by omega, ih]; rfl
theorem on1_sx (z : Sz) : sxB z on1 2 = true := by
  have e1 : trB on1 = true := by decide +kernel
  have e2 : stF [] on1 = 2 := by decide +kernel
  have e3 : blB ByteArray.empty 0 0 = true := by decide +kernel
  have e4 : on1.all (ndB z) = true := by
    show ((blB ByteArray.empty 0 0 && ndV z 2 1) && true) = true
    rw [e3]; simp [ndV]
  unfold sxB
  rw [e1, e2, e4]
  rfl
/-- A stage without lists, with its own next or none. -/
structure Sg1 (n k : Nat) (z : Ts) : Prop where
  id : z.id = (k : Int)
  gr : ∃ g : Nat, z.green = (g : Int) ∧ g < 2 ^ n
  e : z.enter = [] ∧ z.during = [] ∧ z.leave = []
  x : z.nexts = [] ∨ z.nexts = (sN n k).nexts
theorem sN_sg {n k : Nat} (h : k < n) : Sg1 n k (sN n k) := ⟨rfl, ⟨2 ^ k, rfl, Nat.pow_lt_pow_right (by decide) h⟩, ⟨rfl, rfl, rfl⟩, .inr rfl⟩
theorem Sg1.ok {n k : Nat} {z : Ts} (h : Sg1 n k z) (h2 : 2 ≤ n) (h26 : n ≤ 26) (hk : k < n) (q : Sz) (hq : q.g = n) : sgZ q n k ((k : Int) - 1) z = true := by
  obtain ⟨g, hg, hl⟩ := h.gr
  obtain ⟨e1, e2, e3⟩ := h.e
  have o := o_ne h2 hk
  have a1 : sg1 q ((k : Int) - 1) z.id z.green = true := by
    unfold sg1
    rw [h.id, hg, hq]
    have : ((g : Int) / 2 ^ n) = 0 := by
      refine Int.ediv_eq_zero_of_lt (by omega) ?_
      have : ((2 : Int) ^ n) = ((2 ^ n : Nat) : Int) := by simp
      rw [this]; omega
    rw [this]
    simp; omega
  have a2 : rsZ q z.enter z.during z.leave 0 = true := by rw [e1, e2, e3]; rfl
  have a3 : z.nexts.all (nxZ q n k) = true := by
    rcases h.x with e | e
    · rw [e]; rfl
    · rw [e]
      show (nxZ q n k ⟨(((k + 1) % n : Nat) : Int), on1⟩ && true) = true
      unfold nxZ plB
      rw [on1_sx]
      simp only [Bool.and_true, Bool.and_eq_true, decide_eq_true_eq, Bool.not_eq_true', decide_eq_false_iff_not]
      omega
  unfold sgZ
  rw [a1, a2, a3]; rfl
theorem few_of : ∀ (L : List Ts), (∀ s ∈ L, (s.enter = [] ∧ s.during = [] ∧ s.leave = []) ∧ (s.nexts = [] ∨ ∃ d, s.nexts = [⟨d, on1⟩])) → smN L = 0 ∧ cgN L ≤ L.length ∧ allN L ≤ L.length
  | [], _ => by simp [smN, cgN, allN]
  | s :: L, h => by
    obtain ⟨⟨e1, e2, e3⟩, hx⟩ := h s (by simp)
    obtain ⟨i1, i2, i3⟩ := few_of L (fun t ht => h t (by simp [ht]))
    unfold smN cgN allN sgN
    rw [e1, e2, e3]
    rcases hx with e | ⟨d, e⟩
    · rw [e]; simp [exN, nxN]; omega
    · rw [e]; simp [exN, nxN, on1]; omega
/-- What makes a turned ring sound. -/
structure Sd1 (n : Nat) (am : Int) (i : Nat) (y : Gp) (k : Nat) (z : Ts) (C : List Cf) : Prop where
  t : Tu n am i y k z
  pr : C.map pr = prL n
  tm : ∀ c ∈ C, (timeB c.ab && timeB c.ba) = true
  gy : gpB y = true
  yn : y.name = (gN am i).name
  zn : z.name = (sN n k).name
  zz : Sg1 n k z
theorem Sd1.sg {n : Nat} {am : Int} {i : Nat} {y : Gp} {k : Nat} {z : Ts} {C : List Cf} (h : Sd1 n am i y k z C) (j : Nat) (hj : j < ((sL n).set k z).length) : Sg1 n j ((sL n).set k z)[j] := by
  have hj2 : j < n := by rw [sS_len] at hj; exact hj
  rw [sS_at]
  split
  · next e => subst e; exact h.zz
  · exact sN_sg hj2
theorem gN_gp {am : Int} (h3 : 3 ≤ am) (h60 : am ≤ 60) (i : Nat) : gpB (gN am i) = true := by
  have := gN_sort am i
  unfold gpB timeB amberB
  simp only [Bool.and_eq_true, Bool.or_eq_true, decide_eq_true_eq]
  refine ⟨this, ?_⟩
  show (1 : Int) ≤ 5 ∧ ((0 : Int) ≤ 5 ∧ (5 : Int) ≤ 3600) ∧ (0 ≤ am ∧ am ≤ 60) ∧ (0 : Int) ≤ 0 ∧ (0 : Int) ≤ 60
  omega
theorem Sd1.sd {n : Nat} {am : Int} {i : Nat} {y : Gp} {k : Nat} {z : Ts} {C : List Cf} (h : Sd1 n am i y k z C) : sdB ((gL n am).set i y) C [] [] [] [] ((sL n).set k z) ⟨#[114, 105, 110, 103]⟩ 0 = true := by
  have n2 := h.t.n2
  have n26 := h.t.n26
  have b1 : gridB ((gL n am).set i y) C = true := by
    unfold gridB
    rw [gS_len, rows_pr (by omega) h.pr h.tm]
    simp only [Bool.and_true, Bool.and_eq_true, decide_eq_true_eq]
    refine ⟨by omega, List.all_eq_true.2 fun g hg => ?_⟩
    obtain ⟨j, hj, rfl⟩ := List.getElem_of_mem hg
    rw [gS_at]
    split
    · exact h.gy
    · exact gN_gp h.t.a3 h.t.a60 j
  have b2 : ctB 0 0 0 0 ((sL n).set k z) = true := by
    obtain ⟨c1, c2, c3⟩ := few_of ((sL n).set k z) fun s hs => by
      obtain ⟨j, hj, rfl⟩ := List.getElem_of_mem hs
      have q := h.sg j hj
      exact ⟨q.e, q.x.imp id fun e => ⟨_, e⟩⟩
    rw [sS_len] at c2 c3
    unfold ctB
    rw [sS_len, c1]
    simp only [Bool.and_eq_true, decide_eq_true_eq]
    omega
  have b3 : ulF [] (nmsL ((gL n am).set i y) [] [] [] [] ((sL n).set k z)) = true := by
    unfold nmsL
    rw [gS_names h.yn, sS_names h.zn]
    simpa using names_all n (by omega)
  have b4 : sgsZ ⟨((gL n am).set i y).length, 0, 0, 0, 0⟩ ((sL n).set k z).length 0 (-1) ((sL n).set k z) = true := by
    rw [sS_len, gS_len]
    refine sgs_of _ n ((sL n).set k z) 0 (fun j hj => ?_) (fun j hj => ?_)
    · rw [Nat.zero_add]; exact (h.sg j hj).id
    · rw [Nat.zero_add]; exact (h.sg j hj).ok n2 n26 (by rw [sS_len] at hj; exact hj) _ rfl
  have b5 : plB 0 ((sL n).set k z).length = true := by
    unfold plB
    rw [sS_len]
    simp; omega
  unfold sdB
  rw [b1, b3, ring_nm, b5]
  show (true && (ctB 0 0 0 0 ((sL n).set k z) && ((true && true) && (true && (true && sgsZ ⟨((gL n am).set i y).length, 0, 0, 0, 0⟩ ((sL n).set k z).length 0 (-1) ((sL n).set k z)))))) = true
  rw [b2, b4]; rfl
/-- What the law wants of a plan: sound, with just these findings; and what its walks want. -/
structure Gd (G : List Gp) (C : List Cf) (SG : List Ts) (F : List Fd) : Prop where
  sd : sdB G C [] [] [] [] SG ⟨#[114, 105, 110, 103]⟩ 0 = true
  ch : ∀ R, RI (waysL SG).length 0 (goN (waysL SG)) R [] → chF G C R SG 0 = F
  ok : ∀ (i : Nat) (h : i < C.length), C[i].ok
  gr : ∀ s ∈ SG, 0 ≤ s.green ∧ s.green < 18446744073709551616
  so : ∀ s ∈ SG, s.ok
  nm : ∀ s ∈ nmsL G [] [] [] [] SG, Sm s
  lG : G.length ≤ 26
  lC : C.length ≤ 676
  lS : SG.length ≤ 26
  fl : F.length ≤ 64
theorem prL_few : ∀ n, n < 27 → (prL n).length ≤ 676 := by decide +kernel
theorem wfI {x : Int} (h0 : 0 ≤ x) (h1 : x ≤ 3600) : (Lit.int .i64 x).wf = true := by
  simp [Lit.wf, IntKind.min, IntKind.max, IntKind.bits, IntKind.signed]; omega
theorem on1_v : ∀ y ∈ on1, vOk y.val := by
  intro y hy
  rw [List.mem_singleton.1 hy]
  show (-2147483648 : Int) ≤ 1 ∧ (1 : Int) ≤ 2147483647
  decide
theorem two_sm (a b : UInt8) : Sm ⟨#[a, b]⟩ := by show 2 < 4611686018427387904; decide
theorem Sd1.gd {n : Nat} {am : Int} {i : Nat} {y : Gp} {k : Nat} {z : Ts} {C : List Cf} {F : List Fd} (h : Sd1 n am i y k z C) (ch : ∀ R, RI (waysL ((sL n).set k z)).length 0 (goN (waysL ((sL n).set k z))) R [] → chF ((gL n am).set i y) C R ((sL n).set k z) 0 = F) (hF : F.length ≤ 64) : Gd ((gL n am).set i y) C ((sL n).set k z) F := by
  have n26 := h.t.n26
  refine ⟨h.sd, ch, ?_, ?_, ?_, ?_, by rw [gS_len]; exact n26, ?_, by rw [sS_len]; exact n26, hF⟩
  · intro j hj
    have hm : C[j] ∈ C := List.getElem_mem hj
    obtain ⟨a, b, e1, e2, h1, h2⟩ := pr_in h.pr _ hm
    have ht := h.tm _ hm
    unfold timeB at ht
    simp only [Bool.and_eq_true, decide_eq_true_eq] at ht
    exact ⟨wfI (by omega) (by omega), wfI (by omega) (by omega), wfI ht.1.1 ht.1.2, wfI ht.2.1 ht.2.2⟩
  · intro s hs
    obtain ⟨j, hj, rfl⟩ := List.getElem_of_mem hs
    obtain ⟨g, e, hg⟩ := (h.sg j hj).gr
    have : 2 ^ n ≤ 2 ^ 26 := Nat.pow_le_pow_right (by decide) n26
    rw [e]
    generalize 2 ^ n = q at *
    omega
  · intro s hs
    obtain ⟨j, hj, rfl⟩ := List.getElem_of_mem hs
    have q := h.sg j hj
    obtain ⟨e1, e2, e3⟩ := q.e
    refine ⟨fun x hx => (by rw [e1] at hx; cases hx), fun x hx => (by rw [e2] at hx; cases hx), fun x hx => (by rw [e3] at hx; cases hx), fun x hx => ?_⟩
    rcases q.x with e | e
    · rw [e] at hx; cases hx
    · rw [e] at hx
      rw [List.mem_singleton.1 hx]
      exact on1_v
  · unfold nmsL
    rw [gS_names h.yn, sS_names h.zn]
    intro s hs
    simp only [List.map_nil, List.append_nil, List.mem_append, List.mem_map] at hs
    rcases hs with ⟨j, _, rfl⟩ | ⟨j, _, rfl⟩
    · exact two_sm _ _
    · exact two_sm _ _
  · have := prL_few n (by omega)
    rw [← h.pr, List.length_map] at this
    exact this
theorem Cs.tm {n : Nat} {am V : Int} {C : List Cf} (h : Cs n am V C) (h0 : 0 ≤ am) : ∀ c ∈ C, (timeB c.ab && timeB c.ba) = true := by
  intro c hc
  have h1 := h.al c hc
  have h2 := h.v1
  have h3 := h.v2
  unfold timeB
  simp only [Bool.and_eq_true, decide_eq_true_eq]
  omega
theorem Rg.gp {n : Nat} {am : Int} {i : Nat} (h : Rg n am i) {y : Gp} (e : y.name = (gN am i).name) (hs : y.sort = 1 ∨ y.sort = 2) (hm : 1 ≤ y.min ∧ y.min ≤ 3600) (y1 : 0 ≤ y.amber) (y2 : y.amber ≤ am) (y3 : 0 ≤ y.lead) (y4 : y.lead ≤ 4) {C : List Cf} (hC : C.map pr = prL n) (ht : ∀ c ∈ C, (timeB c.ab && timeB c.ba) = true) : Sd1 n am i y i (sN n i) C := by
  have := h.a60
  refine ⟨h.tu h.hi y1 y2 y3 y4, hC, ht, ?_, e, rfl, sN_sg h.hi⟩
  unfold gpB timeB amberB
  simp only [Bool.and_eq_true, Bool.or_eq_true, decide_eq_true_eq]
  omega
theorem Rg.st {n : Nat} {am : Int} {i : Nat} (h : Rg n am i) {k : Nat} (hk : k < n) {z : Ts} (e : z.name = (sN n k).name) (q : Sg1 n k z) {C : List Cf} (hC : C.map pr = prL n) (ht : ∀ c ∈ C, (timeB c.ab && timeB c.ba) = true) : Sd1 n am k (gN am k) k z C :=
  ⟨h.ts hk, hC, ht, gN_gp h.a3 h.a60 k, rfl, e, q⟩
theorem gdG {n : Nat} {am : Int} {i : Nat} {C : List Cf} (h : Rg n am i) {y : Gp} {F : List Fd} (q : Sd1 n am i y i (sN n i) C) (ch : ∀ R, RI (waysL (sL n)).length 0 (goN (waysL (sL n))) R [] → chF ((gL n am).set i y) C R (sL n) 0 = F) (hF : F.length ≤ 64) : Gd ((gL n am).set i y) C (sL n) F := by
  have := q.gd (F := F) (by rw [sL_self h.hi]; exact ch) hF
  rw [sL_self h.hi] at this
  exact this
theorem gdS {n : Nat} {am : Int} {C : List Cf} {k : Nat} {z : Ts} {F : List Fd} (hk : k < n) (q : Sd1 n am k (gN am k) k z C) (ch : ∀ R, RI (waysL ((sL n).set k z)).length 0 (goN (waysL ((sL n).set k z))) R [] → chF (gL n am) C R ((sL n).set k z) 0 = F) (hF : F.length ≤ 64) : Gd (gL n am) C ((sL n).set k z) F := by
  have := q.gd (F := F) (by rw [gL_self hk]; exact ch) hF
  rw [gL_self hk] at this
  exact this
theorem gd0 {n : Nat} {am V : Int} {i : Nat} {C : List Cf} (h : Rg n am i) (hC : Cs n am V C) : Gd ((gL n am).set i (y0 am i)) C (sL n) [⟨62, -1, i, -1⟩] := by
  have a3 := h.a3
  have hs := gN_sort am i
  exact gdG h (h.gp (y := y0 am i) rfl hs (by show 1 ≤ 5 - (gN am i).sort ∧ 5 - (gN am i).sort ≤ 3600; omega) (by show 0 ≤ am; omega) (Int.le_refl _) (Int.le_refl _) (by show (0 : Int) ≤ 4; decide) hC.pr (hC.tm (by omega))) (fun R hr => ch0 h hC hr) (by simp)
theorem gd1 {n : Nat} {am V : Int} {i : Nat} {C : List Cf} (h : Rg n am i) (hC : Cs n am V C) : Gd ((gL n am).set i (y1 am i)) C (sL n) [⟨63, -1, i, -1⟩] := by
  have a3 := h.a3
  exact gdG h (h.gp (y := y1 am i) rfl (.inl rfl) (by show (1 : Int) ≤ 5 ∧ (5 : Int) ≤ 3600; decide) (by show (0 : Int) ≤ 2; decide) (by show (2 : Int) ≤ am; omega) (Int.le_refl _) (by show (0 : Int) ≤ 4; decide) hC.pr (hC.tm (by omega))) (fun R hr => ch1 h hC hr) (by simp)
theorem gd2 {n : Nat} {am V : Int} {i : Nat} {C : List Cf} (h : Rg n am i) (hC : Cs n am V C) : Gd ((gL n am).set i (y2 am i)) C (sL n) [⟨64, -1, i, -1⟩] := by
  have a3 := h.a3
  have hs := gN_sort am i
  exact gdG h (h.gp (y := y2 am i) rfl hs (by show (1 : Int) ≤ 5 ∧ (5 : Int) ≤ 3600; decide) (by show 0 ≤ am; omega) (Int.le_refl _) (by show (0 : Int) ≤ 4; decide) (Int.le_refl _) hC.pr (hC.tm (by omega))) (fun R hr => ch2 h hC hr) (by simp)
theorem gdN {n : Nat} {am V : Int} {i : Nat} {C : List Cf} (h : Rg n am i) (hC : Cs n am V C) : Gd (gL n am) C (sL n) [] := by
  have a3 := h.a3
  have := gdS (F := []) h.hi (h.st h.hi rfl (sN_sg h.hi) hC.pr (hC.tm (by omega))) (by rw [sL_self h.hi]; exact fun R hr => chN h hC hr) (by simp)
  rw [sL_self h.hi] at this
  exact this
theorem gd4 {n : Nat} {am V : Int} {i : Nat} {C : List Cf} (h : Rg n am i) (hC : Cs n am V C) : Gd (gL n am) C ((sL n).set i (z4 n i)) [⟨60, i, ((min i ((i + 1) % n) : Nat) : Int), ((max i ((i + 1) % n) : Nat) : Int)⟩] := by
  have a3 := h.a3
  obtain ⟨_, o2⟩ := o_ne h.n2 h.hi
  refine gdS h.hi (h.st (z := z4 n i) h.hi rfl ⟨rfl, ⟨_, rfl, Nat.or_lt_two_pow (Nat.pow_lt_pow_right (by decide) h.hi) (Nat.pow_lt_pow_right (by decide) o2)⟩, ⟨rfl, rfl, rfl⟩, .inr rfl⟩ hC.pr (hC.tm (by omega))) (fun R hr => ch4 h hC hr) (by simp)
theorem gd5 {n : Nat} {am V : Int} {i : Nat} {C : List Cf} (h : Rg n am i) (hC : Cs n am V C) : Gd (gL n am) C ((sL n).set (n - 1) (z5 n)) [⟨65, ((n - 1 : Nat) : Int), -1, -1⟩] := by
  have a3 := h.a3
  have n2 := h.n2
  have hk : n - 1 < n := by omega
  refine gdS hk (h.st (z := z5 n) hk rfl ⟨rfl, (sN_sg hk).gr, ⟨rfl, rfl, rfl⟩, .inl rfl⟩ hC.pr (hC.tm (by omega))) (fun R hr => ch5 h hC hr) (by simp)
theorem gd6 {n : Nat} {am V : Int} {i : Nat} {C : List Cf} (h : Rg n am i) (hC : Cs n am V C) : Gd (gL n am) C ((sL n).set i (z6 n i)) [⟨66, -1, i, -1⟩] := by
  have a3 := h.a3
  refine gdS h.hi (h.st (z := z6 n i) h.hi rfl ⟨rfl, ⟨0, rfl, Nat.two_pow_pos n⟩, ⟨rfl, rfl, rfl⟩, .inr rfl⟩ hC.pr (hC.tm (by omega))) (fun R hr => ch6 h hC hr) (by simp)
theorem gd3 {n : Nat} {am V : Int} {i : Nat} {C : List Cf} (h : Rg n am i) (hC : Cs n am V C) {m : Nat} (hm : m < C.length) : Gd (gL n am) (C.set m (cq3 am C[m])) (sL n) [⟨61, -1, C[m].b, C[m].a⟩] := by
  have a3 := h.a3
  have a60 := h.a60
  have hp : (C.set m (cq3 am C[m])).map pr = prL n := by rw [set_pr hm (cq3 am C[m]) rfl]; exact hC.pr
  have ht : ∀ c ∈ C.set m (cq3 am C[m]), (timeB c.ab && timeB c.ba) = true := by
    intro c hc
    rcases List.mem_or_eq_of_mem_set hc with hc | rfl
    · exact hC.tm (by omega) c hc
    · have h1 := hC.tm (by omega) C[m] (List.getElem_mem hm)
      unfold timeB at h1 ⊢
      simp only [Bool.and_eq_true, decide_eq_true_eq] at h1 ⊢
      refine ⟨h1.1, ?_⟩
      show 0 ≤ am - 1 ∧ am - 1 ≤ 3600
      omega
  have q := (h.st (C := C.set m (cq3 am C[m])) h.hi rfl (sN_sg h.hi) hp ht).gd (F := [⟨61, -1, C[m].b, C[m].a⟩]) (by rw [gL_self h.hi, sL_self h.hi]; exact fun R hr => ch3 h hC hm hr) (by simp)
  rw [gL_self h.hi, sL_self h.hi] at q
  exact q
theorem gd7 {n : Nat} {am V : Int} {i : Nat} {C : List Cf} (h : Rg n am i) (hC : Cs n am V C) : Gd ((gL n am).set i (y7 am i)) (C.map (cq7 (((i + n - 1) % n : Nat) : Int) i)) (sL n) ((if i = 0 then [⟨67, -1, -1, 0⟩] else []) ++ [⟨67, (((i + n - 1) % n : Nat) : Int), -1, (i : Int)⟩]) := by
  have a3 := h.a3
  have ht : ∀ c ∈ C.map (cq7 (((i + n - 1) % n : Nat) : Int) i), (timeB c.ab && timeB c.ba) = true := by
    intro c hc
    obtain ⟨d, hd, rfl⟩ := cq7_mem hc
    have h1 := hC.tm (by omega) d hd
    unfold timeB at h1 ⊢
    simp only [Bool.and_eq_true, decide_eq_true_eq] at h1 ⊢
    constructor
    · show 0 ≤ (if _ then 3600 else d.ab) ∧ (if _ then 3600 else d.ab) ≤ 3600
      split <;> omega
    · show 0 ≤ (if _ then 3600 else d.ba) ∧ (if _ then 3600 else d.ba) ≤ 3600
      split <;> omega
  have q := (h.gp (y := y7 am i) rfl (.inl rfl) (by show (1 : Int) ≤ 5 ∧ (5 : Int) ≤ 3600; decide) (by show 0 ≤ am; omega) (Int.le_refl _) (by show (0 : Int) ≤ 3; decide) (by show (3 : Int) ≤ 4; decide) (cq7_pr hC.pr _ _) ht).gd (F := (if i = 0 then [⟨67, -1, -1, 0⟩] else []) ++ [⟨67, (((i + n - 1) % n : Nat) : Int), -1, (i : Int)⟩]) (by rw [sL_self h.hi]; exact fun R hr => ch7 h hC hr) (by split <;> simp)
  rw [sL_self h.hi] at q
  exact q
/-- A plan of three rows, as it is read. -/
theorem Rn.tpl {o : Nat → Nat} {B : Nat} {W : World} {G : List Gp} {C : List Cf} {Y : List Sv} {ga ca sa : Option Addr} {gc cc sc : Nat} {SG : List Ts} {F : List Fd} (h : Rn o B W G C Y (.slice ga G.length gc) (.slice ca C.length cc) (.slice sa SG.length sc)) (hY : Y.map (·.x) = SG) (q : Gd G C SG F) : TPl W G C [] [] [] [] SG ⟨#[114, 105, 110, 103]⟩ ga ca none none none none sa gc cc 0 0 0 0 sc 0 := by
  have lG := q.lG
  have lC := q.lC
  have lS := q.lS
  have lY : Y.length = SG.length := by rw [← hY, List.length_map]
  refine ⟨fl_ofK gp_len h.oG.own, fl_ofK cf_len h.oC.own, .inl ⟨rfl, rfl⟩, .inl ⟨rfl, rfl⟩, .inl ⟨rfl, rfl⟩, .inl ⟨rfl, rfl⟩, ?_, by omega, by omega, by simp, by simp, by simp, by simp, by omega, q.nm, by show 4 < 4611686018427387904; decide, q.so⟩
  rcases Nat.eq_zero_or_pos Y.length with e | e
  · have e2 : SG.length = 0 := by omega
    have e3 : SG = [] := List.length_eq_zero_iff.1 e2
    subst e3
    rcases h.oS.own.2 with ⟨q1, q2⟩ | ⟨g, cap, cur, q1, q2, q3, q4⟩
    · rw [show (Value.slice sa ([] : List Ts).length sc) = .slice none 0 0 from q1]; exact .inl ⟨rfl, rfl⟩
    · injection q1 with q1 _ q5
      subst q1 q5
      exact .inr ⟨⟨g, 0, none⟩, _, rfl, Nat.zero_le _, Nat.zero_le _, .inl rfl⟩
  · have how := h.oS.own
    rw [lY] at how
    obtain ⟨g, cap, e1, e2, _, hg⟩ := own_block how (by omega)
    injection e1 with e1 _ e3
    subst e1
    subst e3
    refine .inr ⟨⟨g, 0, none⟩, sc, rfl, e2, (by show SG.length ≤ _; omega), .inr ⟨rfl, trivial, hg, fun i hi => ?_⟩⟩
    have hi' : i < Y.length := by omega
    have hx : SG[i] = Y[i].x := by simp only [← hY, List.getElem_map]
    have s := h.st Y[i] (List.getElem_mem hi')
    obtain ⟨q1, q2, q3, ⟨q4, q5⟩, ⟨q6, q7⟩, q8, q9⟩ := s.q
    have mvw : Mv (Zo o) W (fun _ => True) W := Mv.weak fun _ _ _ => trivial
    rw [hx]
    refine ⟨Y[i].cs, rfl, ⟨_, _, _, _, rfl, ?_, ?_, ?_, Rows.mv s.n mvw (fun _ _ h => tnr_mv h mvw)⟩, fun j u hu => ?_⟩
    · rw [q4, q5, q1]; exact .inl ⟨rfl, rfl⟩
    · rw [q6, q7, q2]; exact .inl ⟨rfl, rfl⟩
    · rw [q8, q9, q3]; exact .inl ⟨rfl, rfl⟩
    · have hj : j < 7 := (List.getElem?_eq_some_iff.1 hu).1
      show W.cell? ⟨g, 0 + i * 7 + j, none⟩ = some u
      rw [Nat.zero_add]
      refine own_reads how rfl _ u ?_
      rw [cellsF_get sv_len Y i j hi' hj]; exact hu
end Go.Proofs.YtjfieclmagbfbaaGreatDoor
