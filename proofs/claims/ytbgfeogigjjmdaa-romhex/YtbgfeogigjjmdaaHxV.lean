import Derived.Test.YtbgfeogigjjmdaaHxS
namespace Go.Proofs.Ytbgfeogigjjmdaa
set_option linter.unusedVariables false

/-- A record's line without its end. -/
def recB (kind address : Nat) (L : List Nat) : List Nat := [58] ++ hx (hd4 kind address L) ++ hx L ++ hx [chk (hd4 kind address L ++ L)]
theorem recT_B (kind address : Nat) (L : List Nat) : recT kind address L = recB kind address L ++ [10] := rfl
def allB (kind address : Nat) (L : List Nat) : List Nat := hd4 kind address L ++ L ++ [chk (hd4 kind address L ++ L)]
theorem recB_all (kind address : Nat) (L : List Nat) : recB kind address L = 58 :: hx (allB kind address L) := by
  simp [recB, allB, hx_app]
theorem chk_lt (L : List Nat) : chk L < 256 := by unfold chk; omega
theorem allB_lt {kind address : Nat} {L : List Nat} (hk : kind < 256) (hL : ∀ x ∈ L, x < 256) : ∀ x ∈ allB kind address L, x < 256 := by
  intro x hx
  unfold allB at hx
  rw [List.mem_append, List.mem_append] at hx
  rcases hx with (h | h) | h
  · exact hd4_lt hk x h
  · exact hL x h
  · rw [List.mem_singleton] at h; subst h; exact chk_lt _
theorem dg_hl {x : Nat} (h : x < 16) : dg (hl x) = x := by
  unfold dg hl
  split <;> split <;> (try split) <;> omega
theorem hl_ne {x : Nat} (h : x < 16) : hl x ≠ 10 ∧ hl x ≠ 13 := by
  unfold hl
  split <;> omega
theorem hx_mem {L : List Nat} (h : ∀ x ∈ L, x < 256) {c : Nat} (hc : c ∈ hx L) : ∃ y, y < 16 ∧ c = hl y := by
  unfold hx at hc
  rw [List.mem_flatMap] at hc
  obtain ⟨x, hx, hc⟩ := hc
  have := h x hx
  simp only [h2, List.mem_cons, List.not_mem_nil, or_false] at hc
  rcases hc with rfl | rfl
  · exact ⟨_, by omega, rfl⟩
  · exact ⟨_, by omega, rfl⟩
theorem prs_hx : ∀ (L : List Nat), (∀ x ∈ L, x < 256) → prs (hx L) = L
  | [], _ => rfl
  | x :: r, h => by
    have hx0 := h x (by simp)
    show prs (hl (x / 16) :: hl (x % 16) :: hx r) = _
    rw [prs, prs_hx r (fun y hy => h y (by simp [hy])), dg_hl (by omega), dg_hl (by omega)]
    congr 1; omega
theorem allB_len (kind address : Nat) (L : List Nat) : (allB kind address L).length = 5 + L.length := by simp [allB, hd4]; omega
theorem allB_sum (kind address : Nat) (L : List Nat) : (allB kind address L).sum % 256 = 0 := by
  unfold allB
  rw [List.sum_append]
  simp only [List.sum_cons, List.sum_nil]
  unfold chk
  omega
theorem parF_rec {kind address : Nat} {L : List Nat} (hk : kind < 256) (hL : ∀ x ∈ L, x < 256) (hl : L.length < 256) : parF (recB kind address L) = .ok (allB kind address L) := by
  have hA := allB_lt (address := address) hk hL
  rw [recB_all]
  unfold parF
  rw [if_neg (by simp)]
  have e1 : List.drop 1 (58 :: hx (allB kind address L)) = hx (allB kind address L) := rfl
  rw [e1, prs_hx _ hA]
  have e2 : badL 1 (hx (allB kind address L)) = none := by
    rw [badL_none]
    intro c hc
    obtain ⟨y, hy, rfl⟩ := hx_mem hA hc
    rw [dg_hl hy]; omega
  rw [e2]
  have e3 : (58 :: hx (allB kind address L)).length = 11 + 2 * L.length := by simp [hx_len, allB_len]; omega
  have e4 : 16 * dg ((58 :: hx (allB kind address L)).getD 1 0) + dg ((58 :: hx (allB kind address L)).getD 2 0) = L.length := by
    show 16 * dg (Go.Proofs.Ytbgfeogigjjmdaa.hl (L.length % 256 / 16)) + dg (Go.Proofs.Ytbgfeogigjjmdaa.hl (L.length % 256 % 16)) = _
    rw [dg_hl (by omega), dg_hl (by omega)]; omega
  simp only []
  rw [if_neg (by omega), e4, if_neg (by omega), if_neg (by rw [allB_sum]; omega)]
theorem linF_rec {st : Rd} {kind address : Nat} {L : List Nat} (hk : kind < 256) (hL : ∀ x ∈ L, x < 256) (hl : L.length < 256) (ha : address < 65536) (he : st.en = false) : linF st (recB kind address L) = recF st kind address L := by
  unfold linF
  rw [he, if_neg (by simp), parF_rec hk hL hl]
  have e1 : kindF (allB kind address L) = kind := rfl
  have e2 : addrF (allB kind address L) = address := by
    show 256 * (address / 256 % 256) + address % 256 = address
    omega
  have e3 : dataF (allB kind address L) = L := by
    unfold dataF
    show ((allB kind address L).drop 4).take (L.length % 256) = L
    rw [Nat.mod_eq_of_lt hl]
    show (L ++ [chk (hd4 kind address L ++ L)]).take L.length = L
    simp
  simp only [e1, e2, e3]

/-- The lines of a text, one behind the other. -/
def runB : Rd → Nat → List (List Nat) → Except (Nat × Nat × Nat) Rd
  | st, _, [] => .ok st
  | st, n, x :: r => match linF st x with
    | .error (c, col) => .error (c, n, col)
    | .ok st' => runB st' (n + 1) r
theorem runB_app : ∀ (pre : List (List Nat)) (st : Rd) (n : Nat) (r : List (List Nat)), runB st n (pre ++ r) = match runB st n pre with | .error e => .error e | .ok st' => runB st' (n + pre.length) r
  | [], st, n, r => rfl
  | x :: q, st, n, r => by
    simp only [List.cons_append, runB]
    cases h : linF st x with
    | error e => obtain ⟨c, col⟩ := e; rfl
    | ok st' =>
      simp only []
      rw [runB_app q st' (n + 1) r, List.length_cons, show n + 1 + q.length = n + (q.length + 1) by omega]
def eol (cr : Bool) : List Nat := if cr = true then [13, 10] else [10]
theorem strip_line (l : List Nat) (cr : Bool) (h : l.getLast? ≠ some 13) : strip (l ++ (if cr = true then [13] else []), true) = l := by
  unfold strip
  cases cr with
  | true => simp
  | false => simp [h]
theorem run_lines (cr : Bool) : ∀ (ls : List (List Nat)) (st : Rd) (n : Nat) (rest : List Nat), (∀ l ∈ ls, 10 ∉ l ∧ l.getLast? ≠ some 13) →
    runL st n (rawL (ls.flatMap (· ++ eol cr) ++ rest)) = match runB st n ls with | .error e => .error e | .ok st' => runL st' (n + ls.length) (rawL rest)
  | [], st, n, rest, _ => rfl
  | l :: q, st, n, rest, h => by
    have hl := h l (by simp)
    have e1 : List.flatMap (· ++ eol cr) (l :: q) ++ rest = (l ++ (if cr = true then [13] else [])) ++ 10 :: (List.flatMap (· ++ eol cr) q ++ rest) := by
      cases cr <;> simp [eol]
    have e2 : 10 ∉ l ++ (if cr = true then [13] else []) := by
      cases cr <;> simp [hl.1]
    rw [e1, rawL_cut _ _ e2]
    simp only [runL, runB, strip_line l cr hl.2]
    cases h2 : linF st l with
    | error e => obtain ⟨c, col⟩ := e; rfl
    | ok st' =>
      simp only []
      rw [run_lines cr q st' (n + 1) rest (fun x hx => h x (by simp [hx])), List.length_cons, show n + 1 + q.length = n + (q.length + 1) by omega]
theorem run_last (l : List Nat) (st : Rd) (n : Nat) (h : 10 ∉ l) (hne : l ≠ []) : runL st n (rawL l) = runB st n [l] := by
  rw [rawL_last l h hne]
  have e : strip (l, false) = l := by simp [strip]
  simp only [runL, runB, e]
  cases linF st l with
  | error e => rfl
  | ok st' => rfl
/-- The lines of the text of some data. -/
def lnK (D : List Nat) (k : Nat) : List (List Nat) := (if 0 < 16 * k / 65536 ∧ 16 * k % 65536 = 0 then [recB 4 0 [16 * k / 65536 / 256 % 256, 16 * k / 65536 % 256]] else []) ++ [recB 0 (16 * k % 65536) (pcs D k)]
def lnsK (D : List Nat) : Nat → List (List Nat)
  | 0 => []
  | k + 1 => lnsK D k ++ lnK D k
theorem lineK_ln (D : List Nat) (k : Nat) : lineK D k = (lnK D k).flatMap (· ++ [10]) := by
  unfold lineK bankK lnK
  split <;> simp [recT_B]
theorem hexK_lns (D : List Nat) : ∀ k, hexK D k = (lnsK D k).flatMap (· ++ [10])
  | 0 => rfl
  | k + 1 => by
    show hexK D k ++ lineK D k = (lnsK D k ++ lnK D k).flatMap (· ++ [10])
    rw [hexK_lns D k, lineK_ln, List.flatMap_append]
theorem pcs_lt {D : List Nat} (h : ∀ x ∈ D, x < 256) (k : Nat) : ∀ x ∈ pcs D k, x < 256 := fun x hx => h x (List.mem_of_mem_drop (List.mem_of_mem_take hx))
/-- A line whose bytes are all digits behind the colon. -/
def Good (l : List Nat) : Prop := ∃ A : List Nat, (∀ x ∈ A, x < 256) ∧ A ≠ [] ∧ l = 58 :: hx A
theorem good_rec {kind address : Nat} {L : List Nat} (hk : kind < 256) (hL : ∀ x ∈ L, x < 256) : Good (recB kind address L) :=
  ⟨_, allB_lt hk hL, by simp [allB], recB_all _ _ _⟩
theorem good_ln {D : List Nat} (h : ∀ x ∈ D, x < 256) (k : Nat) : ∀ l ∈ lnK D k, Good l := by
  intro l hl
  unfold lnK at hl
  rw [List.mem_append] at hl
  rcases hl with hl | hl
  · split at hl
    · rw [List.mem_singleton] at hl; subst hl
      exact good_rec (by omega) (by intro x hx; simp at hx; omega)
    · simp at hl
  · rw [List.mem_singleton] at hl; subst hl
    exact good_rec (by omega) (pcs_lt h k)
theorem good_lns {D : List Nat} (h : ∀ x ∈ D, x < 256) : ∀ k, ∀ l ∈ lnsK D k, Good l
  | 0, l, hl => by simp [lnsK] at hl
  | k + 1, l, hl => by
    unfold lnsK at hl
    rw [List.mem_append] at hl
    rcases hl with hl | hl
    · exact good_lns h k l hl
    · exact good_ln h k l hl
theorem run_ln (D : List Nat) (hD : ∀ x ∈ D, x < 256) (hn : D.length ≤ 1048576) (k n : Nat) (hk : 16 * k < D.length) :
    runB ⟨D.take (16 * k), false, false⟩ n (lnK D k) = .ok ⟨D.take (16 * (k + 1)), false, false⟩ := by
  have hlen : (D.take (16 * k)).length = 16 * k := by simp; omega
  have hp := pcs_len D k
  have hDt : D.take (16 * k) ++ pcs D k = D.take (16 * (k + 1)) := by
    unfold pcs
    rw [show 16 * (k + 1) = 16 * k + 16 by omega, List.take_add]
  have hdat : ∀ b : Bool, (16 * k % 65536 = 0 → 0 < k → b = true) → linF ⟨D.take (16 * k), b, false⟩ (recB 0 (16 * k % 65536) (pcs D k)) = .ok ⟨D.take (16 * (k + 1)), false, false⟩ := by
    intro b hb
    rw [linF_rec (by omega) (pcs_lt hD k) (by omega) (by omega) rfl]
    unfold recF datF
    rw [if_pos rfl]
    simp only [hlen]
    rw [if_neg (by omega), if_neg (by omega), if_neg (by omega), if_neg, if_neg (by omega), hDt]
    rintro ⟨h1, h2, h3⟩
    rw [hb (by omega) (by omega)] at h3; cases h3
  unfold lnK
  split
  · rename_i hbank
    simp only [List.cons_append, List.nil_append, runB]
    rw [linF_rec (by omega) (by intro x hx; simp at hx; omega) (by simp) (by omega) rfl]
    unfold recF
    rw [if_neg (by omega), if_neg (by omega), if_pos rfl]
    simp only [hlen]
    rw [if_neg (by simp), if_neg (by omega), if_neg]
    · simp only []
      rw [hdat true (fun _ _ => rfl)]
    · simp only [List.getD_cons_zero, List.getD_cons_succ]
      omega
  · rename_i hbank
    simp only [List.nil_append, runB]
    rw [hdat false (fun h1 h2 => absurd (⟨by omega, h1⟩ : 0 < 16 * k / 65536 ∧ 16 * k % 65536 = 0) hbank)]
theorem run_lnsK (D : List Nat) (hD : ∀ x ∈ D, x < 256) (hn : D.length ≤ 1048576) (n : Nat) : ∀ k, 16 * k < D.length + 16 → runB ⟨[], false, false⟩ n (lnsK D k) = .ok ⟨D.take (16 * k), false, false⟩
  | 0, _ => by simp [lnsK, runB]
  | k + 1, h => by
    unfold lnsK
    rw [runB_app, run_lnsK D hD hn n k (by omega)]
    exact run_ln D hD hn k _ (by omega)
theorem run_end (st : Rd) (n : Nat) (h : st.en = false) : runB st n [recB 1 0 []] = .ok ⟨st.D, st.bk, true⟩ := by
  simp only [runB]
  rw [linF_rec (by omega) (by simp) (by simp) (by omega) h]
  unfold recF
  rw [if_neg (by omega), if_pos rfl]
  simp
def lns (D : List Nat) : List (List Nat) := lnsK D ((D.length + 15) / 16) ++ [recB 1 0 []]
theorem good_all {D : List Nat} (h : ∀ x ∈ D, x < 256) : ∀ l ∈ lns D, Good l := by
  intro l hl
  unfold lns at hl
  rw [List.mem_append] at hl
  rcases hl with hl | hl
  · exact good_lns h _ l hl
  · rw [List.mem_singleton] at hl; subst hl
    exact good_rec (by omega) (by simp)
theorem run_all (D : List Nat) (hD : ∀ x ∈ D, x < 256) (hn : D.length ≤ 1048576) (n : Nat) : runB ⟨[], false, false⟩ n (lns D) = .ok ⟨D, false, true⟩ := by
  unfold lns
  rw [runB_app, run_lnsK D hD hn n _ (by omega)]
  simp only []
  rw [run_end _ _ rfl]
  simp only []
  rw [List.take_of_length_le (by omega)]
theorem hexT_lns (D : List Nat) : hexT D = (lns D).flatMap (· ++ [10]) := by
  unfold hexT lns
  rw [hexK_lns, List.flatMap_append, recT_B]; simp

/-- Small letters for great ones. -/
def lw (lo : Bool) (c : Nat) : Nat := if lo = true ∧ 65 ≤ c ∧ c ≤ 70 then c + 32 else c
theorem dg_lw (lo : Bool) (c : Nat) : dg (lw lo c) = dg c := by
  unfold lw
  split
  · unfold dg
    rw [if_neg (by omega), if_neg (by omega), if_pos (by omega), if_neg (by omega), if_pos (by omega)]
    omega
  · rfl
theorem lw_eq (lo : Bool) (c d : Nat) (hd : d ≤ 64) : lw lo c = d ↔ c = d := by
  unfold lw
  split <;> omega
theorem badL_lw (lo : Bool) : ∀ (l : List Nat) (i : Nat), badL i (l.map (lw lo)) = badL i l
  | [], i => rfl
  | c :: r, i => by
    simp only [List.map_cons, badL, dg_lw]
    rw [badL_lw lo r (i + 1)]
theorem prs_lw (lo : Bool) : ∀ (l : List Nat), prs (l.map (lw lo)) = prs l
  | [] => rfl
  | [_] => rfl
  | a :: b :: r => by simp only [List.map_cons, prs, dg_lw]; rw [prs_lw lo r]
theorem getD_dg (lo : Bool) (l : List Nat) (i : Nat) : dg ((l.map (lw lo)).getD i 0) = dg (l.getD i 0) := by
  rw [List.getD_eq_getElem?_getD, List.getD_eq_getElem?_getD, List.getElem?_map]
  cases l[i]? with
  | none => rfl
  | some c => exact dg_lw lo c
theorem parF_lw (lo : Bool) (l : List Nat) : parF (l.map (lw lo)) = parF l := by
  unfold parF
  rw [← List.map_drop, badL_lw, prs_lw, getD_dg, getD_dg, List.length_map, List.head?_map]
  have e : (Option.map (lw lo) l.head? ≠ some 58) = (l.head? ≠ some 58) := by
    cases l.head? with
    | none => simp
    | some c => simp [lw_eq lo c 58 (by omega)]
  simp only [e]
theorem linF_lw (lo : Bool) (st : Rd) (l : List Nat) : linF st (l.map (lw lo)) = linF st l := by
  unfold linF; rw [parF_lw]
theorem runB_lw (lo : Bool) : ∀ (ls : List (List Nat)) (st : Rd) (n : Nat), runB st n (ls.map (List.map (lw lo))) = runB st n ls
  | [], st, n => rfl
  | l :: r, st, n => by
    simp only [List.map_cons, runB, linF_lw]
    cases linF st l with
    | error e => rfl
    | ok st' => exact runB_lw lo r st' (n + 1)
theorem good_ne {l : List Nat} (h : Good l) : 10 ∉ l ∧ 13 ∉ l ∧ l ≠ [] := by
  obtain ⟨A, hA, _, rfl⟩ := h
  refine ⟨?_, ?_, by simp⟩
  · intro hc
    rcases List.mem_cons.1 hc with h | h
    · omega
    · obtain ⟨y, hy, e⟩ := hx_mem hA h
      exact (hl_ne hy).1 e.symm
  · intro hc
    rcases List.mem_cons.1 hc with h | h
    · omega
    · obtain ⟨y, hy, e⟩ := hx_mem hA h
      exact (hl_ne hy).2 e.symm
theorem lw_mem {lo : Bool} {l : List Nat} {d : Nat} (hd : d ≤ 64) (h : d ∉ l) : d ∉ l.map (lw lo) := by
  intro hc
  rw [List.mem_map] at hc
  obtain ⟨c, hc, e⟩ := hc
  rw [lw_eq lo c d hd] at e
  exact h (e ▸ hc)
/-- The text of some data in another dress. -/
def dress (lo cr op : Bool) (D : List Nat) : List Nat :=
  ((lnsK D ((D.length + 15) / 16)).map (List.map (lw lo))).flatMap (· ++ eol cr) ++ (recB 1 0 []).map (lw lo) ++ (if op = true then [] else eol cr)
theorem run_dress (lo cr op : Bool) (D : List Nat) (hD : ∀ x ∈ D, x < 256) (hn : D.length ≤ 1048576) : runL st0 1 (rawL (dress lo cr op D)) = .ok ⟨D, false, true⟩ := by
  have hg : ∀ l ∈ (lnsK D ((D.length + 15) / 16)).map (List.map (lw lo)), 10 ∉ l ∧ l.getLast? ≠ some 13 := by
    intro l hl
    rw [List.mem_map] at hl
    obtain ⟨l0, hl0, rfl⟩ := hl
    obtain ⟨h1, h2, _⟩ := good_ne (good_lns hD _ l0 hl0)
    exact ⟨lw_mem (by omega) h1, fun e => lw_mem (by omega) h2 (List.mem_of_getLast? e)⟩
  obtain ⟨g1, g2, g3⟩ := good_ne (good_rec (kind := 1) (address := 0) (L := []) (by omega) (by simp))
  unfold dress
  rw [List.append_assoc, run_lines cr _ _ _ _ hg, runB_lw]
  rw [show st0 = ⟨[], false, false⟩ from rfl, run_lnsK D hD hn 1 _ (by omega)]
  simp only []
  have hend : ∀ n, runB ⟨D.take (16 * ((D.length + 15) / 16)), false, false⟩ n [(recB 1 0 []).map (lw lo)] = .ok ⟨D, false, true⟩ := by
    intro n
    have := runB_lw lo [recB 1 0 []] ⟨D.take (16 * ((D.length + 15) / 16)), false, false⟩ n
    rw [List.map_cons, List.map_nil] at this
    rw [this, run_end _ _ rfl]
    simp only []
    rw [List.take_of_length_le (by omega)]
  cases op with
  | true =>
    simp only [if_true, List.append_nil]
    rw [run_last _ _ _ (lw_mem (by omega) g1) (by simpa using g3), hend]
  | false =>
    simp only [Bool.false_eq_true, if_false]
    have := run_lines cr [(recB 1 0 []).map (lw lo)] ⟨D.take (16 * ((D.length + 15) / 16)), false, false⟩ (1 + (List.map (List.map (lw lo)) (lnsK D ((D.length + 15) / 16))).length) [] (by
      intro l hl
      rw [List.mem_singleton] at hl; subst hl
      exact ⟨lw_mem (by omega) g1, fun e => lw_mem (by omega) g2 (List.mem_of_getLast? e)⟩)
    simp only [List.flatMap_cons, List.flatMap_nil, List.append_nil] at this
    rw [this, hend]
    simp [rawL, runL]
end Go.Proofs.Ytbgfeogigjjmdaa
