import Derived.Test.YtjocedfdpigjcaaTdM
import Derived.Test.YtjocedfdpigjcaaTfI
import Derived.Test.YtjocedfdpigjcaaTeE
namespace Go.Proofs.Ytjocedfdpigjcaa
open Go.RowKit
set_option linter.unusedVariables false
set_option linter.unusedSimpArgs false

theorem lo_same (m : Int) (h0 : 0 ≤ m) (h1 : m ≤ 210379679) : loF m (plG m []) = m := by
  have : plG m [] = 0 := rfl
  rw [this]; unfold loF; omega
theorem kn_week {t : Tt} (hS : t.S = []) (hX : t.X = []) (d : Int) : knF t d = t.wk.getD ((d + 5) % 7).toNat 0 := by
  unfold knF
  rw [hX, hS]; rfl
theorem rw_week {t : Tt} (hS : t.S = []) (hX : t.X = []) (d : Int) : rwF t (d + 7) = rwF t d := by
  unfold rwF
  rw [kn_week hS hX, kn_week hS hX, show (d + 7 + 5) % 7 = (d + 5) % 7 by omega]
theorem sl_of {t : Tt} (hH : t.H = []) (m : Int) (h0 : 0 ≤ m) (h1 : m ≤ 210379679) : slF t m = match lrG (m % 1440) (rwF t (m / 1440)) with
  | some x => x.s
  | none => if m / 1440 = 0 then -1 else match (rwF t (m / 1440 - 1)).getLast? with
    | some x => x.s
    | none => 0 := by
  unfold slF
  rw [hH, lo_same m h0 h1]
  first | rfl | (cases lrG (m % 1440) (rwF t (m / 1440)) <;> first | rfl | (cases (rwF t (m / 1440 - 1)).getLast? <;> rfl))
/-- A week later the same slot is in force. -/
theorem sl_week {t : Tt} (hS : t.S = []) (hX : t.X = []) (hH : t.H = []) (m : Int) (h0 : 1440 ≤ m) (h1 : m + 10080 ≤ 210379679) : slF t (m + 10080) = slF t m := by
  rw [sl_of hH m (by omega) (by omega), sl_of hH (m + 10080) (by omega) h1]
  rw [show (m + 10080) % 1440 = m % 1440 by omega, show (m + 10080) / 1440 = m / 1440 + 7 by omega, rw_week hS hX, show m / 1440 + 7 - 1 = (m / 1440 - 1) + 7 by omega, rw_week hS hX, if_neg (by omega), if_neg (by omega)]
theorem lr_late (c : Int) : ∀ (R : List Rw) (p : Option Rw), (∀ x ∈ R, c < x.m) → R.foldl (fun p x => if x.m ≤ c then some x else p) p = p
  | [], _, _ => rfl
  | x :: R, p, h => by
    have := h x (List.mem_cons_self ..)
    rw [List.foldl_cons, if_neg (by omega)]
    exact lr_late c R p fun y hy => h y (List.mem_cons_of_mem _ hy)
/-- At a row's minute that row is the last one. -/
theorem lr_row (R : List Rw) (hr : R.Pairwise (fun x y => x.m < y.m)) (i : Nat) (hi : i < R.length) : lrG R[i].m R = some R[i] := by
  have e : R = R.take (i + 1) ++ R.drop (i + 1) := (List.take_append_drop (i + 1) R).symm
  have hs : lrG R[i].m (R.take (i + 1)) = some R[i] := by rw [lr_step _ _ _ hi, if_pos (Int.le_refl _)]
  have h2 : lrG R[i].m (R.take (i + 1) ++ R.drop (i + 1)) = lrG R[i].m (R.take (i + 1)) := by
    unfold lrG
    rw [List.foldl_append]
    refine lr_late _ _ _ fun x hx => ?_
    obtain ⟨j, hj, rfl⟩ := List.getElem_of_mem hx
    rw [List.getElem_drop]
    exact List.pairwise_iff_getElem.1 hr i (i + 1 + j) hi (by simp at hj; omega) (by omega)
  rw [← e] at h2
  rw [h2, hs]
/-- At a row's minute of a day its slot is in force. -/
theorem sl_row {t : Tt} (hH : t.H = []) (d : Int) (hd : 0 ≤ d) (hd1 : d ≤ 146096) (hr : (rwF t d).Pairwise (fun x y => x.m < y.m)) (i : Nat) (hi : i < (rwF t d).length) (h0 : 0 ≤ ((rwF t d)[i]).m) (h1 : ((rwF t d)[i]).m ≤ 1439) : slF t (d * 1440 + ((rwF t d)[i]).m) = ((rwF t d)[i]).s := by
  have hl := lr_row _ hr i hi
  rw [sl_of hH _ (by omega) (by omega), show (d * 1440 + ((rwF t d)[i]).m) / 1440 = d by omega, show (d * 1440 + ((rwF t d)[i]).m) % 1440 = ((rwF t d)[i]).m by omega, hl]
/-- The plain timetable of what was made. -/
def tW (D : List Dk) (x0 x1 x2 x3 x4 x5 x6 : Int) : Tt := ⟨⟨#[116, 105, 109, 101, 116, 97, 98, 108, 101]⟩, D, x0, x1, x2, x3, x4, x5, x6, [], [], []⟩
theorem nm_inj : ∀ i : Fin 8, ∀ j : Fin 8, nmF i = nmF j → i = j := by decide
theorem nm_ok : ∀ i : Fin 8, nmB (nmF i) = true := by decide
theorem ri_of : ∀ (R : List Rw), R.Pairwise (fun x y => x.m < y.m) → riB (R.map (·.m)) = true
  | [], _ => rfl
  | [x], _ => rfl
  | x :: y :: R, h => by
    have h1 := List.pairwise_cons.1 h
    have := h1.1 y (List.mem_cons_self ..)
    show (decide (x.m < y.m) && riB ((y :: R).map (·.m))) = true
    rw [ri_of (y :: R) h1.2]
    simpa using this
theorem names_nodup {D : List Dk} (h8 : D.length ≤ 8) (hn : ∀ i (h : i < D.length), D[i].name = nmF i) : (D.map (·.name)).Nodup := by
  rw [List.nodup_iff_pairwise_ne, List.pairwise_iff_getElem]
  intro i j hi hj hij e
  simp only [List.length_map] at hi hj
  rw [List.getElem_map, List.getElem_map, hn i hi, hn j hj] at e
  have := nm_inj ⟨i, by omega⟩ ⟨j, by omega⟩ e
  have := congrArg Fin.val this
  simp at this
  omega
theorem mem_name {D : List Dk} (hn : ∀ i (h : i < D.length), D[i].name = nmF i) {x : Dk} (hx : x ∈ D) : ∃ i, i < D.length ∧ x.name = nmF i := by
  obtain ⟨i, hi, rfl⟩ := List.getElem_of_mem hx
  exact ⟨i, hi, hn i hi⟩
theorem tt_ok : nmB ⟨#[116, 105, 109, 101, 116, 97, 98, 108, 101]⟩ = true := by decide
/-- What was made is sound. -/
theorem made_err {w : World} {B : Nat} {vd : Value} {D : List Dk} {n : Nat} {x0 x1 x2 x3 x4 x5 x6 : Int} (h : Dn w B vd D) (hl : D.length = n) (h1 : 1 ≤ n) (h8 : n ≤ 8) (hr : 0 ≤ x0 ∧ x0 < (n : Int) ∧ 0 ≤ x1 ∧ x1 < (n : Int) ∧ 0 ≤ x2 ∧ x2 < (n : Int) ∧ 0 ≤ x3 ∧ x3 < (n : Int) ∧ 0 ≤ x4 ∧ x4 < (n : Int) ∧ 0 ≤ x5 ∧ x5 < (n : Int) ∧ 0 ≤ x6 ∧ x6 < (n : Int)) : (tW D x0 x1 x2 x3 x4 x5 x6).err = 0 := by
  have e1 : (tW D x0 x1 x2 x3 x4 x5 x6).nmsB = true := by
    unfold Tt.nmsB tW
    simp only [Bool.and_eq_true, List.all_eq_true]
    refine ⟨tt_ok, fun x hx => ?_⟩
    obtain ⟨i, hi, e⟩ := mem_name h.nm hx
    rw [e]; exact nm_ok ⟨i, by omega⟩
  have e2 : (tW D x0 x1 x2 x3 x4 x5 x6).limB = true := by
    unfold Tt.limB tW
    simp only [Bool.and_eq_true, List.all_eq_true, decide_eq_true_eq]
    exact ⟨⟨by omega, by decide, by decide, by decide⟩, fun x hx => by have := (h.ok x hx).2.1; omega⟩
  have e3 : (tW D x0 x1 x2 x3 x4 x5 x6).rowB = true := by
    unfold Tt.rowB tW
    simp only [Bool.and_eq_true, List.all_eq_true, decide_eq_true_eq]
    exact ⟨by omega, fun x hx => (h.ok x hx).1⟩
  have e4 : (tW D x0 x1 x2 x3 x4 x5 x6).oneB = true := by
    unfold Tt.oneB tW
    simp only [Bool.and_eq_true, decide_eq_true_eq]
    exact ⟨names_nodup (by omega) h.nm, by simp⟩
  have e5 : (tW D x0 x1 x2 x3 x4 x5 x6).clkB = true := by
    unfold Tt.clkB tW
    simp only [Bool.and_eq_true, List.all_eq_true]
    refine ⟨fun x hx y hy => ?_, fun x hx => by simp at hx⟩
    have := (h.ok x hx).2.2.1 y hy
    simp only [rwB, inB, Bool.and_eq_true, decide_eq_true_eq]
    omega
  have e6 : (tW D x0 x1 x2 x3 x4 x5 x6).datB = true := rfl
  have e7 : (tW D x0 x1 x2 x3 x4 x5 x6).kinB = true := by
    unfold Tt.kinB Tt.wk tW kdB
    simp only [Bool.and_eq_true, List.all_eq_true, decide_eq_true_eq]
    refine ⟨fun x hx => ?_, fun x hx => by simp at hx, fun x hx => by simp at hx⟩
    simp only [List.mem_cons, List.not_mem_nil, or_false] at hx
    rw [hl]
    rcases hx with rfl | rfl | rfl | rfl | rfl | rfl | rfl <;> omega
  have e8 : (tW D x0 x1 x2 x3 x4 x5 x6).ordB = true := by
    unfold Tt.ordB tW
    simp only [Bool.and_eq_true, List.all_eq_true]
    exact ⟨fun x hx => ri_of _ (h.ok x hx).2.2.2, rfl⟩
  unfold Tt.err
  rw [e1, e2, e3, e4, e5, e6, e7, e8]
  rfl
/-- What was made, as it is read. -/
theorem made_tr {w : World} {B dcp : Nat} {da : Option Addr} {D : List Dk} {n : Nat} {x0 x1 x2 x3 x4 x5 x6 : Int} (h : Dn w B (.slice da n dcp) D) (hl : D.length = n) (h1 : 1 ≤ n) (h8 : n ≤ 8) : TR w (tW D x0 x1 x2 x3 x4 x5 x6) (.slice da D.length dcp) (.slice none 0 0) (.slice none 0 0) (.slice none 0 0) := by
  subst hl
  obtain ⟨g, cap, e, hc, _, _⟩ := own_block h.own (by omega)
  injection e with e1 _ e3
  subst e1 e3
  refine ⟨fl_pre (cs := Dk.cs) (ms := []) (fun _ => rfl) (by rw [List.append_nil]; exact h.own) rfl hc, ?_, .inl ⟨rfl, rfl⟩, .inl ⟨rfl, rfl⟩, .inl ⟨rfl, rfl⟩, ?_, ?_, (by show 0 ≤ _; omega), (by show 0 ≤ _; omega), (by show 0 ≤ _; omega), (by show 9 ≤ _; omega), ?_, fun x hx => by simp [tW] at hx⟩
  · intro x hx
    have hk := h.ok x hx
    have ho := h.rows x hx
    obtain ⟨g2, cap2, e2, hc2, _, _⟩ := own_block ho hk.1
    rw [e2] at ho
    rw [e2]
    exact fl_pre (ms := []) rw_len (by rw [List.append_nil]; exact ho) rfl hc2
  · show D.length ≤ _; omega
  · intro x hx
    have := (h.ok x hx).2.1; omega
  · intro x hx
    obtain ⟨i, hi, e⟩ := mem_name h.nm hx
    have := nm_len i (by omega)
    rw [e]; omega
set_option maxRecDepth 100000 in
set_option maxHeartbeats 4000000 in
theorem at_w {w : World} {B dcp : Nat} {da : Option Addr} {D : List Dk} {n : Nat} {x0 x1 x2 x3 x4 x5 x6 : Int} (h : Dn w B (.slice da n dcp) D) (hl : D.length = n) (h1 : 1 ≤ n) (h8 : n ≤ 8) (hr : 0 ≤ x0 ∧ x0 < (n : Int) ∧ 0 ≤ x1 ∧ x1 < (n : Int) ∧ 0 ≤ x2 ∧ x2 < (n : Int) ∧ 0 ≤ x3 ∧ x3 < (n : Int) ∧ 0 ≤ x4 ∧ x4 < (n : Int) ∧ 0 ≤ x5 ∧ x5 < (n : Int) ∧ 0 ≤ x6 ∧ x6 < (n : Int)) (m : Int) (m0 : 0 ≤ m) (m1 : m ≤ 210379679) (z : Int) (hz : slF (tW D x0 x1 x2 x3 x4 x5 x6) m = z) :
    Calls Try.prog 7 #[.agg #[.string ⟨#[116, 105, 109, 101, 116, 97, 98, 108, 101]⟩, .slice da n dcp, .int .i64 x0, .int .i64 x1, .int .i64 x2, .int .i64 x3, .int .i64 x4, .int .i64 x5, .int .i64 x6, .slice none 0 0, .slice none 0 0, .slice none 0 0], .int .i64 m] w fun e w' => e = .returned (.tuple #[.int .i64 z, .int .i64 0]) ∧ Below w.heap.size w w' := by
  have he : erF (tW D x0 x1 x2 x3 x4 x5 x6) m 210379679 = 0 := by
    unfold erF
    rw [if_pos (made_err h hl h1 h8 hr), if_pos ⟨m0, m1⟩]
  have ha : atA (tW D x0 x1 x2 x3 x4 x5 x6) m = z := by
    unfold atA
    rw [if_pos he]; exact hz
  have := at_any m (tW D x0 x1 x2 x3 x4 x5 x6) da none none none dcp 0 0 0 w (made_tr h hl h1 h8)
  rw [he, ha] at this
  subst hl
  exact this
end Go.Proofs.Ytjocedfdpigjcaa
