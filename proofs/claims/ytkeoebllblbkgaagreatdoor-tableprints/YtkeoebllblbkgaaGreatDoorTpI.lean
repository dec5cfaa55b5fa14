import Derived.Test.YtkeoebllblbkgaaGreatDoorTpH
import Derived.Test.YtkeoebllblbkgaaGreatDoorTbH
namespace Go.Proofs.YtkeoebllblbkgaaGreatDoor
open Go.RowKit
set_option linter.unusedVariables false
set_option linter.unusedSimpArgs false

theorem err_zero {t : Tt} (h : t.err = 0) : t.nmsB = true ∧ t.limB = true ∧ t.rowB = true ∧ t.oneB = true ∧ t.clkB = true ∧ t.datB = true ∧ t.kinB = true ∧ t.ordB = true := by
  unfold Tt.err at h
  cases h1 : t.nmsB <;> cases h2 : t.limB <;> cases h3 : t.rowB <;> cases h4 : t.oneB <;> cases h5 : t.clkB <;> cases h6 : t.datB <;> cases h7 : t.kinB <;> cases h8 : t.ordB <;> simp_all
def rowF (r : Rw) : List UInt8 := lnF [[32, 32, 97, 116], ckF r.m.toNat, slF r.s]
def dayF (x : Dk) : List UInt8 := lnF [[100, 97, 121], x.name.data.toList] ++ (x.rows.map rowF).flatten
def snF (D : List Dk) (s : Sn) : List UInt8 := lnF [[115, 101, 97, 115, 111, 110], dtF s.fr, dtF s.till, Lib.join (s.wk.map (nmL D)) [32]]
def exF (D : List Dk) (x : Ex) : List UInt8 := lnF [[111, 110], dtF x.day, nmL D x.kind]
def shF (h : Sh) : List UInt8 := lnF [[115, 104, 105, 102, 116], dtF (h.m / 1440), ckF (h.m % 1440).toNat, puF h.plus]
def hdF (t : Tt) : List UInt8 := lnF [[116, 105, 109, 101, 116, 97, 98, 108, 101], t.nm.data.toList]
def weF (t : Tt) : List UInt8 := lnF [[119, 101, 101, 107], Lib.join (t.wk.map (nmL t.D)) [32]]
/-- The one text of a timetable. -/
def prF (t : Tt) : List UInt8 := ((((hdF t ++ (t.D.map dayF).flatten) ++ weF t) ++ (t.S.map (snF t.D)).flatten) ++ (t.X.map (exF t.D)).flatten) ++ (t.H.map shF).flatten
theorem flat_step {α : Type} (f : α → List UInt8) (L : List α) (k : Nat) (h : k < L.length) : ((L.take (k + 1)).map f).flatten = ((L.take k).map f).flatten ++ f L[k] := by
  rw [List.take_succ_eq_append_getElem h, List.map_append, List.flatten_append]
  simp only [List.map_cons, List.map_nil, List.flatten_cons, List.flatten_nil, List.append_nil]
theorem dt_len (n : Int) : (dtF n).length ≤ 10 := dtP_len _ n
theorem sl_len (s : Int) (h0 : -1 ≤ s) (h1 : s ≤ 7) : (slF s).length ≤ 10 := by
  unfold slF
  split
  · show 5 ≤ 10; omega
  · obtain ⟨k, rfl⟩ : ∃ k : Nat, s = (k : Int) := ⟨s.toNat, by omega⟩
    rw [itoa_nat, decDigits_small k (by omega)]; show 6 ≤ 10; omega
theorem pu_len (p : Int) (h0 : -720 ≤ p) (h1 : p ≤ 840) : (puF p).length ≤ 6 := by
  have := ti_len p (by omega) (by omega)
  unfold ti at this
  rw [bs_size] at this
  unfold puF
  split
  · omega
  · rw [List.length_cons]; omega
theorem bs_back (l : List UInt8) : (bs l).data.toList = l := by unfold bs; simp
theorem join_sum : ∀ (ws : List (List UInt8)), (∀ x ∈ ws, x.length ≤ 1000) → (Lib.joinTail [32] ws).length ≤ 1001 * ws.length
  | [], _ => by simp [Lib.joinTail]
  | x :: ws, h => by
    have := join_sum ws (fun y hy => h y (List.mem_cons_of_mem _ hy))
    have h1 := h x (List.mem_cons_self ..)
    have e : (Lib.joinTail [32] (x :: ws)).length = ([32] ++ x).length + (Lib.joinTail [32] ws).length := by
      unfold Lib.joinTail
      rw [List.map_cons, List.flatten_cons, List.length_append]
    rw [e, List.length_append, List.length_cons]
    simp only [List.length_cons, List.length_nil]
    omega
theorem ln_len (ws : List (List UInt8)) (h : ∀ x ∈ ws, x.length ≤ 1000) (hn : ws.length ≤ 4) : (Lib.join ws [32]).length ≤ 6000 := by
  match ws, h, hn with
  | [], _, _ => simp [Lib.join_nil]
  | x :: ws, h, hn =>
    rw [Lib.join_cons, List.length_append]
    have h1 := h x (List.mem_cons_self ..)
    have := join_sum ws (fun y hy => h y (List.mem_cons_of_mem _ hy))
    simp only [List.length_cons] at hn
    omega
theorem lnF_len (ws : List (List UInt8)) (h : ∀ x ∈ ws, x.length ≤ 1000) (hn : ws.length ≤ 4) : (lnF ws).length ≤ 6001 := by
  unfold lnF
  rw [List.length_append]
  have := ln_len ws h hn
  simp only [List.length_cons, List.length_nil]
  omega
/-- A line of words that are built there. -/
theorem line_new (B b : Nat) (T : List UInt8) (xs : List ByteArray) (W : World) (hI : Lib.IsBuilder 55 5 B b (Lib.byteCells T) W) (hB : B ≤ W.heap.size) (hT : T.length ≤ 1000000000) (hn : xs.length ≤ 4) (hx : ∀ x ∈ xs, x.size ≤ 1000) :
    Calls Tryz.prog 10 #[.pointer (some ⟨b, 0, none⟩), .slice (some ⟨W.heap.size, 0, none⟩) xs.length xs.length] (W.alloc (.cells (xs.map Value.string).toArray 9)) fun e w' => e = .returned (.tuple #[]) ∧ Lib.IsBuilder 55 5 B b (Lib.byteCells (T ++ lnF (xs.map (·.data.toList)))) w' ∧ Below B W w' ∧ Stay W w' := by
  refine (line_any B b W.heap.size xs.length T xs (W.alloc (.cells (xs.map Value.string).toArray 9)) (isB_below hI bel1) (Nat.le_trans hB bel1.size) hT (by simp) (fun j x hx => ?_) (by omega) (Nat.le_refl _) ?_).mono ?_
  · rw [(Has.new W (xs.map Value.string).toArray 9 rfl).2.1 j]; simp [hx]
  · have := ln_len (xs.map (·.data.toList)) (fun l hl => by obtain ⟨x, hx2, rfl⟩ := List.mem_map.1 hl; have := hx x hx2; rw [Array.length_toList]; exact this) (by simpa using hn)
    omega
  · rintro e w' ⟨h1, h2, h3, h4⟩
    exact ⟨h1, h2, ((Below.refl B W).alloc hB _).trans h3, (Stay.alloc W _).trans h4⟩
theorem line2 (B b : Nat) (T : List UInt8) (x0 x1 : ByteArray) (W : World) (g : Nat) (hg : g = W.heap.size) (hI : Lib.IsBuilder 55 5 B b (Lib.byteCells T) W) (hB : B ≤ W.heap.size) (hT : T.length ≤ 1000000000) (hx : x0.size ≤ 1000 ∧ x1.size ≤ 1000) :
    Calls Tryz.prog 10 #[.pointer (some ⟨b, 0, none⟩), .slice (some ⟨g, 0, none⟩) 2 2] (W.alloc (.cells #[.string x0, .string x1] 9)) fun e w' => e = .returned (.tuple #[]) ∧ Lib.IsBuilder 55 5 B b (Lib.byteCells (T ++ lnF [x0.data.toList, x1.data.toList])) w' ∧ Below B W w' ∧ Stay W w' := by
  subst hg
  exact line_new B b T [x0, x1] W hI hB hT (by show 2 ≤ 4; omega) (fun x h => by simp only [List.mem_cons, List.not_mem_nil, or_false] at h; rcases h with rfl | rfl <;> omega)
theorem line3 (B b : Nat) (T : List UInt8) (x0 x1 x2 : ByteArray) (W : World) (g : Nat) (hg : g = W.heap.size) (hI : Lib.IsBuilder 55 5 B b (Lib.byteCells T) W) (hB : B ≤ W.heap.size) (hT : T.length ≤ 1000000000) (hx : x0.size ≤ 1000 ∧ x1.size ≤ 1000 ∧ x2.size ≤ 1000) :
    Calls Tryz.prog 10 #[.pointer (some ⟨b, 0, none⟩), .slice (some ⟨g, 0, none⟩) 3 3] (W.alloc (.cells #[.string x0, .string x1, .string x2] 9)) fun e w' => e = .returned (.tuple #[]) ∧ Lib.IsBuilder 55 5 B b (Lib.byteCells (T ++ lnF [x0.data.toList, x1.data.toList, x2.data.toList])) w' ∧ Below B W w' ∧ Stay W w' := by
  subst hg
  exact line_new B b T [x0, x1, x2] W hI hB hT (by show 3 ≤ 4; omega) (fun x h => by simp only [List.mem_cons, List.not_mem_nil, or_false] at h; rcases h with rfl | rfl | rfl <;> omega)
theorem line4 (B b : Nat) (T : List UInt8) (x0 x1 x2 x3 : ByteArray) (W : World) (g : Nat) (hg : g = W.heap.size) (hI : Lib.IsBuilder 55 5 B b (Lib.byteCells T) W) (hB : B ≤ W.heap.size) (hT : T.length ≤ 1000000000) (hx : x0.size ≤ 1000 ∧ x1.size ≤ 1000 ∧ x2.size ≤ 1000 ∧ x3.size ≤ 1000) :
    Calls Tryz.prog 10 #[.pointer (some ⟨b, 0, none⟩), .slice (some ⟨g, 0, none⟩) 4 4] (W.alloc (.cells #[.string x0, .string x1, .string x2, .string x3] 9)) fun e w' => e = .returned (.tuple #[]) ∧ Lib.IsBuilder 55 5 B b (Lib.byteCells (T ++ lnF [x0.data.toList, x1.data.toList, x2.data.toList, x3.data.toList])) w' ∧ Below B W w' ∧ Stay W w' := by
  subst hg
  exact line_new B b T [x0, x1, x2, x3] W hI hB hT (by show 4 ≤ 4; omega) (fun x h => by simp only [List.mem_cons, List.not_mem_nil, or_false] at h; rcases h with rfl | rfl | rfl | rfl <;> omega)
end Go.Proofs.YtkeoebllblbkgaaGreatDoor
