import Derived.Test.YtbgfeogigjjmdaaHxO
namespace Go.Proofs.Ytbgfeogigjjmdaa
open Go.RowKit Go.Shelf
set_option linter.unusedVariables false

attribute [local go_sem] Oper.semAt_some

/-- The lines one behind the other. -/
def runU : Rd → Nat → List (List UInt8) → Except (Nat × Nat × Nat) Rd
  | st, _, [] => .ok st
  | st, n, x :: r => match linF st (mn (stripS x)) with
    | .error (c, col) => .error (c, n, col)
    | .ok st' => runU st' (n + 1) r
theorem runU_app : ∀ (pre : List (List UInt8)) (st : Rd) (n : Nat) (r : List (List UInt8)), runU st n (pre ++ r) = match runU st n pre with | .error e => .error e | .ok st' => runU st' (n + pre.length) r
  | [], st, n, r => rfl
  | x :: q, st, n, r => by
    simp only [List.cons_append, runU]
    cases h : linF st (mn (stripS x)) with
    | error e => obtain ⟨c, col⟩ := e; rfl
    | ok st' =>
      simp only []
      rw [runU_app q st' (n + 1) r, List.length_cons, show n + 1 + q.length = n + (q.length + 1) by omega]
theorem mn_mem {p : List UInt8} (h : 10 ∉ p) : 10 ∉ mn p := by
  intro e
  unfold mn at e
  rw [List.mem_map] at e
  obtain ⟨c, hc, e2⟩ := e
  exact h ((UInt8.toNat_inj.1 (by simpa using e2) : c = 10) ▸ hc)
theorem runU_raw : ∀ (m : Nat) (X : List UInt8), X.length ≤ m → ∀ (st : Rd) (n : Nat), runU st n (cutU X) = runL st n (rawL (mn X))
  | 0, X, h, st, n => by
    have : X = [] := List.eq_nil_of_length_eq_zero (by omega)
    subst this; rfl
  | m + 1, X, h, st, n => by
    rcases idx_split X with ⟨_, h2⟩ | ⟨p, q, rfl, h2, _⟩
    · by_cases hX : X = []
      · subst hX; rfl
      · rw [cutU_last X h2 hX, rawL_last (mn X) (mn_mem h2) (by simpa [mn] using hX)]
        simp only [runU, runL]
        rw [strip_open X h2]
        cases linF st (strip (mn X, false)) <;> rfl
    · have e : mn (p ++ 10 :: q) = mn p ++ 10 :: mn q := by simp [mn]
      rw [cutU_cut p q h2, e, rawL_cut _ _ (mn_mem h2)]
      simp only [runU, runL]
      rw [strip_end p]
      cases linF st (strip (mn p, true)) with
      | error x => rfl
      | ok st' => exact runU_raw m q (by simp at h; omega) st' (n + 1)
theorem runU_len : ∀ (ls : List (List UInt8)) (st st' : Rd) (n : Nat), runU st n ls = .ok st' → st.D.length ≤ 1048576 → st'.D.length ≤ 1048576
  | [], st, st', n, h, hl => by cases h; exact hl
  | x :: r, st, st', n, h, hl => by
    simp only [runU] at h
    cases hx : linF st (mn (stripS x)) with
    | error e => rw [hx] at h; cases h
    | ok s1 =>
      rw [hx] at h
      refine runU_len r s1 st' (n + 1) h ?_
      unfold linF at hx
      split at hx
      · cases hx
      · split at hx
        · cases hx
        · rename_i all _
          unfold recF at hx
          split at hx
          · unfold datF at hx
            split at hx
            · cases hx
            · split at hx
              · cases hx
              · split at hx
                · cases hx; exact hl
                · split at hx
                  · cases hx
                  · split at hx
                    · cases hx
                    · cases hx; simp only [List.length_append]; omega
          · split at hx
            · split at hx
              · cases hx
              · split at hx
                · cases hx
                · cases hx; exact hl
            · split at hx
              · split at hx
                · cases hx
                · split at hx
                  · cases hx
                  · split at hx
                    · cases hx
                    · cases hx; exact hl
              · cases hx
def st0 : Rd := ⟨[], false, false⟩
theorem lines_any (X : List UInt8) (w : World) :
    Calls Try.prog 18 #[.string (bs X)] w fun e w' => e = .returned (.func (.func 27) #[] #[.pointer (some ⟨w.heap.size, 0, none⟩)]) ∧ w' = w.alloc (.cells #[.string (bs X)] 9) := by
  go_enter Try.func18, Try.ntmps18
  go_wp2
  go_ret
  exact ⟨rfl, rfl⟩
theorem HR.cells {w : World} {B rb : Nat} {ln : Int} {st : Rd} (h : HR w B rb ln st) : ∃ dv, Has w rb #[.int .i64 ln, dv, .bool st.bk, .bool st.en] := by
  obtain ⟨dv, h1, _⟩ := h
  exact ⟨dv, Has.ofHeap h1⟩
theorem HR.line {w : World} {B rb : Nat} {ln : Int} {st : Rd} (h : HR w B rb ln st) (m : Int) : HR (w.setCell ⟨rb, 0, none⟩ (.int .i64 m)) B rb m st ∧ Below B w (w.setCell ⟨rb, 0, none⟩ (.int .i64 m)) ∧ Stay w (w.setCell ⟨rb, 0, none⟩ (.int .i64 m)) := by
  obtain ⟨dv, h1, h2, h3, h4⟩ := h
  refine ⟨⟨dv, ?_, own_set h2 (Lib.ownBlock_ne h2 h1 (by decide)), h3, h4⟩, (Below.refl _ _).setCell (p := ⟨rb, 0, none⟩) h3 _, Stay.set h1 _⟩
  rw [heap_setCell_same _ rb 0 _ 39 _ h1]; rfl
end Go.Proofs.Ytbgfeogigjjmdaa
