import Derived.Test.YtddphepgcihdbaaTnR
namespace Go.Proofs.Ytddphepgcihdbaa
open Go.RowKit Go.Shelf
set_option linter.unusedVariables false
set_option linter.unusedSimpArgs false

/-- What a round may turn: old blocks that are not of R, and its own. -/
def Tu (B : Nat) (R U : Nat → Prop) (k : Nat) : Prop := (k < B ∧ ¬ R k) ∨ U k
/-- What an iterator may turn: new blocks that are not the rounds' own. -/
def It (B : Nat) (U : Nat → Prop) (k : Nat) : Prop := B ≤ k ∧ ¬ U k
/-- How what is the rounds' own grows. -/
def Gr (U U' : Nat → Prop) (a b : World) : Prop := ∀ k, U' k → (U k ∨ a.heap.size ≤ k) ∧ k < b.heap.size
/-- Nothing of S is the rounds' own. -/
def NU (S U : Nat → Prop) : Prop := ∀ k, S k → ¬ U k
theorem NU.gr {S U U' : Nat → Prop} {a b : World} (h : NU S U) (g : Gr U U' a b) (hS : ∀ k, S k → k < a.heap.size) : NU S U' := by
  intro k hk hu
  rcases (g k hu).1 with h1 | h1
  · exact h k hk h1
  · have := hS k hk; omega
/-- An iterator as SeqAt, whose rounds may have blocks of their own, which it leaves as they are. -/
def SeqU {α : Type} (n gf : Nat) (lb : Array Value) (enc : α → Array Value) (L : List α) (R : Nat → Prop) (W : World) : Prop :=
  ∀ (l : Nat) (J Jx : List α → (Nat → Prop) → World → Prop),
    (∀ pre U A, J pre U A → ∀ k, U k → k < A.heap.size) →
    (∀ pre U A A', J pre U A → Only (It W.heap.size U) A A' → J pre U A') →
    (∀ pre U A A', Jx pre U A → Only (It W.heap.size U) A A' → Jx pre U A') →
    (∀ pre x U W1, J pre U W1 → pre ++ [x] <+: L → W.heap.size ≤ W1.heap.size → YieldAt Fence.wide (n - 1) Try.prog l (enc x) W1 fun e W' =>
      ∃ U', Gr U U' W1 W' ∧ Only (Tu W.heap.size R U) W1 W' ∧ ((e = .returned (.bool true) ∧ J (pre ++ [x]) U' W') ∨ (e = .returned (.bool false) ∧ Jx (pre ++ [x]) U' W'))) →
    ∀ U0 : Nat → Prop, NU R U0 → J [] U0 W →
    CallsIn Fence.wide n Try.prog gf (#[.func (.yield l) #[] #[]] ++ lb) W fun e W' => (∃ v, e = .returned v) ∧ ((∃ U, J L U W') ∨ ∃ pre U, pre <+: L ∧ Jx pre U W')
/-- How a round may be left. -/
def endU {α : Type} (I : List α → (Nat → Prop) → World → Prop) (Ix : Code → List α → (Nat → Prop) → World → Prop) (B : Nat) (R U : Nat → Prop) (ys : List α) (W : World) : Exit → Act → World → Prop
  | .normal, _, W' => ∃ U', Gr U U' W W' ∧ Only (Tu B R U) W W' ∧ I ys U' W'
  | .ret, _, W' => ∃ U', Gr U U' W W' ∧ Only (Tu B R U) W W' ∧ Ix .ret ys U' W'
  | .exit id, _, W' => ∃ U', Gr U U' W W' ∧ Only (Tu B R U) W W' ∧ Ix (.exit id) ys U' W'
  | .goto t, _, W' => ∃ U', Gr U U' W W' ∧ Only (Tu B R U) W W' ∧ Ix (.goto t) ys U' W'
  | .panic _, _, _ => False
  | .outgrown, _, _ => False
theorem Only.tu {B B' : Nat} {R U : Nat → Prop} {a b : World} (h : Only (Tu B R U) a b) (hB : B ≤ B') : Only (Tu B' R U) a b := h.mono (fun k hk => hk.elim (fun x => .inl ⟨Nat.lt_of_lt_of_le x.1 hB, x.2⟩) .inr)
theorem Only.it {B B' : Nat} {U : Nat → Prop} {a b : World} (h : Only (It B' U) a b) (hB : B ≤ B') : Only (It B U) a b := h.mono (fun k hk => ⟨Nat.le_trans hB hk.1, hk.2⟩)
theorem put_it {B r : Nat} {U : Nat → Prop} (w : World) (o : Obj) (h1 : B ≤ r) (h2 : ¬ U r) : Only (It B U) w (w.putObj r o) := (Only.refl _ w).put o ⟨h1, h2⟩

/-- A range over such an iterator, outside of any other. -/
theorem rangeU_out {α : Type} {n gf : Nat} {lb : Array Value} {enc : α → Array Value} {L : List α} {R : Nat → Prop} {g : Operand} {ps : Array Tmp} {assign body : Code} {Q : Exit → Act → World → Prop} {a : Act} {w : World}
    (hg : a.eval g = .func (.func gf) #[] lb) (eg : ∀ args w, (callFunc gf args).run Try.prog w = .ok (.enter gf args) w) (hps : ∀ x, (enc x).size = ps.size)
    (hseq : ∀ V, Below w.heap.size w V → SeqU (n - 1) gf lb enc L R V) (hR : ∀ k, R k → k < w.heap.size)
    (I : List α → (Nat → Prop) → World → Prop) (Ix : Code → List α → (Nat → Prop) → World → Prop) (Ax : α → (Nat → Prop) → Act → World → Prop)
    (hIU : ∀ pre U A, I pre U A → ∀ k, U k → k < A.heap.size) (hI : ∀ pre U A B, I pre U A → Only (It w.heap.size U) A B → I pre U B) (hIx : ∀ c pre U A B, Ix c pre U A → Only (It w.heap.size U) A B → Ix c pre U B) (hAx : ∀ x U a' A B, Ax x U a' A → Only (fun k => k = w.heap.size + 1) A B → Ax x U a' B) (U0 : Nat → Prop) (hU0 : NU R U0) (h0 : I [] U0 w)
    (hassign : ∀ (l : Nat) (pre : List α) (x : α) (U : Nat → Prop) (W : World) (K : Act → World → Prop), I pre U W → w.heap.size + 2 ≤ W.heap.size → (∀ a' W', Below W.heap.size W W' → Ax x U a' W' → K a' W') →
      assign.wpIn (Fence.wide.inRound l) (n - 1 - 1) Try.prog (Exit.then K (fun _ _ _ => False)) { tmps := (ps.zip (enc x)).foldl (fun t (p, v) => t.setIfInBounds p v) a.tmps, defers := [] } W)
    (hbody : ∀ (pre : List α) (x : α) (U : Nat → Prop) (a' : Act) (W : World), I pre U W → Ax x U a' W → NU (fun k => w.heap.size ≤ k ∧ k < w.heap.size + 2) U → pre ++ [x] <+: L → w.heap.size + 2 ≤ W.heap.size → (∃ r, W.heap[w.heap.size + 1]? = some (.loop r)) → body.wpIn (Fence.wide.inRound (w.heap.size + 1)) (n - 1 - 1) Try.prog (endU I Ix w.heap.size R U (pre ++ [x]) W) a' W)
    (hdone : ∀ (U : Nat → Prop) (W : World), I L U W → NU (fun k => w.heap.size ≤ k ∧ k < w.heap.size + 2) U → W.heap[w.heap.size]? = some (.deferred (some [])) → w.heap.size + 2 ≤ W.heap.size → Q .normal { a with defers := { target := .collected w.heap.size, args := #[] } :: a.defers } W)
    (hstop : ∀ (c : Code) (pre : List α) (U : Nat → Prop) (W : World), pre <+: L → Ix c pre U W → NU (fun k => w.heap.size ≤ k ∧ k < w.heap.size + 2) U → W.heap[w.heap.size]? = some (.deferred (some [])) → w.heap.size + 2 ≤ W.heap.size → c.wpIn Fence.wide n Try.prog Q { a with defers := { target := .collected w.heap.size, args := #[] } :: a.defers } W) :
    (Code.rangeFunc g ps assign body).wpIn Fence.wide n Try.prog Q a w := by
  refine wpIn_rangeFunc ?_
  intro fn hfn
  obtain ⟨rec, hrec⟩ : ∃ rec : LoopState → Option Code → Loop, rec = fun st pe => { state := st, pending := pe, fn, tmps := a.tmps, params := ps, assign, body, defers := w.heap.size } := ⟨_, rfl⟩
  have hbel : Below w.heap.size w ((w.alloc (.deferred (some []))).alloc (.loop (rec .ready none))) := ((Below.refl _ w).alloc (Nat.le_refl _) _).alloc (by simp) _
  have hsz : ((w.alloc (.deferred (some []))).alloc (.loop (rec .ready none))).heap.size = w.heap.size + 2 := by simp
  have hrun := run_enterLoop_outer (P := Try.prog) (w := w) fn a.tmps ps assign body
  have hrw : ((w.alloc (.deferred (some []))).alloc (.loop { state := .ready, pending := none, fn := fn, tmps := a.tmps, params := ps, assign := assign, body := body, defers := w.heap.size })) = ((w.alloc (.deferred (some []))).alloc (.loop (rec .ready none))) := by rw [hrec]
  rw [hrw] at hrun
  have hL : ((w.alloc (.deferred (some []))).alloc (.loop (rec .ready none))).heap[w.heap.size + 1]? = some (.loop (rec .ready none)) := by
    have := World.alloc_heap_new (w.alloc (.deferred (some []))) (.loop (rec .ready none))
    rwa [World.size_alloc] at this
  have hD : ((w.alloc (.deferred (some []))).alloc (.loop (rec .ready none))).heap[w.heap.size]? = some (.deferred (some [])) :=
    (Below.heap_alloc _ _ _ (by simp)).trans (World.alloc_heap_new w _)
  generalize ((w.alloc (.deferred (some []))).alloc (.loop (rec .ready none))) = V at hbel hsz hrun hL hD
  refine ⟨w.heap.size + 1, [{ target := .collected w.heap.size, args := #[] }], V, { target := .fn (.func gf) lb, args := #[.func (.yield (w.heap.size + 1)) #[] #[]] }, V, gf, #[.func (.yield (w.heap.size + 1)) #[] #[]] ++ lb, V, hrun, ?_, fun _ _ => trivial, ?_, fun h => (by cases h), ?_⟩
  · simp only [resolve, hg]
    simp [go_sem]
  · simp [invoke, go_sem, eg]
  · have rL : ∀ U, Tu V.heap.size R U (w.heap.size + 1) := fun U => .inl ⟨by omega, fun h => by have := hR _ h; omega⟩
    have hU0' := hIU _ _ _ h0
    refine (hseq V hbel (w.heap.size + 1)
      (fun pre U W => I pre U W ∧ NU (fun k => w.heap.size ≤ k ∧ k < w.heap.size + 2) U ∧ W.heap[w.heap.size + 1]? = some (.loop (rec .ready none)) ∧ W.heap[w.heap.size]? = some (.deferred (some [])))
      (fun pre U W => ∃ c, Ix c pre U W ∧ NU (fun k => w.heap.size ≤ k ∧ k < w.heap.size + 2) U ∧ W.heap[w.heap.size + 1]? = some (.loop (rec .done (some c))) ∧ W.heap[w.heap.size]? = some (.deferred (some [])))
      (fun pre U A h => hIU _ _ _ h.1) ?_ ?_ ?_ U0 hU0 ⟨hI _ _ _ _ h0 (Only.of_below hbel), fun k hk hu => by have := hU0' k hu; omega, hL, hD⟩).mono ?_
    · rintro pre U A B ⟨h1, h4, h2, h3⟩ hO
      have z2 := (Array.getElem?_eq_some_iff.1 h2).1
      exact ⟨hI _ _ _ _ h1 (hO.it (by omega)), h4, (hO.block _ z2 (fun x => by have := x.1; omega)).trans h2, (hO.block _ (by omega) (fun x => by have := x.1; omega)).trans h3⟩
    · rintro pre U A B ⟨c, h1, h4, h2, h3⟩ hO
      have z2 := (Array.getElem?_eq_some_iff.1 h2).1
      exact ⟨c, hIx _ _ _ _ _ h1 (hO.it (by omega)), h4, (hO.block _ z2 (fun x => by have := x.1; omega)).trans h2, (hO.block _ (by omega) (fun x => by have := x.1; omega)).trans h3⟩
    · rintro pre x U Wa ⟨hi, hnu, hl1, hk1⟩ hp hWa
      have nl : ¬ U (w.heap.size + 1) := hnu _ ⟨by omega, by omega⟩
      have hy := run_yield (P := Try.prog) (args := enc x) hl1 (by rw [hrec]; exact hps x)
      rw [hrec] at hy
      refine ⟨fn, _, assign, body, hy, roundIn_of_wpIn hfn (hassign _ pre x U Wa _ hi (by omega) ?_)⟩
      intro a' Wb hab hax
      have hl2 := (hab.block _ (by omega)).trans hl1
      have hk2 := (hab.block _ (by omega)).trans hk1
      have hib := hI _ _ _ _ hi (Only.of_below hab)
      have hsb := hab.size
      have hl3 : (Wb.putObj (w.heap.size + 1) (.loop { rec .ready none with state := .busy })).heap[w.heap.size + 1]? = some (.loop { rec .ready none with state := .busy }) := World.putObj_heap_same (by omega)
      have hk3 : (Wb.putObj (w.heap.size + 1) (.loop { rec .ready none with state := .busy })).heap[w.heap.size]? = some (.deferred (some [])) := (World.putObj_heap_other (by omega)).trans hk2
      refine ⟨_, run_beginRound hl2 (by rw [hrec]), wpIn_mono (hbody pre x U a' _ (hI _ _ _ _ hib (put_it _ _ (by omega) nl)) (hAx _ _ _ _ _ hax ((Only.refl _ _).put _ rfl)) hnu hp (by simp; omega) ⟨_, hl3⟩) ?_⟩
      have hs3 : (Wb.putObj (w.heap.size + 1) (.loop { rec .ready none with state := .busy })).heap.size = Wb.heap.size := by simp
      have fin : ∀ (jump : Option Code) (U' : Nat → Prop) (W3 : World), Gr U U' (Wb.putObj (w.heap.size + 1) (.loop { rec .ready none with state := .busy })) W3 → Only (Tu w.heap.size R U) (Wb.putObj (w.heap.size + 1) (.loop { rec .ready none with state := .busy })) W3 →
          ∃ W4, (Instr.endRound (w.heap.size + 1) jump).run Try.prog W3 = .ok (.bool jump.isNone) W4 ∧ Only (It w.heap.size U') W3 W4 ∧ NU (fun k => w.heap.size ≤ k ∧ k < w.heap.size + 2) U' ∧ W4.heap[w.heap.size + 1]? = some (.loop (rec (if jump.isNone then .ready else .done) jump)) ∧ W4.heap[w.heap.size]? = some (.deferred (some [])) ∧
            Gr U U' Wa W4 ∧ Only (Tu V.heap.size R U) Wa W4 := by
        intro jump U' W3 hg hK
        have nk : ∀ k, w.heap.size ≤ k → k < w.heap.size + 2 → ¬ Tu w.heap.size R U k := fun k h1 h2 h => h.elim (fun x => by have := x.1; omega) (fun x => hnu k ⟨h1, h2⟩ x)
        have hl4 := (hK.block (w.heap.size + 1) (by omega) (nk _ (by omega) (by omega))).trans hl3
        have hk4 := (hK.block w.heap.size (by omega) (nk _ (by omega) (by omega))).trans hk3
        have hz4 := hK.size
        have hnu' : NU (fun k => w.heap.size ≤ k ∧ k < w.heap.size + 2) U' := hnu.gr hg (fun k hk => by have := hk.2; omega)
        have hr := run_endRound (P := Try.prog) jump hl4
        refine ⟨_, hr, put_it _ _ (by omega) (hnu' _ ⟨by omega, by omega⟩), hnu', ?_, (World.putObj_heap_other (by omega)).trans hk4, ?_, ?_⟩
        · rw [World.putObj_heap_same (by omega), hrec]
        · intro k hk
          obtain ⟨h1, h2⟩ := hg k hk
          exact ⟨h1.imp id (fun h => by omega), by simpa using h2⟩
        · exact (((Only.of_below hab).put _ (rL U)).trans (hK.tu (by omega))).put _ (rL U)
      rintro e a3 W3 hp3
      cases e with
      | normal =>
        obtain ⟨U', hg, hO, hq⟩ := hp3
        obtain ⟨W4, hr, h1, h2, h3, h4, h5, h6⟩ := fin none U' W3 hg hO
        exact ⟨_, _, hr, U', h5, h6, .inl ⟨rfl, hI _ _ _ _ hq h1, h2, h3, h4⟩⟩
      | ret =>
        obtain ⟨U', hg, hO, hq⟩ := hp3
        obtain ⟨W4, hr, h1, h2, h3, h4, h5, h6⟩ := fin (some .ret) U' W3 hg hO
        exact ⟨_, _, hr, U', h5, h6, .inr ⟨rfl, .ret, hIx _ _ _ _ _ hq h1, h2, h3, h4⟩⟩
      | exit id =>
        obtain ⟨U', hg, hO, hq⟩ := hp3
        obtain ⟨W4, hr, h1, h2, h3, h4, h5, h6⟩ := fin (some (.exit id)) U' W3 hg hO
        exact ⟨_, _, hr, U', h5, h6, .inr ⟨rfl, .exit id, hIx _ _ _ _ _ hq h1, h2, h3, h4⟩⟩
      | goto t =>
        obtain ⟨U', hg, hO, hq⟩ := hp3
        obtain ⟨W4, hr, h1, h2, h3, h4, h5, h6⟩ := fin (some (.goto t)) U' W3 hg hO
        exact ⟨_, _, hr, U', h5, h6, .inr ⟨rfl, .goto t, hIx _ _ _ _ _ hq h1, h2, h3, h4⟩⟩
      | panic ch => exact hp3.elim
      | outgrown => exact hp3.elim
    · rintro e W2 ⟨⟨v, rfl⟩, ⟨U, hi, hnu, hl, hk⟩ | ⟨pre, U, hp, c, hi, hnu, hl, hk⟩⟩
      · have hlt : w.heap.size + 1 < W2.heap.size := (Array.getElem?_eq_some_iff.1 hl).1
        refine ⟨none, _, by have := run_endLoop (P := Try.prog) hl (by rw [hrec]; simp); rw [hrec] at this; exact this, hdone U _ (hI _ _ _ _ hi (put_it _ _ (by omega) (hnu _ ⟨by omega, by omega⟩))) hnu ((World.putObj_heap_other (by omega)).trans hk) (by simp; omega)⟩
      · have hlt : w.heap.size + 1 < W2.heap.size := (Array.getElem?_eq_some_iff.1 hl).1
        refine ⟨some c, _, by have := run_endLoop (P := Try.prog) hl (by rw [hrec]; simp); rw [hrec] at this; exact this, hstop c pre U _ hp (hIx _ _ _ _ _ hi (put_it _ _ (by omega) (hnu _ ⟨by omega, by omega⟩))) hnu ((World.putObj_heap_other (by omega)).trans hk) (by simp; omega)⟩

/-- A range over such an iterator within a round of loop l₀. -/
theorem rangeU_in {α : Type} {n gf : Nat} {lb : Array Value} {enc : α → Array Value} {L : List α} {R : Nat → Prop} {g : Operand} {ps : Array Tmp} {assign body : Code} {Q : Exit → Act → World → Prop} {a : Act} {w : World} {l₀ : Nat} {r₀ : Loop}
    (hl₀ : w.heap[l₀]? = some (.loop r₀))
    (hg : a.eval g = .func (.func gf) #[] lb) (eg : ∀ args w, (callFunc gf args).run Try.prog w = .ok (.enter gf args) w) (hps : ∀ x, (enc x).size = ps.size)
    (hseq : ∀ V, Below w.heap.size w V → SeqU (n - 1) gf lb enc L R V) (hR : ∀ k, R k → k < w.heap.size)
    (I : List α → (Nat → Prop) → World → Prop) (Ix : Code → List α → (Nat → Prop) → World → Prop) (Ax : α → (Nat → Prop) → Act → World → Prop)
    (hIU : ∀ pre U A, I pre U A → ∀ k, U k → k < A.heap.size) (hI : ∀ pre U A B, I pre U A → Only (It w.heap.size U) A B → I pre U B) (hIx : ∀ c pre U A B, Ix c pre U A → Only (It w.heap.size U) A B → Ix c pre U B) (hAx : ∀ x U a' A B, Ax x U a' A → Only (fun k => k = w.heap.size) A B → Ax x U a' B) (U0 : Nat → Prop) (hU0 : NU R U0) (h0 : I [] U0 w)
    (hassign : ∀ (l : Nat) (pre : List α) (x : α) (U : Nat → Prop) (W : World) (K : Act → World → Prop), I pre U W → w.heap.size + 1 ≤ W.heap.size → (∀ a' W', Below W.heap.size W W' → Ax x U a' W' → K a' W') →
      assign.wpIn (Fence.wide.inRound l) (n - 1 - 1) Try.prog (Exit.then K (fun _ _ _ => False)) { tmps := (ps.zip (enc x)).foldl (fun t (p, v) => t.setIfInBounds p v) a.tmps, defers := [] } W)
    (hbody : ∀ (pre : List α) (x : α) (U : Nat → Prop) (a' : Act) (W : World), I pre U W → Ax x U a' W → NU (fun k => w.heap.size ≤ k ∧ k < w.heap.size + 1) U → pre ++ [x] <+: L → w.heap.size + 1 ≤ W.heap.size → body.wpIn (Fence.wide.inRound w.heap.size) (n - 1 - 1) Try.prog (endU I Ix w.heap.size R U (pre ++ [x]) W) a' W)
    (hdone : ∀ (U : Nat → Prop) (W : World), I L U W → NU (fun k => w.heap.size ≤ k ∧ k < w.heap.size + 1) U → w.heap.size + 1 ≤ W.heap.size → Q .normal a W)
    (hstop : ∀ (c : Code) (pre : List α) (U : Nat → Prop) (W : World), pre <+: L → Ix c pre U W → NU (fun k => w.heap.size ≤ k ∧ k < w.heap.size + 1) U → w.heap.size + 1 ≤ W.heap.size → c.wpIn (Fence.wide.inRound l₀) n Try.prog Q a W) :
    (Code.rangeFunc g ps assign body).wpIn (Fence.wide.inRound l₀) n Try.prog Q a w := by
  refine wpIn_rangeFunc ?_
  intro fn hfn
  obtain ⟨rec, hrec⟩ : ∃ rec : LoopState → Option Code → Loop, rec = fun st pe => { state := st, pending := pe, fn, tmps := a.tmps, params := ps, assign, body, defers := r₀.defers } := ⟨_, rfl⟩
  have hbel : Below w.heap.size w (w.alloc (.loop (rec .ready none))) := (Below.refl _ w).alloc (Nat.le_refl _) _
  have hsz : (w.alloc (.loop (rec .ready none))).heap.size = w.heap.size + 1 := by simp
  have hrun := run_enterLoop_inner (P := Try.prog) (w := w) hl₀ fn a.tmps ps assign body
  have hrw : (w.alloc (.loop { state := .ready, pending := none, fn := fn, tmps := a.tmps, params := ps, assign := assign, body := body, defers := r₀.defers })) = (w.alloc (.loop (rec .ready none))) := by rw [hrec]
  rw [hrw] at hrun
  have hL : (w.alloc (.loop (rec .ready none))).heap[w.heap.size]? = some (.loop (rec .ready none)) := World.alloc_heap_new w _
  generalize (w.alloc (.loop (rec .ready none))) = V at hbel hsz hrun hL
  refine ⟨w.heap.size, [], V, { target := .fn (.func gf) lb, args := #[.func (.yield w.heap.size) #[] #[]] }, V, gf, #[.func (.yield w.heap.size) #[] #[]] ++ lb, V, hrun, ?_, fun _ _ => trivial, ?_, fun h => (by cases h), CallsIn.inRound l₀ ?_⟩
  · simp only [resolve, hg]
    simp [go_sem]
  · simp [invoke, go_sem, eg]
  · have rL : ∀ U, Tu V.heap.size R U w.heap.size := fun U => .inl ⟨by omega, fun h => by have := hR _ h; omega⟩
    have hU0' := hIU _ _ _ h0
    refine (hseq V hbel w.heap.size
      (fun pre U W => I pre U W ∧ NU (fun k => w.heap.size ≤ k ∧ k < w.heap.size + 1) U ∧ W.heap[w.heap.size]? = some (.loop (rec .ready none)))
      (fun pre U W => ∃ c, Ix c pre U W ∧ NU (fun k => w.heap.size ≤ k ∧ k < w.heap.size + 1) U ∧ W.heap[w.heap.size]? = some (.loop (rec .done (some c))))
      (fun pre U A h => hIU _ _ _ h.1) ?_ ?_ ?_ U0 hU0 ⟨hI _ _ _ _ h0 (Only.of_below hbel), fun k hk hu => by have := hU0' k hu; omega, hL⟩).mono ?_
    · rintro pre U A B ⟨h1, h4, h2⟩ hO
      have z2 := (Array.getElem?_eq_some_iff.1 h2).1
      exact ⟨hI _ _ _ _ h1 (hO.it (by omega)), h4, (hO.block _ z2 (fun x => by have := x.1; omega)).trans h2⟩
    · rintro pre U A B ⟨c, h1, h4, h2⟩ hO
      have z2 := (Array.getElem?_eq_some_iff.1 h2).1
      exact ⟨c, hIx _ _ _ _ _ h1 (hO.it (by omega)), h4, (hO.block _ z2 (fun x => by have := x.1; omega)).trans h2⟩
    · rintro pre x U Wa ⟨hi, hnu, hl1⟩ hp hWa
      have nl : ¬ U w.heap.size := hnu _ ⟨by omega, by omega⟩
      have hy := run_yield (P := Try.prog) (args := enc x) hl1 (by rw [hrec]; exact hps x)
      rw [hrec] at hy
      refine ⟨fn, _, assign, body, hy, roundIn_of_wpIn hfn (hassign _ pre x U Wa _ hi (by omega) ?_)⟩
      intro a' Wb hab hax
      have hl2 := (hab.block _ (by omega)).trans hl1
      have hib := hI _ _ _ _ hi (Only.of_below hab)
      have hsb := hab.size
      have hl3 : (Wb.putObj w.heap.size (.loop { rec .ready none with state := .busy })).heap[w.heap.size]? = some (.loop { rec .ready none with state := .busy }) := World.putObj_heap_same (by omega)
      refine ⟨_, run_beginRound hl2 (by rw [hrec]), wpIn_mono (hbody pre x U a' _ (hI _ _ _ _ hib (put_it _ _ (by omega) nl)) (hAx _ _ _ _ _ hax ((Only.refl _ _).put _ rfl)) hnu hp (by simp; omega)) ?_⟩
      have hs3 : (Wb.putObj w.heap.size (.loop { rec .ready none with state := .busy })).heap.size = Wb.heap.size := by simp
      have fin : ∀ (jump : Option Code) (U' : Nat → Prop) (W3 : World), Gr U U' (Wb.putObj w.heap.size (.loop { rec .ready none with state := .busy })) W3 → Only (Tu w.heap.size R U) (Wb.putObj w.heap.size (.loop { rec .ready none with state := .busy })) W3 →
          ∃ W4, (Instr.endRound w.heap.size jump).run Try.prog W3 = .ok (.bool jump.isNone) W4 ∧ Only (It w.heap.size U') W3 W4 ∧ NU (fun k => w.heap.size ≤ k ∧ k < w.heap.size + 1) U' ∧ W4.heap[w.heap.size]? = some (.loop (rec (if jump.isNone then .ready else .done) jump)) ∧
            Gr U U' Wa W4 ∧ Only (Tu V.heap.size R U) Wa W4 := by
        intro jump U' W3 hg hK
        have hl4 := (hK.block w.heap.size (by omega) (fun h => h.elim (fun x => by have := x.1; omega) nl)).trans hl3
        have hz4 := hK.size
        have hnu' : NU (fun k => w.heap.size ≤ k ∧ k < w.heap.size + 1) U' := hnu.gr hg (fun k hk => by have := hk.2; omega)
        have hr := run_endRound (P := Try.prog) jump hl4
        refine ⟨_, hr, put_it _ _ (by omega) (hnu' _ ⟨by omega, by omega⟩), hnu', ?_, ?_, ?_⟩
        · rw [World.putObj_heap_same (by omega), hrec]
        · intro k hk
          obtain ⟨h1, h2⟩ := hg k hk
          exact ⟨h1.imp id (fun h => by omega), by simpa using h2⟩
        · exact (((Only.of_below hab).put _ (rL U)).trans (hK.tu (by omega))).put _ (rL U)
      rintro e a3 W3 hp3
      cases e with
      | normal =>
        obtain ⟨U', hg, hO, hq⟩ := hp3
        obtain ⟨W4, hr, h1, h2, h3, h5, h6⟩ := fin none U' W3 hg hO
        exact ⟨_, _, hr, U', h5, h6, .inl ⟨rfl, hI _ _ _ _ hq h1, h2, h3⟩⟩
      | ret =>
        obtain ⟨U', hg, hO, hq⟩ := hp3
        obtain ⟨W4, hr, h1, h2, h3, h5, h6⟩ := fin (some .ret) U' W3 hg hO
        exact ⟨_, _, hr, U', h5, h6, .inr ⟨rfl, .ret, hIx _ _ _ _ _ hq h1, h2, h3⟩⟩
      | exit id =>
        obtain ⟨U', hg, hO, hq⟩ := hp3
        obtain ⟨W4, hr, h1, h2, h3, h5, h6⟩ := fin (some (.exit id)) U' W3 hg hO
        exact ⟨_, _, hr, U', h5, h6, .inr ⟨rfl, .exit id, hIx _ _ _ _ _ hq h1, h2, h3⟩⟩
      | goto t =>
        obtain ⟨U', hg, hO, hq⟩ := hp3
        obtain ⟨W4, hr, h1, h2, h3, h5, h6⟩ := fin (some (.goto t)) U' W3 hg hO
        exact ⟨_, _, hr, U', h5, h6, .inr ⟨rfl, .goto t, hIx _ _ _ _ _ hq h1, h2, h3⟩⟩
      | panic ch => exact hp3.elim
      | outgrown => exact hp3.elim
    · rintro e W2 ⟨⟨v, rfl⟩, ⟨U, hi, hnu, hl⟩ | ⟨pre, U, hp, c, hi, hnu, hl⟩⟩
      · have hlt : w.heap.size < W2.heap.size := (Array.getElem?_eq_some_iff.1 hl).1
        refine ⟨none, _, by have := run_endLoop (P := Try.prog) hl (by rw [hrec]; simp); rw [hrec] at this; exact this, hdone U _ (hI _ _ _ _ hi (put_it _ _ (by omega) (hnu _ ⟨by omega, by omega⟩))) hnu (by simp; omega)⟩
      · have hlt : w.heap.size < W2.heap.size := (Array.getElem?_eq_some_iff.1 hl).1
        refine ⟨some c, _, by have := run_endLoop (P := Try.prog) hl (by rw [hrec]; simp); rw [hrec] at this; exact this, hstop c pre U _ hp (hIx _ _ _ _ _ hi (put_it _ _ (by omega) (hnu _ ⟨by omega, by omega⟩))) hnu (by simp; omega)⟩
end Go.Proofs.Ytddphepgcihdbaa
