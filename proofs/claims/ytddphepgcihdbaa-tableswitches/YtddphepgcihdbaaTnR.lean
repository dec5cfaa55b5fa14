import Derived.RangeFuncNested
import Derived.RangeFuncBound
import Derived.RangeFuncCalls
import Derived.RangeFuncLeaves
import Derived.Shelf.Abstract
import Derived.Shelf.RegionOpen
import Derived.OwnWalkIn
import Derived.TacticsInMore
import Derived.LoopNIn
import Derived.LoopIn
import Derived.Sort.LoopGhostIn
import Derived.Test.YtddphepgcihdbaaHas
namespace Go.Proofs.Ytddphepgcihdbaa
open Go.RowKit Go.Shelf
set_option linter.unusedVariables false
set_option linter.unusedSimpArgs false

/-- What a round may turn: blocks below B that are not of R. -/
def Tn (B : Nat) (R : Nat → Prop) (k : Nat) : Prop := k < B ∧ ¬ R k
/-- An iterator that is called in W gives L, one behind the other, until it is stopped; it turns nothing of what lay in W; R is what it reads. -/
def SeqAt {α : Type} (n gf : Nat) (lb : Array Value) (enc : α → Array Value) (L : List α) (R : Nat → Prop) (W : World) : Prop :=
  ∀ (l : Nat) (J Jx : List α → World → Prop),
    (∀ pre A A', J pre A → Below W.heap.size A A' → J pre A') →
    (∀ pre A A', Jx pre A → Below W.heap.size A A' → Jx pre A') →
    (∀ pre x W1, J pre W1 → pre ++ [x] <+: L → W.heap.size ≤ W1.heap.size → YieldAt Fence.wide (n - 1) Try.prog l (enc x) W1 fun e W' =>
      (e = .returned (.bool true) ∧ J (pre ++ [x]) W' ∧ Only (Tn W.heap.size R) W1 W') ∨ (e = .returned (.bool false) ∧ Jx (pre ++ [x]) W' ∧ Only (Tn W.heap.size R) W1 W')) →
    J [] W →
    CallsIn Fence.wide n Try.prog gf (#[.func (.yield l) #[] #[]] ++ lb) W fun e W' => (∃ v, e = .returned v) ∧ (J L W' ∨ ∃ pre, pre <+: L ∧ Jx pre W')
/-- How a round may be left. -/
def endR {α : Type} (I : List α → World → Prop) (Ix : Code → List α → World → Prop) (B : Nat) (R : Nat → Prop) (ys : List α) (W : World) : Exit → Act → World → Prop
  | .normal, _, W' => Only (Tn B R) W W' ∧ I ys W'
  | .ret, _, W' => Only (Tn B R) W W' ∧ Ix .ret ys W'
  | .exit id, _, W' => Only (Tn B R) W W' ∧ Ix (.exit id) ys W'
  | .goto t, _, W' => Only (Tn B R) W W' ∧ Ix (.goto t) ys W'
  | .panic _, _, _ => False
  | .outgrown, _, _ => False
theorem below_put {B : Nat} {a w : World} (h : Below B a w) {r : Nat} (o : Obj) (hr : B ≤ r) : Below B a (w.putObj r o) :=
  h.trans ⟨rfl, rfl, rfl, by simp, fun k hk => World.putObj_heap_other (by omega)⟩
theorem Only.tn {B B' : Nat} {R : Nat → Prop} {a b : World} (h : Only (Tn B R) a b) (hB : B ≤ B') : Only (Tn B' R) a b := h.mono (fun k hk => ⟨Nat.lt_of_lt_of_le hk.1 hB, hk.2⟩)

/-- A range over such an iterator, outside of any other. -/
theorem range_out {α : Type} {n gf : Nat} {lb : Array Value} {enc : α → Array Value} {L : List α} {R : Nat → Prop} {g : Operand} {ps : Array Tmp} {assign body : Code} {Q : Exit → Act → World → Prop} {a : Act} {w : World}
    (hg : a.eval g = .func (.func gf) #[] lb) (eg : ∀ args w, (callFunc gf args).run Try.prog w = .ok (.enter gf args) w) (hps : ∀ x, (enc x).size = ps.size)
    (hseq : ∀ V, Below w.heap.size w V → SeqAt (n - 1) gf lb enc L R V) (hR : ∀ k, R k → k < w.heap.size)
    (I : List α → World → Prop) (Ix : Code → List α → World → Prop) (Ax : α → Act → World → Prop)
    (hI : ∀ pre A B, I pre A → Below w.heap.size A B → I pre B) (hIx : ∀ c pre A B, Ix c pre A → Below w.heap.size A B → Ix c pre B) (hAx : ∀ x a' A B, Ax x a' A → Only (fun k => k = w.heap.size + 1) A B → Ax x a' B) (h0 : I [] w)
    (hassign : ∀ (l : Nat) (pre : List α) (x : α) (W : World) (K : Act → World → Prop), I pre W → w.heap.size + 2 ≤ W.heap.size → (∀ a' W', Below W.heap.size W W' → Ax x a' W' → K a' W') →
      assign.wpIn (Fence.wide.inRound l) (n - 1 - 1) Try.prog (Exit.then K (fun _ _ _ => False)) { tmps := (ps.zip (enc x)).foldl (fun t (p, v) => t.setIfInBounds p v) a.tmps, defers := [] } W)
    (hbody : ∀ (pre : List α) (x : α) (a' : Act) (W : World), I pre W → Ax x a' W → pre ++ [x] <+: L → w.heap.size + 2 ≤ W.heap.size → (∃ r, W.heap[w.heap.size + 1]? = some (.loop r)) → body.wpIn (Fence.wide.inRound (w.heap.size + 1)) (n - 1 - 1) Try.prog (endR I Ix w.heap.size R (pre ++ [x]) W) a' W)
    (hdone : ∀ (W : World), I L W → W.heap[w.heap.size]? = some (.deferred (some [])) → w.heap.size + 2 ≤ W.heap.size → Q .normal { a with defers := { target := .collected w.heap.size, args := #[] } :: a.defers } W)
    (hstop : ∀ (c : Code) (pre : List α) (W : World), pre <+: L → Ix c pre W → W.heap[w.heap.size]? = some (.deferred (some [])) → w.heap.size + 2 ≤ W.heap.size → c.wpIn Fence.wide n Try.prog Q { a with defers := { target := .collected w.heap.size, args := #[] } :: a.defers } W) :
    (Code.rangeFunc g ps assign body).wpIn Fence.wide n Try.prog Q a w := by
  refine wpIn_rangeFunc ?_
  intro fn hfn
  obtain ⟨rec, hrec⟩ : ∃ rec : LoopState → Option Code → Loop, rec = fun st pe => { state := st, pending := pe, fn, tmps := a.tmps, params := ps, assign, body, defers := w.heap.size } := ⟨_, rfl⟩
  have hbel : Below w.heap.size w ((w.alloc (.deferred (some []))).alloc (.loop (rec .ready none))) := ((Below.refl _ w).alloc (Nat.le_refl _) _).alloc (by simp) _
  have hsz : ((w.alloc (.deferred (some []))).alloc (.loop (rec .ready none))).heap.size = w.heap.size + 2 := by simp
  have hrun := run_enterLoop_outer (P := Try.prog) (w := w) fn a.tmps ps assign body
  have hrw : ((w.alloc (.deferred (some []))).alloc (.loop { state := .ready, pending := none, fn := fn, tmps := a.tmps, params := ps, assign := assign, body := body, defers := w.heap.size })) = ((w.alloc (.deferred (some []))).alloc (.loop (rec .ready none))) := by rw [hrec]
  rw [hrw] at hrun
  have hL : ((w.alloc (.deferred (some []))).alloc (.loop (rec .ready none))).heap[w.heap.size + 1]? = some (.loop (rec .ready none)) := by
    have := World.alloc_heap_new (w.alloc (.deferred (some []))) (.loop (rec .ready none))
    rwa [World.size_alloc] at this
  have hD : ((w.alloc (.deferred (some []))).alloc (.loop (rec .ready none))).heap[w.heap.size]? = some (.deferred (some [])) :=
    (Below.heap_alloc _ _ _ (by simp)).trans (World.alloc_heap_new w _)
  generalize ((w.alloc (.deferred (some []))).alloc (.loop (rec .ready none))) = V at hbel hsz hrun hL hD
  refine ⟨w.heap.size + 1, [{ target := .collected w.heap.size, args := #[] }], V, { target := .fn (.func gf) lb, args := #[.func (.yield (w.heap.size + 1)) #[] #[]] }, V, gf, #[.func (.yield (w.heap.size + 1)) #[] #[]] ++ lb, V, hrun, ?_, fun _ _ => trivial, ?_, fun h => (by cases h), ?_⟩
  · simp only [resolve, hg]
    simp [go_sem]
  · simp [invoke, go_sem, eg]
  · have rL : Tn V.heap.size R (w.heap.size + 1) := ⟨by omega, fun h => by have := hR _ h; omega⟩
    have o1 : ∀ {A B : World}, Only (Tn w.heap.size R) A B → Only (Tn V.heap.size R) A B := fun h => h.tn (by omega)
    refine (hseq V hbel (w.heap.size + 1)
      (fun pre W => I pre W ∧ W.heap[w.heap.size + 1]? = some (.loop (rec .ready none)) ∧ W.heap[w.heap.size]? = some (.deferred (some [])))
      (fun pre W => ∃ c, Ix c pre W ∧ W.heap[w.heap.size + 1]? = some (.loop (rec .done (some c))) ∧ W.heap[w.heap.size]? = some (.deferred (some [])))
      ?_ ?_ ?_ ⟨hI _ _ _ h0 hbel, hL, hD⟩).mono ?_
    · rintro pre A B ⟨h1, h2, h3⟩ hO
      exact ⟨hI _ _ _ h1 (hO.mono (by omega)), (hO.block _ (by omega)).trans h2, (hO.block _ (by omega)).trans h3⟩
    · rintro pre A B ⟨c, h1, h2, h3⟩ hO
      exact ⟨c, hIx _ _ _ _ h1 (hO.mono (by omega)), (hO.block _ (by omega)).trans h2, (hO.block _ (by omega)).trans h3⟩
    · rintro pre x Wa ⟨hi, hl1, hk1⟩ hp hWa
      have hy := run_yield (P := Try.prog) (args := enc x) hl1 (by rw [hrec]; exact hps x)
      rw [hrec] at hy
      refine ⟨fn, _, assign, body, hy, roundIn_of_wpIn hfn (hassign _ pre x Wa _ hi (by omega) ?_)⟩
      intro a' Wb hab hax
      have hl2 := (hab.block _ (by omega)).trans hl1
      have hk2 := (hab.block _ (by omega)).trans hk1
      have hib := hI _ _ _ hi (hab.mono (by omega))
      have hsb := hab.size
      have hl3 : (Wb.putObj (w.heap.size + 1) (.loop { rec .ready none with state := .busy })).heap[w.heap.size + 1]? = some (.loop { rec .ready none with state := .busy }) := World.putObj_heap_same (by omega)
      have hk3 : (Wb.putObj (w.heap.size + 1) (.loop { rec .ready none with state := .busy })).heap[w.heap.size]? = some (.deferred (some [])) := (World.putObj_heap_other (by omega)).trans hk2
      refine ⟨_, run_beginRound hl2 (by rw [hrec]), wpIn_mono (hbody pre x a' _ (hI _ _ _ hib (below_put (.refl _ _) _ (by omega))) (hAx _ _ _ _ hax ((Only.refl _ _).put _ rfl)) hp (by simp; omega) ⟨_, hl3⟩) ?_⟩
      have hs3 : (Wb.putObj (w.heap.size + 1) (.loop { rec .ready none with state := .busy })).heap.size = Wb.heap.size := by simp
      have fin : ∀ (jump : Option Code) (W3 : World), Only (Tn w.heap.size R) (Wb.putObj (w.heap.size + 1) (.loop { rec .ready none with state := .busy })) W3 →
          ∃ W4, (Instr.endRound (w.heap.size + 1) jump).run Try.prog W3 = .ok (.bool jump.isNone) W4 ∧ Below w.heap.size W3 W4 ∧ W4.heap[w.heap.size + 1]? = some (.loop (rec (if jump.isNone then .ready else .done) jump)) ∧ W4.heap[w.heap.size]? = some (.deferred (some [])) ∧
            Only (Tn V.heap.size R) Wa W4 := by
        intro jump W3 hK
        have hl4 := (hK.block (w.heap.size + 1) (by omega) (fun h => by have := h.1; omega)).trans hl3
        have hk4 := (hK.block w.heap.size (by omega) (fun h => by have := h.1; omega)).trans hk3
        have hz4 := hK.size
        have hr := run_endRound (P := Try.prog) jump hl4
        refine ⟨_, hr, below_put (.refl _ _) _ (by omega), ?_, (World.putObj_heap_other (by omega)).trans hk4, ?_⟩
        · rw [World.putObj_heap_same (by omega), hrec]
        · exact (((Only.of_below hab).put _ rL).trans (o1 hK)).put _ rL
      rintro e a3 W3 hp3
      cases e with
      | normal =>
        obtain ⟨W4, hr, hO, h4, h5, h6⟩ := fin none W3 hp3.1
        exact ⟨_, _, hr, .inl ⟨rfl, ⟨hI _ _ _ hp3.2 hO, h4, h5⟩, h6⟩⟩
      | ret =>
        obtain ⟨W4, hr, hO, h4, h5, h6⟩ := fin (some .ret) W3 hp3.1
        exact ⟨_, _, hr, .inr ⟨rfl, ⟨.ret, hIx _ _ _ _ hp3.2 hO, h4, h5⟩, h6⟩⟩
      | exit id =>
        obtain ⟨W4, hr, hO, h4, h5, h6⟩ := fin (some (.exit id)) W3 hp3.1
        exact ⟨_, _, hr, .inr ⟨rfl, ⟨.exit id, hIx _ _ _ _ hp3.2 hO, h4, h5⟩, h6⟩⟩
      | goto t =>
        obtain ⟨W4, hr, hO, h4, h5, h6⟩ := fin (some (.goto t)) W3 hp3.1
        exact ⟨_, _, hr, .inr ⟨rfl, ⟨.goto t, hIx _ _ _ _ hp3.2 hO, h4, h5⟩, h6⟩⟩
      | panic ch => exact hp3.elim
      | outgrown => exact hp3.elim
    · rintro e W2 ⟨⟨v, rfl⟩, ⟨hi, hl, hk⟩ | ⟨pre, hp, c, hi, hl, hk⟩⟩
      · have hlt : w.heap.size + 1 < W2.heap.size := (Array.getElem?_eq_some_iff.1 hl).1
        refine ⟨none, _, by have := run_endLoop (P := Try.prog) hl (by rw [hrec]; simp); rw [hrec] at this; exact this, hdone _ (hI _ _ _ hi (below_put (.refl _ _) _ (by omega))) ((World.putObj_heap_other (by omega)).trans hk) (by simp; omega)⟩
      · have hlt : w.heap.size + 1 < W2.heap.size := (Array.getElem?_eq_some_iff.1 hl).1
        refine ⟨some c, _, by have := run_endLoop (P := Try.prog) hl (by rw [hrec]; simp); rw [hrec] at this; exact this, hstop c pre _ hp (hIx _ _ _ _ hi (below_put (.refl _ _) _ (by omega))) ((World.putObj_heap_other (by omega)).trans hk) (by simp; omega)⟩

/-- A range over such an iterator within a round of loop l₀. -/
theorem range_in {α : Type} {n gf : Nat} {lb : Array Value} {enc : α → Array Value} {L : List α} {R : Nat → Prop} {g : Operand} {ps : Array Tmp} {assign body : Code} {Q : Exit → Act → World → Prop} {a : Act} {w : World} {l₀ : Nat} {r₀ : Loop}
    (hl₀ : w.heap[l₀]? = some (.loop r₀))
    (hg : a.eval g = .func (.func gf) #[] lb) (eg : ∀ args w, (callFunc gf args).run Try.prog w = .ok (.enter gf args) w) (hps : ∀ x, (enc x).size = ps.size)
    (hseq : ∀ V, Below w.heap.size w V → SeqAt (n - 1) gf lb enc L R V) (hR : ∀ k, R k → k < w.heap.size)
    (I : List α → World → Prop) (Ix : Code → List α → World → Prop) (Ax : α → Act → World → Prop)
    (hI : ∀ pre A B, I pre A → Below w.heap.size A B → I pre B) (hIx : ∀ c pre A B, Ix c pre A → Below w.heap.size A B → Ix c pre B) (hAx : ∀ x a' A B, Ax x a' A → Only (fun k => k = w.heap.size) A B → Ax x a' B) (h0 : I [] w)
    (hassign : ∀ (l : Nat) (pre : List α) (x : α) (W : World) (K : Act → World → Prop), I pre W → w.heap.size + 1 ≤ W.heap.size → (∀ a' W', Below W.heap.size W W' → Ax x a' W' → K a' W') →
      assign.wpIn (Fence.wide.inRound l) (n - 1 - 1) Try.prog (Exit.then K (fun _ _ _ => False)) { tmps := (ps.zip (enc x)).foldl (fun t (p, v) => t.setIfInBounds p v) a.tmps, defers := [] } W)
    (hbody : ∀ (pre : List α) (x : α) (a' : Act) (W : World), I pre W → Ax x a' W → pre ++ [x] <+: L → w.heap.size + 1 ≤ W.heap.size → body.wpIn (Fence.wide.inRound w.heap.size) (n - 1 - 1) Try.prog (endR I Ix w.heap.size R (pre ++ [x]) W) a' W)
    (hdone : ∀ (W : World), I L W → w.heap.size + 1 ≤ W.heap.size → Q .normal a W)
    (hstop : ∀ (c : Code) (pre : List α) (W : World), pre <+: L → Ix c pre W → w.heap.size + 1 ≤ W.heap.size → c.wpIn (Fence.wide.inRound l₀) n Try.prog Q a W) :
    (Code.rangeFunc g ps assign body).wpIn (Fence.wide.inRound l₀) n Try.prog Q a w := by
  refine wpIn_rangeFunc ?_
  intro fn hfn
  obtain ⟨rec, hrec⟩ : ∃ rec : LoopState → Option Code → Loop, rec = fun st pe => { state := st, pending := pe, fn, tmps := a.tmps, params := ps, assign, body, defers := r₀.defers } := ⟨_, rfl⟩
  have hbel : Below w.heap.size w (w.alloc (.loop (rec .ready none))) := (Below.refl _ w).alloc (Nat.le_refl _) _
  have hsz : (w.alloc (.loop (rec .ready none))).heap.size = w.heap.size + 1 := by simp
  have hrun := run_enterLoop_inner (P := Try.prog) (w := w) hl₀ fn a.tmps ps assign body
  have hrw : (w.alloc (.loop { state := .ready, pending := none, fn := fn, tmps := a.tmps, params := ps, assign := assign, body := body, defers := r₀.defers })) = (w.alloc (.loop (rec .ready none))) := by rw [hrec]
  rw [hrw] at hrun
  have hL : (w.alloc (.loop (rec .ready none))).heap[w.heap.size]? = some (.loop (rec .ready none)) := World.alloc_heap_new w _
  generalize (w.alloc (.loop (rec .ready none))) = V at hbel hsz hrun hL
  refine ⟨w.heap.size, [], V, { target := .fn (.func gf) lb, args := #[.func (.yield w.heap.size) #[] #[]] }, V, gf, #[.func (.yield w.heap.size) #[] #[]] ++ lb, V, hrun, ?_, fun _ _ => trivial, ?_, fun h => (by cases h), CallsIn.inRound l₀ ?_⟩
  · simp only [resolve, hg]
    simp [go_sem]
  · simp [invoke, go_sem, eg]
  · have rL : Tn V.heap.size R w.heap.size := ⟨by omega, fun h => by have := hR _ h; omega⟩
    have o1 : ∀ {A B : World}, Only (Tn w.heap.size R) A B → Only (Tn V.heap.size R) A B := fun h => h.tn (by omega)
    refine (hseq V hbel w.heap.size
      (fun pre W => I pre W ∧ W.heap[w.heap.size]? = some (.loop (rec .ready none)))
      (fun pre W => ∃ c, Ix c pre W ∧ W.heap[w.heap.size]? = some (.loop (rec .done (some c))))
      ?_ ?_ ?_ ⟨hI _ _ _ h0 hbel, hL⟩).mono ?_
    · rintro pre A B ⟨h1, h2⟩ hO
      exact ⟨hI _ _ _ h1 (hO.mono (by omega)), (hO.block _ (by omega)).trans h2⟩
    · rintro pre A B ⟨c, h1, h2⟩ hO
      exact ⟨c, hIx _ _ _ _ h1 (hO.mono (by omega)), (hO.block _ (by omega)).trans h2⟩
    · rintro pre x Wa ⟨hi, hl1⟩ hp hWa
      have hy := run_yield (P := Try.prog) (args := enc x) hl1 (by rw [hrec]; exact hps x)
      rw [hrec] at hy
      refine ⟨fn, _, assign, body, hy, roundIn_of_wpIn hfn (hassign _ pre x Wa _ hi (by omega) ?_)⟩
      intro a' Wb hab hax
      have hl2 := (hab.block _ (by omega)).trans hl1
      have hib := hI _ _ _ hi (hab.mono (by omega))
      have hsb := hab.size
      have hl3 : (Wb.putObj w.heap.size (.loop { rec .ready none with state := .busy })).heap[w.heap.size]? = some (.loop { rec .ready none with state := .busy }) := World.putObj_heap_same (by omega)
      refine ⟨_, run_beginRound hl2 (by rw [hrec]), wpIn_mono (hbody pre x a' _ (hI _ _ _ hib (below_put (.refl _ _) _ (by omega))) (hAx _ _ _ _ hax ((Only.refl _ _).put _ rfl)) hp (by simp; omega)) ?_⟩
      have hs3 : (Wb.putObj w.heap.size (.loop { rec .ready none with state := .busy })).heap.size = Wb.heap.size := by simp
      have fin : ∀ (jump : Option Code) (W3 : World), Only (Tn w.heap.size R) (Wb.putObj w.heap.size (.loop { rec .ready none with state := .busy })) W3 →
          ∃ W4, (Instr.endRound w.heap.size jump).run Try.prog W3 = .ok (.bool jump.isNone) W4 ∧ Below w.heap.size W3 W4 ∧ W4.heap[w.heap.size]? = some (.loop (rec (if jump.isNone then .ready else .done) jump)) ∧
            Only (Tn V.heap.size R) Wa W4 := by
        intro jump W3 hK
        have hl4 := (hK.block w.heap.size (by omega) (fun h => by have := h.1; omega)).trans hl3
        have hz4 := hK.size
        have hr := run_endRound (P := Try.prog) jump hl4
        refine ⟨_, hr, below_put (.refl _ _) _ (by omega), ?_, ?_⟩
        · rw [World.putObj_heap_same (by omega), hrec]
        · exact (((Only.of_below hab).put _ rL).trans (o1 hK)).put _ rL
      rintro e a3 W3 hp3
      cases e with
      | normal =>
        obtain ⟨W4, hr, hO, h4, h6⟩ := fin none W3 hp3.1
        exact ⟨_, _, hr, .inl ⟨rfl, ⟨hI _ _ _ hp3.2 hO, h4⟩, h6⟩⟩
      | ret =>
        obtain ⟨W4, hr, hO, h4, h6⟩ := fin (some .ret) W3 hp3.1
        exact ⟨_, _, hr, .inr ⟨rfl, ⟨.ret, hIx _ _ _ _ hp3.2 hO, h4⟩, h6⟩⟩
      | exit id =>
        obtain ⟨W4, hr, hO, h4, h6⟩ := fin (some (.exit id)) W3 hp3.1
        exact ⟨_, _, hr, .inr ⟨rfl, ⟨.exit id, hIx _ _ _ _ hp3.2 hO, h4⟩, h6⟩⟩
      | goto t =>
        obtain ⟨W4, hr, hO, h4, h6⟩ := fin (some (.goto t)) W3 hp3.1
        exact ⟨_, _, hr, .inr ⟨rfl, ⟨.goto t, hIx _ _ _ _ hp3.2 hO, h4⟩, h6⟩⟩
      | panic ch => exact hp3.elim
      | outgrown => exact hp3.elim
    · rintro e W2 ⟨⟨v, rfl⟩, ⟨hi, hl⟩ | ⟨pre, hp, c, hi, hl⟩⟩
      · have hlt : w.heap.size < W2.heap.size := (Array.getElem?_eq_some_iff.1 hl).1
        refine ⟨none, _, by have := run_endLoop (P := Try.prog) hl (by rw [hrec]; simp); rw [hrec] at this; exact this, hdone _ (hI _ _ _ hi (below_put (.refl _ _) _ (by omega))) (by simp; omega)⟩
      · have hlt : w.heap.size < W2.heap.size := (Array.getElem?_eq_some_iff.1 hl).1
        refine ⟨some c, _, by have := run_endLoop (P := Try.prog) hl (by rw [hrec]; simp); rw [hrec] at this; exact this, hstop c pre _ hp (hIx _ _ _ _ hi (below_put (.refl _ _) _ (by omega))) (by simp; omega)⟩
end Go.Proofs.Ytddphepgcihdbaa
