import Derived.Test.YtcajejfddfiidaaDoorInI
import Derived.Test.YtcajejfddfiidaaDoorDrV
namespace Go.Proofs.YtcajejfddfiidaaDoor
open Go.RowKit
set_option linter.unusedVariables false
set_option linter.unusedSimpArgs false

/-- The statement's two blocks. -/
def RgF (B k : Nat) : Prop := k = B ∨ k = B + 1
structure KpF (B sb fb : Nat) (w w' : World) : Prop where
  size : w.heap.size ≤ w'.heap.size
  same : ∀ b, (b = sb ∨ b = fb ∨ RgF B b) → b < w.heap.size → w'.heap[b]? = w.heap[b]?
/-- How a round may be left. -/
def endF (I : List (List UInt8) → World → Prop) (Ix : Code → List (List UInt8) → World → Prop) (B sb fb : Nat) (ys : List (List UInt8)) (W : World) : Exit → Act → World → Prop
  | .normal, _, W' => KpF B sb fb W W' ∧ I ys W'
  | .ret, _, W' => KpF B sb fb W W' ∧ Ix .ret ys W'
  | .exit id, _, W' => KpF B sb fb W W' ∧ Ix (.exit id) ys W'
  | .goto t, _, W' => KpF B sb fb W W' ∧ Ix (.goto t) ys W'
  | .panic _, _, _ => False
  | .outgrown, _, _ => False
theorem range_fields {X : List UInt8} {sb fb n : Nat} {g : Operand} {ps : Array Tmp} {assign body : Code} {Q : Exit → Act → World → Prop} {a : Act} {w : World}
    (hX : X.length < 4611686018427387904) (hsb : w.heap[sb]? = some (.cells #[.string (bs X)] 9 (0, 0))) (hfb : w.heap[fb]? = some (.cells #[.func (.func 15) #[] #[]] 41 (0, 0))) (hg : a.eval g = .func (.func 31) #[] #[.pointer (some ⟨sb, 0, none⟩), .pointer (some ⟨fb, 0, none⟩)]) (hps : ps.size = 1)
    (I : List (List UInt8) → World → Prop) (Ix : Code → List (List UInt8) → World → Prop) (A1 : List UInt8 → Act)
    (hI : ∀ pre A B, I pre A → Only (RgF w.heap.size) A B → I pre B) (hIx : ∀ c pre A B, Ix c pre A → Only (RgF w.heap.size) A B → Ix c pre B) (hT : ∀ pre A, I pre A → Lib.Utf8Tabs 0 1 A) (h0 : I [] w)
    (hassign : ∀ (l : Nat) (x : List UInt8) (W : World) (K : Act → World → Prop), K (A1 x) W →
      assign.wpIn (Fence.wide.inRound l) (n - 1 - 1) Tryd.prog (Exit.then K (fun _ _ _ => False)) { tmps := (ps.zip #[.string (bs x)]).foldl (fun t (p, v) => t.setIfInBounds p v) a.tmps, defers := [] } W)
    (hbody : ∀ (l : Nat) (pre : List (List UInt8)) (x : List UInt8) (W : World), I pre W → pre ++ [x] <+: wsA [] X → w.heap.size + 2 ≤ W.heap.size → body.wpIn (Fence.wide.inRound l) (n - 1 - 1) Tryd.prog (endF I Ix w.heap.size sb fb (pre ++ [x]) W) (A1 x) W)
    (hdone : ∀ (W : World), I (wsA [] X) W → W.heap[w.heap.size]? = some (.deferred (some [])) → w.heap.size + 2 ≤ W.heap.size → Q .normal { a with defers := { target := .collected w.heap.size, args := #[] } :: a.defers } W)
    (hstop : ∀ (c : Code) (pre : List (List UInt8)) (W : World), pre <+: wsA [] X → Ix c pre W → W.heap[w.heap.size]? = some (.deferred (some [])) → w.heap.size + 2 ≤ W.heap.size → c.wpIn Fence.wide n Tryd.prog Q { a with defers := { target := .collected w.heap.size, args := #[] } :: a.defers } W) :
    (Code.rangeFunc g ps assign body).wpIn Fence.wide n Tryd.prog Q a w := by
  have hsbl : sb < w.heap.size := (Array.getElem?_eq_some_iff.1 hsb).1
  have hfbl : fb < w.heap.size := (Array.getElem?_eq_some_iff.1 hfb).1
  refine wpIn_rangeFunc ?_
  intro fn hfn
  obtain ⟨rec, hrec⟩ : ∃ rec : LoopState → Option Code → Loop, rec = fun st pe => { state := st, pending := pe, fn, tmps := a.tmps, params := ps, assign, body, defers := w.heap.size } := ⟨_, rfl⟩
  have hbel : Below w.heap.size w ((w.alloc (.deferred (some []))).alloc (.loop (rec .ready none))) := ((Below.refl _ w).alloc (Nat.le_refl _) _).alloc (by simp) _
  have hsz : ((w.alloc (.deferred (some []))).alloc (.loop (rec .ready none))).heap.size = w.heap.size + 2 := by simp
  have hrun := run_enterLoop_outer (P := Tryd.prog) (w := w) fn a.tmps ps assign body
  have hrw : ((w.alloc (.deferred (some []))).alloc (.loop { state := .ready, pending := none, fn := fn, tmps := a.tmps, params := ps, assign := assign, body := body, defers := w.heap.size })) = ((w.alloc (.deferred (some []))).alloc (.loop (rec .ready none))) := by rw [hrec]
  rw [hrw] at hrun
  have hL : ((w.alloc (.deferred (some []))).alloc (.loop (rec .ready none))).heap[w.heap.size + 1]? = some (.loop (rec .ready none)) := by
    have := World.alloc_heap_new (w.alloc (.deferred (some []))) (.loop (rec .ready none))
    rwa [World.size_alloc] at this
  have hD : ((w.alloc (.deferred (some []))).alloc (.loop (rec .ready none))).heap[w.heap.size]? = some (.deferred (some [])) :=
    (Below.heap_alloc _ _ _ (by simp)).trans (World.alloc_heap_new w _)
  generalize ((w.alloc (.deferred (some []))).alloc (.loop (rec .ready none))) = V at hbel hsz hrun hL hD
  refine ⟨w.heap.size + 1, [{ target := .collected w.heap.size, args := #[] }], V, { target := .fn (.func 31) #[.pointer (some ⟨sb, 0, none⟩), .pointer (some ⟨fb, 0, none⟩)], args := #[.func (.yield (w.heap.size + 1)) #[] #[]] }, V, 31, #[.func (.yield (w.heap.size + 1)) #[] #[], .pointer (some ⟨sb, 0, none⟩), .pointer (some ⟨fb, 0, none⟩)], V, hrun, ?_, fun _ _ => trivial, ?_, fun h => (by cases h), ?_⟩
  · simp only [resolve, hg]
    simp [go_sem]
  · have eg : ∀ args w, (callFunc 31 args).run Tryd.prog w = .ok (.enter 31 args) w := enters_of Tryd.func31 (by kernel_rfl) rfl
    simp [invoke, go_sem, eg]
  · have rL : RgF w.heap.size (w.heap.size + 1) := .inr rfl
    have rD : RgF w.heap.size w.heap.size := .inl rfl
    refine (fields1_any (w.heap.size + 1) (n - 1) sb fb X
      (fun pre W => I pre W ∧ W.heap[w.heap.size + 1]? = some (.loop (rec .ready none)) ∧ W.heap[w.heap.size]? = some (.deferred (some [])))
      (fun pre W => ∃ c, Ix c pre W ∧ W.heap[w.heap.size + 1]? = some (.loop (rec .done (some c))) ∧ W.heap[w.heap.size]? = some (.deferred (some [])))
      V hX ((hbel.block sb hsbl).trans hsb) ((hbel.block fb hfbl).trans hfb) ?_ (fun pre A h => hT pre A h.1) ?_ ⟨hI _ _ _ h0 (.of_below hbel), hL, hD⟩).mono ?_
    · rintro pre A B ⟨h1, h2, h3⟩ hO
      have hlt := (Array.getElem?_eq_some_iff.1 h2).1
      exact ⟨hI _ _ _ h1 (.of_below hO), (hO.block _ hlt).trans h2, (hO.block _ (by omega)).trans h3⟩
    · rintro pre x Wa ⟨hi, hl1, hk1⟩ hp
      have hlt := (Array.getElem?_eq_some_iff.1 hl1).1
      have hy := run_yield (P := Tryd.prog) (args := #[.string (bs x)]) hl1 (by rw [hrec]; simp [hps])
      rw [hrec] at hy
      refine ⟨fn, _, assign, body, hy, roundIn_of_wpIn hfn (hassign _ x Wa _ ?_)⟩
      refine ⟨_, run_beginRound hl1 (by rw [hrec]), wpIn_mono (hbody _ pre x _ (hI _ _ _ hi ((Only.refl _ _).put _ rL)) hp (by simp; omega)) ?_⟩
      have hl3 : (Wa.putObj (w.heap.size + 1) (.loop { rec .ready none with state := .busy })).heap[w.heap.size + 1]? = some (.loop { rec .ready none with state := .busy }) := World.putObj_heap_same (by omega)
      have hk3 : (Wa.putObj (w.heap.size + 1) (.loop { rec .ready none with state := .busy })).heap[w.heap.size]? = some (.deferred (some [])) := (World.putObj_heap_other (by omega)).trans hk1
      have hs3 : (Wa.putObj (w.heap.size + 1) (.loop { rec .ready none with state := .busy })).heap.size = Wa.heap.size := by simp
      have fin : ∀ (jump : Option Code) (W3 : World), KpF w.heap.size sb fb (Wa.putObj (w.heap.size + 1) (.loop { rec .ready none with state := .busy })) W3 →
          ∃ W4, (Instr.endRound (w.heap.size + 1) jump).run Tryd.prog W3 = .ok (.bool jump.isNone) W4 ∧ Only (RgF w.heap.size) W3 W4 ∧ W4.heap[w.heap.size + 1]? = some (.loop (rec (if jump.isNone then .ready else .done) jump)) ∧ W4.heap[w.heap.size]? = some (.deferred (some [])) ∧
            Wa.heap.size ≤ W4.heap.size ∧ W4.heap[sb]? = Wa.heap[sb]? ∧ W4.heap[fb]? = Wa.heap[fb]? := by
        intro jump W3 hK
        have hl4 := (hK.same _ (.inr (.inr rL)) (by omega)).trans hl3
        have hk4 := (hK.same _ (.inr (.inr rD)) (by omega)).trans hk3
        have hz4 := hK.size
        have hr := run_endRound (P := Tryd.prog) jump hl4
        refine ⟨_, hr, (Only.refl _ _).put _ rL, ?_, (World.putObj_heap_other (by omega)).trans hk4, by simp; omega, ?_, ?_⟩
        · rw [World.putObj_heap_same (by omega), hrec]
        · have hne : sb ≠ w.heap.size + 1 := by omega
          exact (World.putObj_heap_other hne).trans ((hK.same sb (.inl rfl) (by omega)).trans (World.putObj_heap_other hne))
        · have hne : fb ≠ w.heap.size + 1 := by omega
          exact (World.putObj_heap_other hne).trans ((hK.same fb (.inr (.inl rfl)) (by omega)).trans (World.putObj_heap_other hne))
      rintro e a3 W3 hp3
      cases e with
      | normal =>
        obtain ⟨W4, hr, hO, h4, h5, h6⟩ := fin none W3 hp3.1
        exact ⟨_, _, hr, .inl ⟨rfl, ⟨hI _ _ _ hp3.2 hO, h4, h5⟩, h6⟩⟩
      | ret =>
        obtain ⟨W4, hr, hO, h4, h5, h6⟩ := fin (some .ret) W3 hp3.1
        exact ⟨_, _, hr, .inr ⟨rfl, .ret, hIx _ _ _ _ hp3.2 hO, h4, h5⟩⟩
      | exit id =>
        obtain ⟨W4, hr, hO, h4, h5, h6⟩ := fin (some (.exit id)) W3 hp3.1
        exact ⟨_, _, hr, .inr ⟨rfl, .exit id, hIx _ _ _ _ hp3.2 hO, h4, h5⟩⟩
      | goto t =>
        obtain ⟨W4, hr, hO, h4, h5, h6⟩ := fin (some (.goto t)) W3 hp3.1
        exact ⟨_, _, hr, .inr ⟨rfl, .goto t, hIx _ _ _ _ hp3.2 hO, h4, h5⟩⟩
      | panic ch => exact hp3.elim
      | outgrown => exact hp3.elim
    · rintro e W2 ⟨⟨v, rfl⟩, ⟨hi, hl, hk⟩ | ⟨pre, hp, c, hi, hl, hk⟩⟩
      · have hlt : w.heap.size + 1 < W2.heap.size := (Array.getElem?_eq_some_iff.1 hl).1
        refine ⟨none, _, by have := run_endLoop (P := Tryd.prog) hl (by rw [hrec]; simp); rw [hrec] at this; exact this, hdone _ (hI _ _ _ hi ((Only.refl _ _).put _ rL)) ((World.putObj_heap_other (by omega)).trans hk) (by simp; omega)⟩
      · have hlt : w.heap.size + 1 < W2.heap.size := (Array.getElem?_eq_some_iff.1 hl).1
        refine ⟨some c, _, by have := run_endLoop (P := Tryd.prog) hl (by rw [hrec]; simp); rw [hrec] at this; exact this, hstop c pre _ hp (hIx _ _ _ _ hi ((Only.refl _ _).put _ rL)) ((World.putObj_heap_other (by omega)).trans hk) (by simp; omega)⟩
end Go.Proofs.YtcajejfddfiidaaDoor
