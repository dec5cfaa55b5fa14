import Derived.Test.YtjohnhaahpggkabDoorStrC
namespace Go.Proofs.YtjohnhaahpggkabDoor
open Go.RowKit Go.Shelf
set_option linter.unusedVariables false

/-- The blocks of the statement and of the iterator, behind what lay there. -/
def Rng (B k : Nat) : Prop := B ≤ k ∧ k < B + 6
/-- What a round's body keeps. -/
structure Kp (B sb lo : Nat) (w w' : World) : Prop where
  size : w.heap.size ≤ w'.heap.size
  same : ∀ b, (b = 2 ∨ b = sb ∨ Rng B b ∨ lo ≤ b) → b < w.heap.size → w'.heap[b]? = w.heap[b]?

theorem Only.mono {S T : Nat → Prop} {a b : World} (h : Only S a b) (hs : ∀ k, S k → T k) : Only T a b := ⟨h.os, h.tape, h.output, h.size, fun k hk hn => h.block k hk (fun c => hn (hs k c))⟩
theorem Only.put {S : Nat → Prop} {a w : World} (h : Only S a w) {r : Nat} (o : Obj) (hr : S r) : Only S a (w.putObj r o) :=
  h.trans ⟨rfl, rfl, rfl, by simp, fun k hk hn => World.putObj_heap_other (fun e => hn (by rw [e]; exact hr))⟩

/-- How the body of a round may be left. -/
def endPost (I : List Tok → World → Prop) (Ix : Code → List Tok → World → Prop) (B sb lo : Nat) (ys : List Tok) (W : World) : Exit → Act → World → Prop
  | .normal, _, W' => Kp B sb lo W W' ∧ I ys W'
  | .ret, _, W' => Kp B sb lo W W' ∧ Ix .ret ys W'
  | .exit id, _, W' => Kp B sb lo W W' ∧ Ix (.exit id) ys W'
  | .goto t, _, W' => Kp B sb lo W W' ∧ Ix (.goto t) ys W'
  | .panic _, _, _ => False
  | .outgrown, _, _ => False

/-- A range over what Each answered: the body's rounds, each told its token. -/
theorem range_tokens {s : ByteArray} {ts : List Tok} {z : Tok} {sb n : Nat} {g : Operand} {ps : Array Tmp} {assign body : Code} {Q : Exit → Act → World → Prop} {a : Act} {w : World}
    (hWh : Whole s ts z) (hW : Wt w) (hsb : Has w sb #[.string s]) (hg : a.eval g = .func (.func 29) #[] #[.pointer (some ⟨sb, 0, none⟩)]) (hps : ps.size = 1)
    (I : List Tok → World → Prop) (Ix : Code → List Tok → World → Prop) (Ax : List Tok → Tok → Nat → Act → World → Prop)
    (hI : ∀ pre A B, I pre A → Only (Rng w.heap.size) A B → I pre B) (hIx : ∀ c pre A B, Ix c pre A → Only (Rng w.heap.size) A B → Ix c pre B)
    (hAx : ∀ pre x lo a₁ A B, Ax pre x lo a₁ A → w.heap.size + 2 ≤ lo → Only (fun k => k = w.heap.size + 1) A B → Ax pre x lo a₁ B) (h0 : I [] w)
    (hassign : ∀ (l : Nat) (pre : List Tok) (x : Tok) (W W' : World) (K : Act → World → Prop), I pre W → Below W.heap.size W W' → w.heap.size + 2 ≤ W.heap.size → pre ++ [x] <+: ts ++ [z] →
      (∀ a₁ W2, Ax pre x W.heap.size a₁ W2 → Below W'.heap.size W' W2 → K a₁ W2) →
      assign.wpIn (Fence.wide.inRound l) (n - 1 - 1) Tryd.prog (Exit.then K (fun _ _ _ => False)) { tmps := (ps.zip #[x.v]).foldl (fun t (p, v) => t.setIfInBounds p v) a.tmps, defers := [] } W')
    (hbody : ∀ (l : Nat) (pre : List Tok) (x : Tok) (lo : Nat) (a₁ : Act) (W : World), Ax pre x lo a₁ W → pre ++ [x] <+: ts ++ [z] → w.heap.size + 2 ≤ lo → (x ≠ longTok → w.heap.size + 6 ≤ lo) → body.wpIn (Fence.wide.inRound l) (n - 1 - 1) Tryd.prog (endPost I Ix w.heap.size sb lo (pre ++ [x]) W) a₁ W)
    (hdone : ∀ (W : World), I (ts ++ [z]) W → W.heap[w.heap.size]? = some (.deferred (some [])) → w.heap.size + 2 ≤ W.heap.size → Q .normal { a with defers := { target := .collected w.heap.size, args := #[] } :: a.defers } W)
    (hstop : ∀ (c : Code) (pre : List Tok) (W : World), pre <+: ts ++ [z] → Ix c pre W → W.heap[w.heap.size]? = some (.deferred (some [])) → w.heap.size + 2 ≤ W.heap.size → c.wpIn Fence.wide n Tryd.prog Q { a with defers := { target := .collected w.heap.size, args := #[] } :: a.defers } W) :
    (Code.rangeFunc g ps assign body).wpIn Fence.wide n Tryd.prog Q a w := by
  have hsbl := hsb.1
  refine wpIn_rangeFunc ?_
  intro fn hfn
  obtain ⟨rec, hrec⟩ : ∃ rec : LoopState → Option Code → Loop, rec = fun st pe => { state := st, pending := pe, fn, tmps := a.tmps, params := ps, assign, body, defers := w.heap.size } := ⟨_, rfl⟩
  have hbel : Below w.heap.size w ((w.alloc (.deferred (some []))).alloc (.loop (rec .ready none))) := ((Below.refl _ w).alloc (Nat.le_refl _) _).alloc (by simp) _
  have hsz : ((w.alloc (.deferred (some []))).alloc (.loop (rec .ready none))).heap.size = w.heap.size + 2 := by simp
  have hrun := run_enterLoop_outer (P := Tryd.prog) (w := w) fn a.tmps ps assign body
  have hrw : ((w.alloc (.deferred (some []))).alloc (.loop { state := .ready, pending := none, fn := fn, tmps := a.tmps, params := ps, assign := assign, body := body, defers := w.heap.size })) = ((w.alloc (.deferred (some []))).alloc (.loop (rec .ready none))) := by rw [hrec]
  rw [hrw] at hrun
  have hL : ((w.alloc (.deferred (some []))).alloc (.loop (rec .ready none))).heap[w.heap.size + 1]? = some (.loop (rec .ready none)) := by
    have := World.alloc_heap_new (w.alloc (.deferred (some []))) (.loop (rec .ready none))
    rwa [World.size_alloc] at this
  have hD : ((w.alloc (.deferred (some []))).alloc (.loop (rec .ready none))).heap[w.heap.size]? = some (.deferred (some [])) :=
    (Below.heap_alloc _ _ _ (by simp)).trans (World.alloc_heap_new w _)
  generalize ((w.alloc (.deferred (some []))).alloc (.loop (rec .ready none))) = V at hbel hsz hrun hL hD
  refine ⟨w.heap.size + 1, [{ target := .collected w.heap.size, args := #[] }], V, { target := .fn (.func 29) #[.pointer (some ⟨sb, 0, none⟩)], args := #[.func (.yield (w.heap.size + 1)) #[] #[]] }, V, 29, #[.func (.yield (w.heap.size + 1)) #[] #[], .pointer (some ⟨sb, 0, none⟩)], V, hrun, ?_, fun _ _ => trivial, ?_, fun h => (by cases h), ?_⟩
  · simp only [resolve, hg]
    simp [go_sem]
  · have eg : ∀ args w, (callFunc 29 args).run Tryd.prog w = .ok (.enter 29 args) w := enters_of Tryd.func29 (by kernel_rfl) rfl
    simp [invoke, go_sem, eg]
  · have hm1 : ∀ k, Mine (w.heap.size + 2) k → Rng w.heap.size k := by unfold Mine Rng; omega
    have hmL : ¬ Mine (w.heap.size + 2) (w.heap.size + 1) := by unfold Mine; omega
    have hmD : ¬ Mine (w.heap.size + 2) w.heap.size := by unfold Mine; omega
    have rL : Rng w.heap.size (w.heap.size + 1) := by unfold Rng; omega
    have rD : Rng w.heap.size w.heap.size := by unfold Rng; omega
    refine (each1_any s (w.heap.size + 1) (n - 1) (w.heap.size + 2) sb ts z
      (fun pre W => I pre W ∧ W.heap[w.heap.size + 1]? = some (.loop (rec .ready none)) ∧ W.heap[w.heap.size]? = some (.deferred (some [])))
      (fun pre W => ∃ c, Ix c pre W ∧ W.heap[w.heap.size + 1]? = some (.loop (rec .done (some c))) ∧ W.heap[w.heap.size]? = some (.deferred (some [])))
      V hWh hsz (hW.below hbel hW.1) (hsb.below hbel) ?_ ?_ ⟨hI _ _ _ h0 (.of_below hbel), hL, hD⟩).mono ?_
    · rintro pre A B ⟨h1, h2, h3⟩ hA hO
      exact ⟨hI _ _ _ h1 (hO.mono hm1), (hO.block _ (by omega) hmL).trans h2, (hO.block _ (by omega) hmD).trans h3⟩
    · rintro pre x Wa Wb ⟨hi, hl, hk⟩ hp hm hlg hb
      have hl1 : Wb.heap[w.heap.size + 1]? = some (.loop (rec .ready none)) := (hb.block _ (by omega)).trans hl
      have hk1 : Wb.heap[w.heap.size]? = some (.deferred (some [])) := (hb.block _ (by omega)).trans hk
      have hbs := hb.size
      have hy := run_yield (P := Tryd.prog) (args := #[x.v]) hl1 (by rw [hrec]; simp [hps])
      rw [hrec] at hy
      refine ⟨fn, _, assign, body, hy, roundIn_of_wpIn hfn (hassign _ pre x Wa Wb _ hi hb hm hp (fun a₁ W2 hax hb2 => ?_))⟩
      have hb2s := hb2.size
      have hl2 : W2.heap[w.heap.size + 1]? = some (.loop (rec .ready none)) := (hb2.block _ (by omega)).trans hl1
      have hk2 : W2.heap[w.heap.size]? = some (.deferred (some [])) := (hb2.block _ (by omega)).trans hk1
      refine ⟨_, run_beginRound hl2 (by rw [hrec]), wpIn_mono (hbody _ pre x Wa.heap.size a₁ _ (hAx _ _ _ _ _ _ hax hm ((Only.refl _ _).put _ rfl)) hp hm (fun h => by have := hlg h; omega)) ?_⟩
      have hl3 : (W2.putObj (w.heap.size + 1) (.loop { rec .ready none with state := .busy })).heap[w.heap.size + 1]? = some (.loop { rec .ready none with state := .busy }) := World.putObj_heap_same (by omega)
      have hk3 : (W2.putObj (w.heap.size + 1) (.loop { rec .ready none with state := .busy })).heap[w.heap.size]? = some (.deferred (some [])) := (World.putObj_heap_other (by omega)).trans hk2
      have hs3 : (W2.putObj (w.heap.size + 1) (.loop { rec .ready none with state := .busy })).heap.size = W2.heap.size := by simp
      have fin : ∀ (jump : Option Code) (W3 : World), Kp w.heap.size sb Wa.heap.size (W2.putObj (w.heap.size + 1) (.loop { rec .ready none with state := .busy })) W3 →
          ∃ W4, (Instr.endRound (w.heap.size + 1) jump).run Tryd.prog W3 = .ok (.bool jump.isNone) W4 ∧ Only (Rng w.heap.size) W3 W4 ∧ W4.heap[w.heap.size + 1]? = some (.loop (rec (if jump.isNone then .ready else .done) jump)) ∧ W4.heap[w.heap.size]? = some (.deferred (some [])) ∧
            Keeps (w.heap.size + 2) sb Wa.heap.size Wb W4 := by
        intro jump W3 hK
        have hl4 := (hK.same _ (.inr (.inr (.inl rL))) (by omega)).trans hl3
        have hk4 := (hK.same _ (.inr (.inr (.inl rD))) (by omega)).trans hk3
        have hz4 := hK.size
        have hr := run_endRound (P := Tryd.prog) jump hl4
        refine ⟨_, hr, (Only.refl _ _).put _ rL, ?_, (World.putObj_heap_other (by omega)).trans hk4, ⟨by simp; omega, fun b hb' hlt => ?_⟩⟩
        · rw [World.putObj_heap_same (by omega), hrec]
        · have hne : b ≠ w.heap.size + 1 := by have := hW.1; omega
          have h1 : b = 2 ∨ b = sb ∨ Rng w.heap.size b ∨ Wa.heap.size ≤ b := by
            rcases hb' with h | h | h | h
            · exact .inl h
            · exact .inr (.inl h)
            · exact .inr (.inr (.inl (by unfold Rng; omega)))
            · exact .inr (.inr (.inr h))
          exact (World.putObj_heap_other hne).trans ((hK.same b h1 (by omega)).trans ((World.putObj_heap_other hne).trans (hb2.block b hlt)))
      rintro e a3 W3 hp3
      cases e with
      | normal =>
        obtain ⟨W4, hr, hO, h4, h5, h6⟩ := fin none W3 hp3.1
        exact ⟨_, _, hr, .inl ⟨rfl, ⟨hI _ _ _ hp3.2 hO, h4, h5⟩, h6⟩⟩
      | ret =>
        obtain ⟨W4, hr, hO, h4, h5, h6⟩ := fin (some .ret) W3 hp3.1
        exact ⟨_, _, hr, .inr ⟨rfl, .ret, hIx _ _ _ _ hp3.2 hO, h4, h5⟩⟩
      | exit id =>
        obtain ⟨W4, hr, hO, h4, h5, h6⟩ := fin (some (.exit id)) W3 hp3.1
        exact ⟨_, _, hr, .inr ⟨rfl, .exit id, hIx _ _ _ _ hp3.2 hO, h4, h5⟩⟩
      | goto t =>
        obtain ⟨W4, hr, hO, h4, h5, h6⟩ := fin (some (.goto t)) W3 hp3.1
        exact ⟨_, _, hr, .inr ⟨rfl, .goto t, hIx _ _ _ _ hp3.2 hO, h4, h5⟩⟩
      | panic ch => exact hp3.elim
      | outgrown => exact hp3.elim
    · rintro e W2 ⟨⟨v, rfl⟩, ⟨hi, hl, hk⟩ | ⟨pre, hp, c, hi, hl, hk⟩⟩
      · have hlt : w.heap.size + 1 < W2.heap.size := (Array.getElem?_eq_some_iff.1 hl).1
        refine ⟨none, _, by have := run_endLoop (P := Tryd.prog) hl (by rw [hrec]; simp); rw [hrec] at this; exact this, hdone _ (hI _ _ _ hi ((Only.refl _ _).put _ rL)) ((World.putObj_heap_other (by omega)).trans hk) (by simp; omega)⟩
      · have hlt : w.heap.size + 1 < W2.heap.size := (Array.getElem?_eq_some_iff.1 hl).1
        refine ⟨some c, _, by have := run_endLoop (P := Tryd.prog) hl (by rw [hrec]; simp); rw [hrec] at this; exact this, hstop c pre _ hp (hIx _ _ _ _ hi ((Only.refl _ _).put _ rL)) ((World.putObj_heap_other (by omega)).trans hk) (by simp; omega)⟩
end Go.Proofs.YtjohnhaahpggkabDoor
