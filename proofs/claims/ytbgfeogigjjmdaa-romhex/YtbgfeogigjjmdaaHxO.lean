import Derived.Test.YtbgfeogigjjmdaaHxN
namespace Go.Proofs.Ytbgfeogigjjmdaa
open Go.RowKit Go.Shelf
set_option linter.unusedVariables false

section
variable {P : Program} {n : Nat}
/-- A walk of an activation of ONE function. -/
def wpF (f : FuncId) (P : Program) (c : Code) (Q : Exit → Act → World → Prop) (a : Act) (w : World) : Prop :=
  ∀ (b : Frame) (k : List Item) (cs : List Frame), b.roundOf = none → b.fn = f →
    ∃ e a' w', Q e a' w' ∧ ArrivesIn (Machine.fenced P Fence.wide) P (lone (b.atR a (.code c :: k)) cs w) b k cs e a' w'
theorem wpF_of_in {f : FuncId} {c : Code} {Q : Exit → Act → World → Prop} {a : Act} {w : World} (h : c.wpIn Fence.wide n P Q a w) : wpF f P c Q a w :=
  fun b k cs hro _ => h b k cs hro trivial (room_wide _)
theorem wpF_seq {f : FuncId} {x y : Code} {Q : Exit → Act → World → Prop} {a : Act} {w : World} (h : wpF f P x (Exit.then (wpF f P y Q) Q) a w) : wpF f P (Code.seq x y) Q a w := by
  intro b k cs hro hb
  have h0 : (lone (b.atR a (.code (.seq x y) :: k)) cs w).fenced P Fence.wide := fenced_wide _ _
  obtain ⟨e, a₁, w₁, hq, harr⟩ := h b (.code y :: k) cs hro hb
  cases e with
  | normal =>
    obtain ⟨e₂, a₂, w₂, hq₂, harr₂⟩ := hq b k cs hro hb
    exact ⟨e₂, a₂, w₂, hq₂, .of_steps (.head h0 stepR_seq harr) harr₂⟩
  | exit id => exact ⟨_, a₁, w₁, hq, .of_steps (.one h0 stepR_seq) (.pass (x := .code y) rfl (fun _ _ => .inl (by simp)) harr)⟩
  | goto l => exact ⟨_, a₁, w₁, hq, .of_steps (.one h0 stepR_seq) (.pass (x := .code y) rfl (fun _ _ => .inl (by simp)) harr)⟩
  | ret => exact ⟨_, a₁, w₁, hq, .of_steps (.one h0 stepR_seq) (.pass (x := .code y) rfl (fun _ _ => .inl (by simp)) harr)⟩
  | panic ch => exact ⟨_, a₁, w₁, hq, .of_steps (.one h0 stepR_seq) (.pass (x := .code y) rfl (fun _ _ => .inl (by simp)) harr)⟩
  | outgrown => exact ⟨_, a₁, w₁, hq, .of_steps (.one h0 stepR_seq) (.pass (x := .code y) rfl (fun _ _ => .inl (by simp)) harr)⟩
/-- A block whose code goes on or panics. -/
theorem wpF_block {f : FuncId} {id : Nat} {c : Code} {Q : Exit → Act → World → Prop} {a : Act} {w : World} (h : wpF f P c (fun e a w => match e with | .normal => Q .normal a w | .panic ch => Q (.panic ch) a w | _ => False) a w) : wpF f P (Code.block id c) Q a w := by
  intro b k cs hro hb
  have h0 : (lone (b.atR a (.code (.block id c) :: k)) cs w).fenced P Fence.wide := fenced_wide _ _
  obtain ⟨e, a₁, w₁, hq, harr⟩ := h b (.inBlock id :: k) cs hro hb
  cases e with
  | normal => exact ⟨.normal, a₁, w₁, hq, .head h0 stepR_block (StepsIn.trans harr (.one (fenced_wide _ _) stepR_inBlock))⟩
  | panic ch =>
    obtain ⟨todo, hs⟩ := harr
    exact ⟨.panic ch, a₁, w₁, hq, todo, .head h0 stepR_block hs⟩
  | exit id => exact hq.elim
  | goto l => exact hq.elim
  | ret => exact hq.elim
  | outgrown => exact hq.elim
/-- A range over a function, in an activation of one function. -/
theorem wpF_rangeFunc {fn : FuncId} {g : Operand} {ps : Array Tmp} {assign body : Code} {Q : Exit → Act → World → Prop} {a : Act} {w : World}
    (h : ∃ (l : Nat) (mark : List Deferred) (w₁ : World) (d : Deferred) (w₁' : World) (f : FuncId) (args : Array Value) (w₂ : World),
      (Instr.enterLoop fn a.tmps ps assign body none).run P w = .ok (l, mark) w₁ ∧
      (resolve a.eval (rangeCall g l) 0).run P w₁ = .ok d w₁' ∧
      (invoke d.target d.args).run P w₁' = .ok (.enter f args) w₂ ∧
      CallsIn Fence.wide (n - 1) P f args w₂ (fun e w₃ => (∃ v w₄, e = .returned v ∧ (Instr.endLoop l).run P w₃ = .ok none w₄ ∧ Q .normal { a with defers := mark ++ a.defers } w₄) ∨ ∃ ch, e = .panicked ch ∧ Q (.panic ch) { a with defers := mark ++ a.defers } w₃)) :
    wpF fn P (Code.rangeFunc g ps assign body) Q a w := by
  intro b k cs hro hb
  obtain ⟨l, mark, w₁, d, w₁', f, args, w₂, he, hres, hinv, hF, hcall⟩ := h
  have he' : (Instr.enterLoop b.fn a.tmps ps assign body b.roundOf).run P w = .ok (l, mark) w₁ := by rw [hb, hro]; exact he
  have henter := stepR_rangeFunc (P := P) (b := b) (a := a) (k := k) (cs := cs) (w := w) he' hres hinv
  obtain ⟨e, w₃, fr, hR, hsteps, hfn, hleave⟩ := hcall (b.atR { a with defers := mark ++ a.defers } (.inRangeFunc l :: k) :: cs) (room_wide _)
  rcases hR with ⟨v, w₄, rfl, hend, hQ⟩ | ⟨ch, rfl, hQ⟩
  · refine ⟨.normal, _, w₄, hQ, ?_⟩
    refine .head (fenced_wide _ _) henter (StepsIn.trans hsteps (.head (fenced_wide _ _) ?_ (.one (fenced_wide _ _) (stepR_endRangeFunc hend))))
    rw [← finish_atR_inRangeFunc l v]; exact step_leave_returned hleave
  · refine ⟨.panic ch, _, w₃, hQ, .inRangeFunc l :: k, .head (fenced_wide _ _) henter (StepsIn.trans hsteps (.one (fenced_wide _ _) ?_))⟩
    rw [← Frame.raise_atR]; exact step_leave_panicked hleave
/-- A function's contract from its body, walked in its own activation. -/
theorem callsF_of_wp_marks {f : FuncId} {fn : Func} {c : Code} {args : Array Value} {w : World} {R : Ending → World → Prop}
    (hf : P.funcs[f]? = some fn) (hb : fn.body = some c)
    (h : wpF f P c (bodyPostM Fence.wide n P fn R) { tmps := args ++ Array.replicate (fn.ntmps - args.size) undef, defers := [] } w) : CallsIn Fence.wide n P f args w R := by
  refine ⟨trivial, fun cs hr => ?_⟩
  let b : Frame := { (default : Frame) with fn := f, kind := .normal, roundOf := none }
  have henter : Frame.enter P f args .normal =
      b.atR { tmps := args ++ Array.replicate (fn.ntmps - args.size) undef, defers := [] } [.code c] := by
    simp [Frame.enter, Frame.atR, hf, hb, b]
  obtain ⟨e, a', w', hq, harr⟩ := h b [] cs rfl rfl
  rw [← henter] at harr
  cases e with
  | normal =>
    obtain ⟨e', w'', fr', hR, hs, hfn, hl⟩ := leaves_stepsInM a'.defers .returning w' { b.atR a' [] with mode := .returning } cs rfl rfl rfl hf rfl trivial hr hq
    exact ⟨e', w'', fr', hR, ComesIn.of_steps (StepsIn.trans harr (.one (fenced_wide _ _) (stepR_end rfl))) hs, hfn, hl⟩
  | ret =>
    obtain ⟨todo, hs₀⟩ := harr.1 rfl
    obtain ⟨e', w'', fr', hR, hs, hfn, hl⟩ := leaves_stepsInM a'.defers .returning w' { b.atR a' todo with mode := .returning } cs rfl rfl rfl hf rfl trivial hr hq
    exact ⟨e', w'', fr', hR, ComesIn.of_steps hs₀ hs, hfn, hl⟩
  | panic chain =>
    obtain ⟨todo, hs₀⟩ := harr
    obtain ⟨e', w'', fr', hR, hs, hfn, hl⟩ := leaves_stepsInM a'.defers (.panicking chain) w' { b.atR a' todo with mode := .panicking chain } cs rfl rfl rfl hf rfl trivial hr hq
    exact ⟨e', w'', fr', hR, ComesIn.of_steps hs₀ hs, hfn, hl⟩
  | exit id => exact hq.elim
  | goto l => exact hq.elim
  | outgrown => exact ⟨.outgrown, w', b, hq, harr.resolve_left (by simp [b]), rfl, trivial⟩
end

/-- How the body of a round may be left: it goes on, or it panics. -/
def endPost (I : List (List UInt8) → World → Prop) (Ip : List PanicEntry → World → Prop) (B sb : Nat) (ys : List (List UInt8)) (W : World) : Exit → Act → World → Prop
  | .normal, _, W' => I ys W' ∧ W.heap.size ≤ W'.heap.size ∧ W'.heap[B]? = W.heap[B]? ∧ W'.heap[B + 1]? = W.heap[B + 1]? ∧ W'.heap[sb]? = W.heap[sb]?
  | .panic ch, a, W' => a.defers = [] ∧ Ip ch W' ∧ W'.heap[B]? = W.heap[B]?
  | _, _, _ => False

/-- A range over what strings.Lines answered: the body's rounds, each told its line. -/
theorem range_lines {f : FuncId} {fnn : Func} {X : List UInt8} {sb n : Nat} {g : Operand} {p : Tmp} {assign body : Code} {Q : Exit → Act → World → Prop} {a : Act} {w : World}
    (hf : Try.prog.funcs[f]? = some fnn) (hX : X.length < 4611686018427387904) (hsb : w.heap[sb]? = some (.cells #[.string (bs X)] 9 (0, 0))) (hg : a.eval g = .func (.func 27) #[] #[.pointer (some ⟨sb, 0, none⟩)])
    (I : List (List UInt8) → World → Prop) (Ip : List PanicEntry → World → Prop) (a₁ : List UInt8 → Act)
    (hI : ∀ pre A B, I pre A → Only (fun k => k = sb ∨ k = w.heap.size ∨ k = w.heap.size + 1) A B → I pre B) (h0 : I [] w)
    (hassign : ∀ (l : Nat) (x : List UInt8) (W : World) (K : Act → World → Prop), K (a₁ x) W →
      assign.wpIn (Fence.wide.inRound l) (n - 1 - 1) Try.prog (Exit.then K (fun _ _ _ => False)) { tmps := ((#[p] : Array Tmp).zip #[.string (bs x)]).foldl (fun t (p, v) => t.setIfInBounds p v) a.tmps, defers := [] } W)
    (hbody : ∀ (l : Nat) (pre : List (List UInt8)) (x : List UInt8) (W : World), I pre W → pre ++ [x] <+: cutU X → w.heap.size + 2 ≤ W.heap.size → (∃ s', W.heap[sb]? = some (.cells #[.string s'] 9 (0, 0))) → W.heap[w.heap.size]? = some (.deferred (some [])) → (∃ r, W.heap[w.heap.size + 1]? = some (.loop r)) → body.wpIn (Fence.wide.inRound l) (n - 1 - 1) Try.prog (endPost I Ip w.heap.size sb (pre ++ [x]) W) (a₁ x) W)
    (hdone : ∀ (W : World), I (cutU X) W → W.heap[w.heap.size]? = some (.deferred (some [])) → w.heap.size + 2 ≤ W.heap.size → Q .normal { a with defers := { target := .collected w.heap.size, args := #[] } :: a.defers } W)
    (hpan : ∀ (W : World) ch, Ip ch W → W.heap[w.heap.size]? = some (.deferred (some [])) → Q (.panic ch) { a with defers := { target := .collected w.heap.size, args := #[] } :: a.defers } W) :
    wpF f Try.prog (Code.rangeFunc g #[p] assign body) Q a w := by
  have hsbl := (Array.getElem?_eq_some_iff.1 hsb).1
  refine wpF_rangeFunc (n := n) ?_
  obtain ⟨rec, hrec⟩ : ∃ rec : LoopState → Option Code → Loop, rec = fun st pe => { state := st, pending := pe, fn := f, tmps := a.tmps, params := #[p], assign, body, defers := w.heap.size } := ⟨_, rfl⟩
  have hbel : Below w.heap.size w ((w.alloc (.deferred (some []))).alloc (.loop (rec .ready none))) := ((Below.refl _ w).alloc (Nat.le_refl _) _).alloc (by simp) _
  have hsz : ((w.alloc (.deferred (some []))).alloc (.loop (rec .ready none))).heap.size = w.heap.size + 2 := by simp
  have hrun := run_enterLoop_outer (P := Try.prog) (w := w) f a.tmps #[p] assign body
  have hrw : ((w.alloc (.deferred (some []))).alloc (.loop { state := .ready, pending := none, fn := f, tmps := a.tmps, params := #[p], assign := assign, body := body, defers := w.heap.size })) = ((w.alloc (.deferred (some []))).alloc (.loop (rec .ready none))) := by rw [hrec]
  rw [hrw] at hrun
  have hL : ((w.alloc (.deferred (some []))).alloc (.loop (rec .ready none))).heap[w.heap.size + 1]? = some (.loop (rec .ready none)) := by
    have := World.alloc_heap_new (w.alloc (.deferred (some []))) (.loop (rec .ready none))
    rwa [World.size_alloc] at this
  have hD : ((w.alloc (.deferred (some []))).alloc (.loop (rec .ready none))).heap[w.heap.size]? = some (.deferred (some [])) :=
    (Below.heap_alloc _ _ _ (by simp)).trans (World.alloc_heap_new w _)
  generalize ((w.alloc (.deferred (some []))).alloc (.loop (rec .ready none))) = V at hbel hsz hrun hL hD
  refine ⟨w.heap.size + 1, [{ target := .collected w.heap.size, args := #[] }], V, { target := .fn (.func 27) #[.pointer (some ⟨sb, 0, none⟩)], args := #[.func (.yield (w.heap.size + 1)) #[] #[]] }, V, 27, #[.func (.yield (w.heap.size + 1)) #[] #[], .pointer (some ⟨sb, 0, none⟩)], V, hrun, ?_, ?_, ?_⟩
  · simp only [resolve, hg]
    simp [go_sem]
  · have eg : ∀ args w, (callFunc 27 args).run Try.prog w = .ok (.enter 27 args) w := enters_of Try.func27 (by kernel_rfl) rfl
    simp [invoke, go_sem, eg]
  · refine (lines1_any (w.heap.size + 1) (n - 1) sb X
      (fun pre W => I pre W ∧ W.heap[w.heap.size + 1]? = some (.loop (rec .ready none)) ∧ W.heap[w.heap.size]? = some (.deferred (some [])) ∧ w.heap.size + 2 ≤ W.heap.size)
      (fun ch W => Ip ch W ∧ W.heap[w.heap.size]? = some (.deferred (some [])))
      V hX ((hbel.block sb hsbl).trans hsb) ?_ ?_ ⟨hI _ _ _ h0 (.of_below hbel), hL, hD, by omega⟩).mono ?_
    · rintro pre A B ⟨h1, h2, h3, h4⟩ hO
      exact ⟨hI _ _ _ h1 (hO.mono (fun k hk => .inl hk)), (hO.block _ (by omega) (by omega)).trans h2, (hO.block _ (by omega) (by omega)).trans h3, Nat.le_trans h4 hO.size⟩
    · rintro pre x W1 ⟨hi, hl, hk, hz⟩ hp ⟨s', hs'⟩
      have hy := run_yield (P := Try.prog) (args := #[.string (bs x)]) hl (by rw [hrec]; rfl)
      rw [hrec] at hy
      refine ⟨f, _, assign, body, hy, roundIn_of_wpInP trivial hf (hassign _ x W1 _ ?_)⟩
      have hO2 : Only (fun k => k = sb ∨ k = w.heap.size ∨ k = w.heap.size + 1) W1 (W1.putObj (w.heap.size + 1) (.loop { rec .ready none with state := .busy })) := (Only.refl _ _).put _ (.inr (.inr rfl))
      have hl3 : (W1.putObj (w.heap.size + 1) (.loop { rec .ready none with state := .busy })).heap[w.heap.size + 1]? = some (.loop { rec .ready none with state := .busy }) := World.putObj_heap_same (by omega)
      have hk3 : (W1.putObj (w.heap.size + 1) (.loop { rec .ready none with state := .busy })).heap[w.heap.size]? = some (.deferred (some [])) := (World.putObj_heap_other (by omega)).trans hk
      have hs3 : (W1.putObj (w.heap.size + 1) (.loop { rec .ready none with state := .busy })).heap[sb]? = W1.heap[sb]? := World.putObj_heap_other (by omega)
      have hz3 : (W1.putObj (w.heap.size + 1) (.loop { rec .ready none with state := .busy })).heap.size = W1.heap.size := by simp
      refine ⟨_, run_beginRound hl (by rw [hrec]), wpIn_mono (hbody _ pre x _ (hI _ _ _ hi hO2) hp (by rw [hz3]; exact hz) ⟨s', hs3.trans hs'⟩ hk3 ⟨_, hl3⟩) ?_⟩
      rintro e a3 W3 hp3
      cases e with
      | normal =>
        obtain ⟨q1, q2, q3, q4, q5⟩ := hp3
        have q2' : W1.heap.size ≤ W3.heap.size := by simpa using q2
        have hr := run_endRound (P := Try.prog) none (q4.trans hl3)
        have hl4 : W3.heap[w.heap.size + 1]? = some (.loop { rec .ready none with state := .busy }) := q4.trans hl3
        refine ⟨_, _, hr, .inl ⟨rfl, ⟨hI _ _ _ q1 ((Only.refl _ _).put _ (.inr (.inr rfl))), ?_, (World.putObj_heap_other (by omega)).trans (q3.trans hk3), by simp; omega⟩, by simp; omega, (World.putObj_heap_other (by omega)).trans (q5.trans hs3)⟩⟩
        rw [World.putObj_heap_same (by omega), hrec]; rfl
      | panic ch =>
        obtain ⟨q1, q2, q3⟩ := hp3
        exact ⟨q1, .inr ⟨ch, rfl, q2, q3.trans hk3⟩⟩
      | ret => exact hp3.elim
      | exit id => exact hp3.elim
      | goto t => exact hp3.elim
      | outgrown => exact hp3.elim
    · rintro e W2 (⟨v, rfl, hi, hl, hk, hz⟩ | ⟨ch, rfl, hi, hk⟩)
      · left
        refine ⟨v, _, rfl, by have := run_endLoop (P := Try.prog) hl (by rw [hrec]; simp); rw [hrec] at this; exact this, hdone _ (hI _ _ _ hi ((Only.refl _ _).put _ (.inr (.inr rfl)))) ((World.putObj_heap_other (by omega)).trans hk) (by simp; omega)⟩
      · right
        exact ⟨ch, rfl, hpan _ _ hi hk⟩
end Go.Proofs.Ytbgfeogigjjmdaa
