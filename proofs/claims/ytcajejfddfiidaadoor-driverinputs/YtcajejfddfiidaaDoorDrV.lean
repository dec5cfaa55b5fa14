import Derived.OrdersHeld
import Derived.OrdersIn
import Derived.Deep.RegionHeld
import Derived.Test.YtcajejfddfiidaaDoorDrU
namespace Go.Proofs.YtcajejfddfiidaaDoor
open Go.RowKit Go.Shelf
set_option linter.unusedVariables false
set_option linter.unusedSimpArgs false

section
variable {P : Program} {md : Region.Mode} {ops : Array Oper} {Q : Exit → Act → World → Prop} {S : World → Prop} {E : Nat}
/-- Whatever order is picked: S holds behind every operation but number E, which waits for those that look at S. -/
def wpAnyE (P : Program) (md : Region.Mode) (ops : Array Oper) (Q : Exit → Act → World → Prop) (S : World → Prop) (E : Nat) : Nat → Array Bool → Act → World → Prop
  | 0, listed, a, w => Region.ready md ops listed = [] ∧ Q .normal a w
  | fuel + 1, listed, a, w =>
    (Region.ready md ops listed = [] → Q .normal a w) ∧
    ∀ i ∈ Region.ready md ops listed, wpOp P ops Q i (fun a' w' => (i ≠ E → S w') ∧ wpAnyE P md ops Q S E fuel (listed.setIfInBounds i true) a' w') a w
theorem wpAny_of_E : ∀ (fuel : Nat) (listed : Array Bool) (a : Act) (w : World), wpAnyE P md ops Q S E fuel listed a w → wpAny P md ops Q fuel listed a w
  | 0, _, _, _, h => h
  | fuel + 1, _, _, _, h => ⟨h.1, fun i hi => wpOp_mono (fun a' w' h' => wpAny_of_E fuel _ a' w' h'.2) (h.2 i hi)⟩
theorem wp_region_E {id : Nat} {a : Act} {w : World} (hm : P.follows .mixedOrders = true) (hS : S w.drew)
    (h : S w.drew → wpAnyE P .any ops Q S E ops.size (Array.replicate ops.size false) a w.drew) : (Code.region id ops true).wp P Q a w :=
  wp_region_any hm (wpAny_of_E _ _ _ _ (h hS))
theorem wpAnyE_first {i : Nat} {oi : Oper} {v : Value} (hi : ops[i]? = some oi) (hsel : ∀ (j : Nat) (o : Oper) cs b, ops[j]? = some o → o.op ≠ .select cs b)
    (hQ : ∀ c a w, Q (.panic c) (a.put oi.dst v) w → Q (.panic c) a w) (hiE : i ≠ E) (hE : ∀ oE, ops[E]? = some oE → ∃ e ∈ oE.after, Region.binds md e = true ∧ e.on = i) :
    ∀ (fuel : Nat) (listed : Array Bool) (a : Act) (w : World),
      (∀ j oj, ops[j]? = some oj → j ≠ i → listed.getD j true = false → (∀ e ∈ oj.after, Region.binds md e = true → e.on ≠ i) → oi.apart ops oj = true) →
      i ∈ Region.ready md ops listed → YieldsIf P ops S oi v a → S w →
      wpAnyE P md ops Q S E fuel (listed.setIfInBounds i true) (a.put oi.dst v) w → wpAnyE P md ops Q S E (fuel + 1) listed a w := by
  intro fuel
  induction fuel with
  | zero =>
    intro listed a w _ hr hy hS H
    refine ⟨fun h => (by rw [h] at hr; cases hr), fun j hj => ?_⟩
    by_cases hji : j = i
    · subst hji; exact hy.wpOp hi hS ⟨fun _ => hS, H⟩
    · have := ready_mono hj hji
      rw [H.1] at this
      cases this
  | succ fuel ih =>
    intro listed a w hfree hr hy hS H
    refine ⟨fun h => (by rw [h] at hr; cases hr), fun j hj => ?_⟩
    by_cases hji : j = i
    · subst hji; exact hy.wpOp hi hS ⟨fun _ => hS, H⟩
    · have h1 := H.2 j (ready_mono hj hji)
      obtain ⟨hjun, oj, hoj, hall⟩ := mem_ready.1 hj
      have hnot : ∀ e ∈ oj.after, Region.binds md e = true → e.on ≠ i := fun e he hb heq => by
        have h1 := hall e he hb
        have h0 := (mem_ready.1 hr).1
        rw [heq] at h1
        rcases Nat.lt_or_ge i listed.size with h' | h'
        · simp [h'] at h0 h1; rw [h0] at h1; cases h1
        · simp [Array.getElem?_eq_none h'] at h1
      have hjE : j ≠ E := fun e => by
        subst e
        obtain ⟨e, he, hb, ho⟩ := hE oj hoj
        exact hnot e he hb ho
      have h2 := wpOp_putIf hoj (hfree j oj hoj hji hjun hnot) (fun cs b => hsel i oi cs b hi) (fun cs b => hsel j oj cs b hoj) hQ hy h1
      have hfree' : ∀ k ok, ops[k]? = some ok → k ≠ i → (listed.setIfInBounds j true).getD k true = false →
          (∀ e ∈ ok.after, Region.binds md e = true → e.on ≠ i) → oi.apart ops ok = true := fun k ok hk hki hun hno => by
        refine hfree k ok hk hki ?_ hno
        by_cases hjk : j = k
        · subst hjk; exact hjun
        · rw [getD_set_ne true hjk] at hun; exact hun
      refine wpOp_mono (fun a' w' h3 => ⟨fun _ => h3.2.1 hjE, ih (listed.setIfInBounds j true) a' w' hfree' (ready_mono hr (Ne.symm hji)) h3.1 (h3.2.1 hjE) ?_⟩) h2
      rw [Array.setIfInBounds_comm _ _ hji]
      exact h3.2.2
/-- Does number E wait for number i? -/
def waitsB (md : Region.Mode) (ops : Array Oper) (E i : Nat) : Bool := decide (i ≠ E) && ((ops[E]?).map (·.after.toList.any fun e => Region.binds md e && decide (e.on = i))).getD true
theorem wpAnyE_take {i : Nat} {oi : Oper} {v : Value} {fuel : Nat} {listed : Array Bool} {a : Act} {w : World} (hi : ops[i]? = some oi)
    (hs : Region.noSelect ops = true) (hf : Region.free md ops listed i = true) (hr : (Region.ready md ops listed).contains i = true) (hE : waitsB md ops E i = true)
    (hQ : ∀ c a w, Q (.panic c) (a.put oi.dst v) w → Q (.panic c) a w) (hy : YieldsIf P ops S oi v a) (hS : S w)
    (h : wpAnyE P md ops Q S E fuel (listed.setIfInBounds i true) (a.put oi.dst v) w) : wpAnyE P md ops Q S E (fuel + 1) listed a w := by
  unfold waitsB at hE
  rw [Bool.and_eq_true, decide_eq_true_eq] at hE
  refine wpAnyE_first hi (Region.noSelect_spec hs) hQ hE.1 (fun oE ho => ?_) fuel listed a w (Region.free_spec hi hf) (by simpa using hr) hy hS h
  have h2 := hE.2
  rw [ho] at h2
  simp only [Option.map_some, Option.getD_some, List.any_eq_true] at h2
  obtain ⟨e, he, hb⟩ := h2
  rw [Bool.and_eq_true, decide_eq_true_eq] at hb
  exact ⟨e, by simpa using he, hb.1, hb.2⟩
/-- The last one. -/
theorem wpAnyE_last {o : Oper} {fuel : Nat} {listed : Array Bool} {a : Act} {w : World} (hr : Region.ready md ops listed = [E]) (ho : ops[E]? = some o) (hd : Region.ready md ops (listed.setIfInBounds E true) = [])
    (hw : Region.wanted o (yielded ops a.tmps) = true) (h : ∀ K : Act → World → Prop, (∀ a' w', Q .normal a' w' → K a' w') → Oper.wp P o a w K Q) : wpAnyE P md ops Q S E (fuel + 1) listed a w := by
  refine ⟨fun h0 => (by rw [hr] at h0; cases h0), fun i hi => ?_⟩
  rw [hr] at hi
  obtain rfl : i = E := by simpa using hi
  have hst := h (fun a' w' => (i ≠ i → S w') ∧ wpAnyE P md ops Q S i fuel (listed.setIfInBounds i true) a' w') (fun a' w' hq => ⟨fun e => absurd rfl e, by
    cases fuel with
    | zero => exact ⟨hd, hq⟩
    | succ f => exact ⟨fun _ => hq, by rw [hd]; simp⟩⟩)
  unfold wpOp
  rw [ho]
  dsimp only
  rw [if_pos hw]
  exact .inl hst
/-- An operation that is the only one ready. -/
theorem wpAnyE_one {i : Nat} {o : Oper} {fuel : Nat} {listed : Array Bool} {a : Act} {w : World} (hr : Region.ready md ops listed = [i]) (ho : ops[i]? = some o)
    (hw : Region.wanted o (yielded ops a.tmps) = true) (h : ∀ K : Act → World → Prop, Hid (∀ a' w', S w' → (S w' → wpAnyE P md ops Q S E fuel (listed.setIfInBounds i true) a' w') → K a' w') → Oper.wp P o a w K Q) : wpAnyE P md ops Q S E (fuel + 1) listed a w := by
  refine ⟨fun h0 => (by rw [hr] at h0; cases h0), fun j hj => ?_⟩
  rw [hr] at hj
  obtain rfl : j = i := by simpa using hj
  have hst := h (fun a' w' => (j ≠ E → S w') ∧ wpAnyE P md ops Q S E fuel (listed.setIfInBounds j true) a' w') (fun a' w' hS hq => ⟨fun _ => hS, hq hS⟩)
  unfold wpOp
  rw [ho]
  dsimp only
  rw [if_pos hw]
  exact .inl hst
theorem wpAnyE_over {fuel : Nat} {listed : Array Bool} {a : Act} {w : World} (hd : Region.ready md ops listed = []) (h : Q .normal a w) : wpAnyE P md ops Q S E fuel listed a w := by
  cases fuel with
  | zero => exact ⟨hd, h⟩
  | succ f => exact ⟨fun _ => h, by rw [hd]; simp⟩
end

/-- Is an operation no defer? -/
def noDef (o : Oper) : Bool := match o.op with | .defer _ => false | _ => true
theorem noDef_spec {o : Oper} (h : noDef o = true) : ∀ c, o.op ≠ .defer c := fun c e => by unfold noDef at h; rw [e] at h; cases h
section
variable {P : Program} {md : Region.Mode} {ops : Array Oper} {Q : Exit → Act → World → Prop} {l n : Nat}
theorem wpIn_of_wp {o : Oper} {a : Act} {w : World} {K K' : Act → World → Prop} (hn : noDef o = true) (hK : ∀ a w, K a w → K' a w) (hL : ¬ LetsOut Q) (h : o.wp P a w K Q) : o.wpIn (Fence.wide.inRound l) n P a w K' Q := by
  unfold Oper.wpIn
  refine ⟨fun _ _ => trivial, ?_⟩
  rw [Fence.inRound_round, Oper.semAt_some _ _ _ (noDef_spec hn)]
  unfold Oper.wp at h
  generalize (execOp a.eval o).run P w = r at *
  cases r with
  | ok x w' =>
    cases x <;> simp only [Oper.uponIn, Oper.upon] at h ⊢
    case value => exact hK _ _ h
    case skip => exact hK _ _ h
    case defer => exact hK _ _ h
    case enter f args =>
      refine ⟨fun h => (by cases h), CallsIn.inRound l (callsIn_wide.2 (Calls.mono h fun e w'' he => ?_))⟩
      cases e <;> first | exact hK _ _ he | exact he
    case row row args =>
      refine ⟨fun h => (by cases h), fun c cs _ => ?_⟩
      obtain ⟨v, w'', r, s⟩ := h c cs
      exact ⟨v, w'', hK _ _ r, stepsIn_wide.2 s⟩
  | halt x w' => cases x <;> simp only [Oper.uponIn, Oper.upon] at h ⊢; exact h
theorem wpAnyIn_of_wpAny (hn : ∀ o ∈ ops, noDef o = true) (hL : ¬ LetsOut Q) : ∀ (fuel : Nat) (listed : Array Bool) (a : Act) (w : World), wpAny P md ops Q fuel listed a w → wpAnyIn (Fence.wide.inRound l) n P md ops Q fuel listed a w
  | 0, _, _, _, h => h
  | fuel + 1, listed, a, w, h => ⟨h.1, fun i hi => by
      have h2 := h.2 i hi
      unfold wpOp at h2
      unfold wpOpIn
      cases ho : ops[i]? with
      | none => rw [ho] at h2; exact wpAnyIn_of_wpAny hn hL fuel _ _ _ h2
      | some o =>
        rw [ho] at h2
        dsimp only at h2 ⊢
        split
        · rename_i hw
          rw [if_pos hw] at h2
          rcases h2 with h2 | h2
          · exact wpIn_of_wp (hn o (Array.mem_of_getElem? ho)) (fun a w hh => wpAnyIn_of_wpAny hn hL fuel _ a w hh) hL h2
          · exact absurd h2.2 hL
        · rename_i hw
          rw [if_neg hw] at h2
          exact ⟨fun _ _ => trivial, wpAnyIn_of_wpAny hn hL fuel _ _ _ h2⟩⟩
/-- No panic, and nothing outgrown. -/
def NPO (Q : Exit → Act → World → Prop) : Exit → Act → World → Prop := fun e a w => e = .normal ∧ Q .normal a w
theorem NPO.imp {Q : Exit → Act → World → Prop} : ∀ (e : Exit) (a : Act) (w : World), NPO Q e a w → Q e a w := by rintro e a w ⟨rfl, h⟩; exact h
theorem NPO.no {Q : Exit → Act → World → Prop} : ¬ LetsOut (NPO Q) := by rintro ⟨a, w, h, _⟩; cases h
/-- A drawn region within a round, walked as outside of one. -/
theorem wpIn_region_round {id : Nat} {a : Act} {w : World} (hm : P.follows .mixedOrders = true) (hn : ops.all noDef = true) (h : wpAny P .any ops (NPO Q) ops.size (Array.replicate ops.size false) a w.drew) : (Code.region id ops true).wpIn (Fence.wide.inRound l) n P Q a w :=
  wpIn_mono (wpIn_region_any hm (wpAnyIn_of_wpAny (fun o ho => by simpa using (Array.all_eq_true_iff_forall_mem.1 hn) o ho) NPO.no _ _ _ _ h)) NPO.imp
theorem wpIn_region_roundH {S : World → Prop} {id : Nat} {a : Act} {w : World} (hm : P.follows .mixedOrders = true) (hn : ops.all noDef = true) (hS : S w.drew) (h : S w.drew → wpAnyH P .any ops (NPO Q) S ops.size (Array.replicate ops.size false) a w.drew) : (Code.region id ops true).wpIn (Fence.wide.inRound l) n P Q a w :=
  wpIn_region_round hm hn (wpAny_of_held _ _ _ _ (h hS))
theorem wpIn_region_roundE {S : World → Prop} {E : Nat} {id : Nat} {a : Act} {w : World} (hm : P.follows .mixedOrders = true) (hn : ops.all noDef = true) (hS : S w.drew) (h : S w.drew → wpAnyE P .any ops (NPO Q) S E ops.size (Array.replicate ops.size false) a w.drew) : (Code.region id ops true).wpIn (Fence.wide.inRound l) n P Q a w :=
  wpIn_region_round hm hn (wpAny_of_E _ _ _ _ (h hS))
end

/-- The statement's two blocks and the text's box. -/
def RgL (B sb k : Nat) : Prop := k = sb ∨ k = B ∨ k = B + 1
structure KpL (B sb : Nat) (w w' : World) : Prop where
  size : w.heap.size ≤ w'.heap.size
  same : ∀ b, RgL B sb b → b < w.heap.size → w'.heap[b]? = w.heap[b]?
/-- How a round may be left. -/
def endL (I : List (List UInt8) → World → Prop) (Ix : Code → List (List UInt8) → World → Prop) (B sb : Nat) (ys : List (List UInt8)) (W : World) : Exit → Act → World → Prop
  | .normal, _, W' => KpL B sb W W' ∧ I ys W'
  | .ret, _, W' => KpL B sb W W' ∧ Ix .ret ys W'
  | .exit id, _, W' => KpL B sb W W' ∧ Ix (.exit id) ys W'
  | .goto t, _, W' => KpL B sb W W' ∧ Ix (.goto t) ys W'
  | .panic _, _, _ => False
  | .outgrown, _, _ => False
theorem range_lines {X : List UInt8} {sb n : Nat} {g : Operand} {ps : Array Tmp} {assign body : Code} {Q : Exit → Act → World → Prop} {a : Act} {w : World}
    (hX : X.length < 4611686018427387904) (hsb : w.heap[sb]? = some (.cells #[.string (bs X)] 9 (0, 0))) (hg : a.eval g = .func (.func 37) #[] #[.pointer (some ⟨sb, 0, none⟩)]) (hps : ps.size = 1)
    (I : List (List UInt8) → World → Prop) (Ix : Code → List (List UInt8) → World → Prop) (A1 : List UInt8 → Act)
    (hI : ∀ pre A B, I pre A → Only (RgL w.heap.size sb) A B → I pre B) (hIx : ∀ c pre A B, Ix c pre A → Only (RgL w.heap.size sb) A B → Ix c pre B) (h0 : I [] w)
    (hassign : ∀ (l : Nat) (x : List UInt8) (W : World) (K : Act → World → Prop), K (A1 x) W →
      assign.wpIn (Fence.wide.inRound l) (n - 1 - 1) Tryd.prog (Exit.then K (fun _ _ _ => False)) { tmps := (ps.zip #[.string (bs x)]).foldl (fun t (p, v) => t.setIfInBounds p v) a.tmps, defers := [] } W)
    (hbody : ∀ (l : Nat) (pre : List (List UInt8)) (x : List UInt8) (W : World), I pre W → pre ++ [x] <+: cutU X → w.heap.size + 2 ≤ W.heap.size → body.wpIn (Fence.wide.inRound l) (n - 1 - 1) Tryd.prog (endL I Ix w.heap.size sb (pre ++ [x]) W) (A1 x) W)
    (hdone : ∀ (W : World), I (cutU X) W → W.heap[w.heap.size]? = some (.deferred (some [])) → w.heap.size + 2 ≤ W.heap.size → Q .normal { a with defers := { target := .collected w.heap.size, args := #[] } :: a.defers } W)
    (hstop : ∀ (c : Code) (pre : List (List UInt8)) (W : World), pre <+: cutU X → Ix c pre W → W.heap[w.heap.size]? = some (.deferred (some [])) → w.heap.size + 2 ≤ W.heap.size → c.wpIn Fence.wide n Tryd.prog Q { a with defers := { target := .collected w.heap.size, args := #[] } :: a.defers } W) :
    (Code.rangeFunc g ps assign body).wpIn Fence.wide n Tryd.prog Q a w := by
  have hsbl : sb < w.heap.size := (Array.getElem?_eq_some_iff.1 hsb).1
  refine wpIn_rangeFunc ?_
  intro fn hfn
  obtain ⟨rec, hrec⟩ : ∃ rec : LoopState → Option Code → Loop, rec = fun st pe => { state := st, pending := pe, fn, tmps := a.tmps, params := ps, assign, body, defers := w.heap.size } := ⟨_, rfl⟩
  have hbel : Below w.heap.size w ((w.alloc (.deferred (some []))).alloc (.loop (rec .ready none))) := ((Below.refl _ w).alloc (Nat.le_refl _) _).alloc (by simp) _
  have hsz : ((w.alloc (.deferred (some []))).alloc (.loop (rec .ready none))).heap.size = w.heap.size + 2 := by simp
  have hrun := run_enterLoop_outer (P := Tryd.prog) (w := w) fn a.tmps ps assign body
  have hrw : ((w.alloc (.deferred (some []))).alloc (.loop { state := .ready, pending := none, fn := fn, tmps := a.tmps, params := ps, assign := assign, body := body, defers := w.heap.size })) = ((w.alloc (.deferred (some []))).alloc (.loop (rec .ready none))) := by rw [hrec]
  rw [hrw] at hrun
  have hL : ((w.alloc (.deferred (some []))).alloc (.loop (rec .ready none))).heap[w.heap.size + 1]? = some (.loop (rec .ready none)) := by
    have := World.alloc_heap_new (w.alloc (.deferred (some []))) (.loop (rec .ready none))
    rwa [World.size_alloc] at this
  have hD : ((w.alloc (.deferred (some []))).alloc (.loop (rec .ready none))).heap[w.heap.size]? = some (.deferred (some [])) :=
    (Below.heap_alloc _ _ _ (by simp)).trans (World.alloc_heap_new w _)
  generalize ((w.alloc (.deferred (some []))).alloc (.loop (rec .ready none))) = V at hbel hsz hrun hL hD
  refine ⟨w.heap.size + 1, [{ target := .collected w.heap.size, args := #[] }], V, { target := .fn (.func 37) #[.pointer (some ⟨sb, 0, none⟩)], args := #[.func (.yield (w.heap.size + 1)) #[] #[]] }, V, 37, #[.func (.yield (w.heap.size + 1)) #[] #[], .pointer (some ⟨sb, 0, none⟩)], V, hrun, ?_, fun _ _ => trivial, ?_, fun h => (by cases h), ?_⟩
  · simp only [resolve, hg]
    simp [go_sem]
  · have eg : ∀ args w, (callFunc 37 args).run Tryd.prog w = .ok (.enter 37 args) w := enters_of Tryd.func37 (by kernel_rfl) rfl
    simp [invoke, go_sem, eg]
  · have rL : RgL w.heap.size sb (w.heap.size + 1) := .inr (.inr rfl)
    have rD : RgL w.heap.size sb w.heap.size := .inr (.inl rfl)
    have rS : RgL w.heap.size sb sb := .inl rfl
    refine (lines1_any (w.heap.size + 1) (n - 1) sb X
      (fun pre W => I pre W ∧ W.heap[w.heap.size + 1]? = some (.loop (rec .ready none)) ∧ W.heap[w.heap.size]? = some (.deferred (some [])))
      (fun pre W => ∃ c, Ix c pre W ∧ W.heap[w.heap.size + 1]? = some (.loop (rec .done (some c))) ∧ W.heap[w.heap.size]? = some (.deferred (some [])))
      V hX ((hbel.block sb hsbl).trans hsb) ?_ ?_ ⟨hI _ _ _ h0 (.of_below hbel), hL, hD⟩).mono ?_
    · rintro pre A B ⟨h1, h2, h3⟩ hO
      have hlt := (Array.getElem?_eq_some_iff.1 h2).1
      exact ⟨hI _ _ _ h1 (hO.mono (fun k hk => .inl hk)), (hO.block _ hlt (by omega)).trans h2, (hO.block _ (by omega) (by omega)).trans h3⟩
    · rintro pre x Wa ⟨hi, hl1, hk1⟩ hp ⟨s', hs'⟩
      have hlt := (Array.getElem?_eq_some_iff.1 hl1).1
      have hy := run_yield (P := Tryd.prog) (args := #[.string (bs x)]) hl1 (by rw [hrec]; simp [hps])
      rw [hrec] at hy
      refine ⟨fn, _, assign, body, hy, roundIn_of_wpIn hfn (hassign _ x Wa _ ?_)⟩
      refine ⟨_, run_beginRound hl1 (by rw [hrec]), wpIn_mono (hbody _ pre x _ (hI _ _ _ hi ((Only.refl _ _).put _ rL)) hp (by simp; omega)) ?_⟩
      have hl3 : (Wa.putObj (w.heap.size + 1) (.loop { rec .ready none with state := .busy })).heap[w.heap.size + 1]? = some (.loop { rec .ready none with state := .busy }) := World.putObj_heap_same (by omega)
      have hk3 : (Wa.putObj (w.heap.size + 1) (.loop { rec .ready none with state := .busy })).heap[w.heap.size]? = some (.deferred (some [])) := (World.putObj_heap_other (by omega)).trans hk1
      have hs3 : (Wa.putObj (w.heap.size + 1) (.loop { rec .ready none with state := .busy })).heap.size = Wa.heap.size := by simp
      have fin : ∀ (jump : Option Code) (W3 : World), KpL w.heap.size sb (Wa.putObj (w.heap.size + 1) (.loop { rec .ready none with state := .busy })) W3 →
          ∃ W4, (Instr.endRound (w.heap.size + 1) jump).run Tryd.prog W3 = .ok (.bool jump.isNone) W4 ∧ Only (RgL w.heap.size sb) W3 W4 ∧ W4.heap[w.heap.size + 1]? = some (.loop (rec (if jump.isNone then .ready else .done) jump)) ∧ W4.heap[w.heap.size]? = some (.deferred (some [])) ∧
            Wa.heap.size ≤ W4.heap.size ∧ W4.heap[sb]? = Wa.heap[sb]? := by
        intro jump W3 hK
        have hl4 := (hK.same _ rL (by omega)).trans hl3
        have hk4 := (hK.same _ rD (by omega)).trans hk3
        have hz4 := hK.size
        have hr := run_endRound (P := Tryd.prog) jump hl4
        refine ⟨_, hr, (Only.refl _ _).put _ rL, ?_, (World.putObj_heap_other (by omega)).trans hk4, by simp; omega, ?_⟩
        · rw [World.putObj_heap_same (by omega), hrec]
        · have hne : sb ≠ w.heap.size + 1 := by omega
          exact (World.putObj_heap_other hne).trans ((hK.same sb rS (by omega)).trans (World.putObj_heap_other hne))
      rintro e a3 W3 hp3
      cases e with
      | normal =>
        obtain ⟨W4, hr, hO, h4, h5, h6⟩ := fin none W3 hp3.1
        exact ⟨_, _, hr, .inl ⟨rfl, ⟨hI _ _ _ hp3.2 hO, h4, h5⟩, h6⟩⟩
      | ret =>
        obtain ⟨W4, hr, hO, h4, h5, h6⟩ := fin (some .ret) W3 hp3.1
        exact ⟨_, _, hr, .inr ⟨rfl, .ret, hIx _ _ _ _ hp3.2 hO, h4, h5⟩⟩
      | exit id =>
        obtain ⟨W4, hr, hO, h4, h5, h6⟩ := fin (some (.exit id)) W3 hp3.1
        exact ⟨_, _, hr, .inr ⟨rfl, .exit id, hIx _ _ _ _ hp3.2 hO, h4, h5⟩⟩
      | goto t =>
        obtain ⟨W4, hr, hO, h4, h5, h6⟩ := fin (some (.goto t)) W3 hp3.1
        exact ⟨_, _, hr, .inr ⟨rfl, .goto t, hIx _ _ _ _ hp3.2 hO, h4, h5⟩⟩
      | panic ch => exact hp3.elim
      | outgrown => exact hp3.elim
    · rintro e W2 ⟨⟨v, rfl⟩, ⟨hi, hl, hk⟩ | ⟨pre, hp, c, hi, hl, hk⟩⟩
      · have hlt : w.heap.size + 1 < W2.heap.size := (Array.getElem?_eq_some_iff.1 hl).1
        refine ⟨none, _, by have := run_endLoop (P := Tryd.prog) hl (by rw [hrec]; simp); rw [hrec] at this; exact this, hdone _ (hI _ _ _ hi ((Only.refl _ _).put _ rL)) ((World.putObj_heap_other (by omega)).trans hk) (by simp; omega)⟩
      · have hlt : w.heap.size + 1 < W2.heap.size := (Array.getElem?_eq_some_iff.1 hl).1
        refine ⟨some c, _, by have := run_endLoop (P := Tryd.prog) hl (by rw [hrec]; simp); rw [hrec] at this; exact this, hstop c pre _ hp (hIx _ _ _ _ hi ((Only.refl _ _).put _ rL)) ((World.putObj_heap_other (by omega)).trans hk) (by simp; omega)⟩
end Go.Proofs.YtcajejfddfiidaaDoor
