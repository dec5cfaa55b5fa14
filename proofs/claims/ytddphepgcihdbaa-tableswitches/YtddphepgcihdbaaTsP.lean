import Derived.Test.YtddphepgcihdbaaTsL
import Derived.Test.YtddphepgcihdbaaRows
import Derived.ProofKit
import Derived.OpenShut
import Derived.ChangeOld
import Derived.SizedLaws
import Derived.ChangeArms
import Derived.Deep.Slices
import Derived.KernelRfl
namespace Go.Proofs.Ytddphepgcihdbaa
open Go.ChangeShapes Go.WideShapes Go.ChangeAt Go.RowKit
set_option linter.unusedVariables false
set_option linter.unusedSimpArgs false

/-- All lists within are of a size that can be. -/
def WOk {H : Type} (P : Program) (t : TypeId) (d : DataW H) : Prop := ∀ n ∈ d.weights P t, n ≤ reachBytes
theorem wok_of_each {H : Type} {P : Program} {ts : List TypeId} {ds : List (DataW H)} (h : (DataW.weightsEach P ts ds).all (· ≤ reachBytes) = true) {j : Nat} {t : TypeId} {d : DataW H} (ht : ts[j]? = some t) (hd : ds[j]? = some d) : WOk P t d :=
  fun n hn => by simpa using List.all_eq_true.1 h n (DataW.weights_mem_each ht hd n hn)
theorem WOk.field {H : Type} {P : Program} {t : TypeId} {parts : List (DataW H)} {fs : Array Field} (h : WOk P t (.agg parts)) (hu : P.underlying t = some (.struct fs)) {j : Nat} {tj : TypeId} {d : DataW H} (ht : (fs.toList.map (·.type))[j]? = some tj) (hd : parts[j]? = some d) : WOk P tj d :=
  fun n hn => h n (by unfold DataW.weights; rw [hu]; exact DataW.weights_mem_each ht hd n hn)
theorem weightsAll_mem {H : Type} {P : Program} {e : TypeId} : ∀ {ds : List (DataW H)} {d : DataW H}, d ∈ ds → ∀ n ∈ d.weights P e, n ∈ DataW.weightsAll P e ds
  | d0 :: ds, d, h, n, hn => by
    simp only [DataW.weightsAll, List.mem_append]
    rcases List.mem_cons.1 h with rfl | h
    · exact .inl hn
    · exact .inr (weightsAll_mem h n hn)
  | [], _, h, _, _ => by cases h
theorem cell_ltO {w : World} {b o : Nat} {v : Value} (h : w.cell? ⟨b, o, none⟩ = some v) : b < w.heap.size := cell_ltF h

/-- A part of an argument that is a list. -/
theorem rows_open {α : Type} [Inhabited α] {P : Program} {H : Type} {enc : TypeId × Value → H} {W : World} {base fuel : Nat} {held : Bool} {vs : List Value} {x : DataW H × List MemPlace} {t e : TypeId} {sz mx by' : Nat} {R : (Nat → Prop) → World → List Value → α → Prop}
    (h0 : 0 < sz) (ht : P.underlying t = some (.slice e)) (hc : P.cellsOf e = sz) (hb : P.bytesOf e = by') (hmx : ∀ n, n * by' ≤ reachBytes → n ≤ mx)
    (hE : ∀ n cs' (y : DataW H × List MemPlace), DataW.trod enc P W base (fun _ => true) held n e cs' = some y → WOk P e y.1 → ∃ a : α, cs'.length = sz ∧ R (fun _ => True) W cs' a)
    (h : DataW.trod enc P W base (fun _ => true) held fuel t vs = some x) (hw : WOk P t x.1) :
    ∃ (v : Value) (L : List α), vs = [v] ∧ Rows sz mx R (fun _ => True) W v L := by
  rcases Go.Deep.open_slice ht h with ⟨hcs, _⟩ | ⟨ad, len, cap, m, n, D, Pl, hcs, _, hle, hm, hmm, hx, hel⟩
  · exact ⟨_, [], hcs, .inl ⟨rfl, rfl⟩⟩
  · simp only [if_true] at hmm
    subst hmm
    rw [hc] at hel
    subst hx
    have hlen : len ≤ mx := by
      refine hmx len ?_
      have := hw ((((List.range len).map D).length + ((List.range (m - len)).map fun j => D (len + j)).length) * by') (by simp [DataW.weights, ht, hb])
      simp at this
      exact Nat.le_trans (Nat.mul_le_mul_right _ (by omega)) this
    have each : ∀ i, i < len → ∃ q : α × List Value, q.2.length = sz ∧ R (fun _ => True) W q.2 q.1 ∧ W.cells? base (ad.add (i * sz)) sz = some q.2 := by
      intro i hi
      obtain ⟨cs', h1, h2⟩ := hel i (by omega)
      obtain ⟨a, h3, h4⟩ := hE _ _ _ h2 (fun n hn => hw n (by
        unfold DataW.weights; rw [ht]
        refine List.mem_cons_of_mem _ (List.mem_append_left _ (weightsAll_mem (d := D i) ?_ n hn))
        exact List.mem_map.2 ⟨i, by simpa using hi, rfl⟩))
      exact ⟨(a, cs'), h3, h4, h1⟩
    obtain ⟨f, hfn⟩ := Go.Deep.choose_lt (α := α × List Value) (n := len) (p := fun i q => q.2.length = sz ∧ R (fun _ => True) W q.2 q.1 ∧ W.cells? base (ad.add (i * sz)) sz = some q.2) each
    refine ⟨_, (List.range len).map (fun i => (f i).1), hcs, .inr ⟨ad, m, by simp, by simpa using hle, by simpa using hlen, ?_⟩⟩
    by_cases hz : len = 0
    · left; subst hz; rfl
    · right
      have hcc : ∀ i, i < len → ∀ j, j < sz → W.cell? ((ad.add (i * sz)).add j) = (f i).2[j]? := fun i hi => (World.cells?_some (hfn i hi).2.2).2.2
      obtain ⟨b, off, spot⟩ := ad
      have h00 := hcc 0 (by omega) 0 h0
      rw [List.getElem?_eq_getElem (by rw [(hfn 0 (by omega)).1]; exact h0)] at h00
      have h01 : W.cell? ⟨b, off, spot⟩ = some ((f 0).2[0]'(by rw [(hfn 0 (by omega)).1]; exact h0)) := by simpa [Addr.add] using h00
      have hspot : spot = none := by simpa using World.cell?_spot h01
      subst hspot
      refine ⟨rfl, trivial, cell_ltO h01, fun i hi => ?_⟩
      have hi' : i < len := by simpa using hi
      refine ⟨(f i).2, (hfn i hi').1, by rw [List.getElem_map, List.getElem_range]; exact (hfn i hi').2.1, fun j u hu => ?_⟩
      have hj : j < sz := by have := (List.getElem?_eq_some_iff.1 hu).1; rw [(hfn i hi').1] at this; exact this
      have := hcc i hi' j hj
      rw [Go.WideShapes.add_plain, Go.WideShapes.add_plain] at this
      rw [this]; exact hu

theorem rows_fl {α : Type} {sz mx : Nat} {cs : α → List Value} {ok : α → Prop} {R : (Nat → Prop) → World → List Value → α → Prop} {S : Nat → Prop} {w : World} {v : Value} {L : List α} (hR : ∀ S w c x, R S w c x → c = cs x ∧ ok x) (h : Rows sz mx R S w v L) :
    Fl sz cs w v L ∧ L.length ≤ mx ∧ ∀ (i : Nat) (hi : i < L.length), ok L[i] := by
  rcases h with ⟨h1, h2⟩ | ⟨ad, cap, h1, h2, h3, h4⟩
  · subst h2
    exact ⟨.inl ⟨h1, rfl⟩, Nat.zero_le _, fun i hi => by simp at hi⟩
  · rcases h4 with h4 | ⟨s1, _, s3, s4⟩
    · subst h4
      exact ⟨.inr ⟨ad, cap, h1, h2, .inl rfl⟩, h3, fun i hi => by simp at hi⟩
    · refine ⟨.inr ⟨ad, cap, h1, h2, .inr ⟨s1, s3, fun i hi j u hu => ?_⟩⟩, h3, fun i hi => ?_⟩
      · obtain ⟨c, _, c2, c3⟩ := s4 i hi
        exact c3 j u (by rw [(hR _ _ _ _ c2).1]; exact hu)
      · obtain ⟨c, _, c2, _⟩ := s4 i hi
        exact (hR _ _ _ _ c2).2
def IntR (S : Nat → Prop) (w : World) (cs : List Value) (x : Int) : Prop := cs = Int.cs x ∧ (Lit.int .i64 x).wf = true
theorem kc3' : Try.prog.cellsOf 3 = 1 := by kernel_rfl
theorem yb3' : Try.prog.bytesOf 3 = 8 := by kernel_rfl
theorem int_open {H : Type} {enc : TypeId × Value → H} {W : World} {base n : Nat} {held : Bool} {cs : List Value} {y : DataW H × List MemPlace} (h : DataW.trod enc Try.prog W base (fun _ => true) held n 3 cs = some y) : ∃ a : Int, cs.length = 1 ∧ IntR (fun _ => True) W cs a := by
  obtain ⟨n0, e0, _, r0⟩ := DataW.trod_int Try.underlying3 h
  subst e0
  exact ⟨n0, rfl, rfl, r0⟩
set_option maxRecDepth 100000 in
theorem ints_arg {H : Type} {enc : TypeId × Value → H} {W : World} {base : Nat} {held : Bool} {v : Value} {d : DataW H} {ps : List MemPlace} {b0 : Nat} (h : DataW.Trod enc Try.prog W base (fun _ => true) held 22 v d ps) (hok : Value.okWide Try.prog W .any b0 22 v) (hw : WOk Try.prog 22 d) : ∃ (L : List Int) (a : Option Addr) (c : Nat), v = .slice a L.length c ∧ ChP W L a := by
  obtain ⟨a0, len0, cap0, rfl⟩ := okWide_slice Try.underlying22 hok
  obtain ⟨fuel, hf⟩ := h
  obtain ⟨v', L, e, hR⟩ := rows_open (R := IntR) (sz := 1) (mx := 17592186044416) (by decide) Try.underlying22 kc3' yb3' (fun n hn => by unfold reachBytes at hn; omega) (fun _ _ _ h _ => int_open h) hf hw
  have hv : Value.slice a0 len0 cap0 = v' := by simpa [Value.cells] using e
  obtain ⟨p1, p2, p3⟩ := rows_fl (cs := Int.cs) (fun _ _ _ _ h => h) hR
  obtain ⟨a, c, rfl, hx⟩ := p1.any
  refine ⟨L, a, c, hv, p2, ?_, ?_⟩
  · intro i hi
    have := p3 i hi
    simp only [Lit.wf, Bool.and_eq_true, decide_eq_true_eq] at this
    exact this
  · rcases hx with e | ⟨g, o, e1, e2, e3⟩
    · exact .inl e
    · refine .inr ⟨g, o, e1, e2, fun i hi => ?_⟩
      have := e3 i hi 0 _ rfl
      simpa using this
theorem ownS : ownKnob Try.prog.godebug = none := by kernel_rfl
theorem laidOutS : laidOutB Try.prog = true := by kernel_rfl
set_option maxRecDepth 100000 in
theorem lifted (os : Os) (started : os.Started) (H : Type) (enc : TypeId × Value → H) :
    ReturnsInHanded {} Try.checked os 3 .any (Rows.tableSwitchesSpec.pre6 enc Try.prog Try.f3 Rows.tableSwitchesRow.domain false) (Rows.tableSwitchesSpec.post enc Try.prog Try.f3 false true false false) := by
  refine returnsInHanded_of_change_sized (C := Try.checked) ownS started (by kernel_rfl) Try.func3
    (ChangeSpec.witness6 (enc := enc) (C := Try.checked) false ⟨#[], #[.slice none 0 0, .int .i64 0, .int .i64 0, .slice none 0 0], []⟩ 8 (by kernel_rfl) (by kernel_rfl) (by kernel_rfl) (by kernel_rfl)) ?_
  intro W base args ds gs before hval0 hW hcnd hsz _
  have hval : ∀ (j : Nat) t v, Try.f3.params[j]? = some t → args[j]? = some v → Value.okWide Try.prog W .any base t v := hval0
  have hW' := hW
  obtain ⟨p, q, hA0, hV, rfl, hfz, hnd⟩ := hW
  have hA : DataW.TrodAll enc Try.prog W 0 (fun _ => true) true Try.f3.params.toList args.toList ds p := hA0
  rw [Try.params3] at hA hval hsz
  obtain ⟨v0, vs0, d0, ds0, p0, q0, hargs, rfl, rfl, h0, r0⟩ := trodAll_cons hA
  obtain ⟨v1, vs1, d1, ds1, p1, q1, rfl, rfl, rfl, h1, r1⟩ := trodAll_cons r0
  obtain ⟨v2, vs2, d2, ds2, p2, q2, rfl, rfl, rfl, h2, r2⟩ := trodAll_cons r1
  obtain ⟨v3, vs3, d3, ds3, p3, q3, rfl, rfl, rfl, h3, r3⟩ := trodAll_cons r2
  obtain ⟨rfl, rfl, rfl⟩ := trodAll_nil r3
  obtain rfl : args = #[v0, v1, v2, v3] := by cases args; simp_all
  obtain ⟨rfl, rfl⟩ := trodVars_none hV
  have k0 := h0
  have lt0 : ∀ x ∈ p0, x.block < W.heap.size := by obtain ⟨m, hm⟩ := k0; exact DataW.trod_lt m _ _ _ hm
  have k1 := h1
  have lt1 : ∀ x ∈ p1, x.block < W.heap.size := by obtain ⟨m, hm⟩ := k1; exact DataW.trod_lt m _ _ _ hm
  have k2 := h2
  have lt2 : ∀ x ∈ p2, x.block < W.heap.size := by obtain ⟨m, hm⟩ := k2; exact DataW.trod_lt m _ _ _ hm
  have k3 := h3
  have lt3 : ∀ x ∈ p3, x.block < W.heap.size := by obtain ⟨m, hm⟩ := k3; exact DataW.trod_lt m _ _ _ hm
  obtain ⟨L, a, c, rfl, hL⟩ := ints_arg h0 (hval 0 22 v0 rfl rfl) (wok_of_each hsz (j := 0) rfl rfl)
  obtain ⟨mi, rfl⟩ := okWide_int Try.underlying3 (hval 1 3 v1 rfl rfl)
  obtain ⟨mj, rfl⟩ := okWide_int Try.underlying3 (hval 2 3 v2 rfl rfl)
  obtain ⟨K, ka, kc, rfl, hK⟩ := ints_arg h3 (hval 3 22 v3 rfl rfl) (wok_of_each hsz (j := 3) rfl rfl)
  have hmi : (Lit.int .i64 mi).wf = true := (by obtain ⟨fu, hfu⟩ := k1; obtain ⟨n0, e0, _, r0⟩ := DataW.trod_int Try.underlying3 hfu; simp [Value.cells] at e0; subst e0; exact r0)
  have hmj : (Lit.int .i64 mj).wf = true := (by obtain ⟨fu, hfu⟩ := k2; obtain ⟨n0, e0, _, r0⟩ := DataW.trod_int Try.underlying3 hfu; simp [Value.cells] at e0; subst e0; exact r0)
  simp only [Lit.wf, Bool.and_eq_true, decide_eq_true_eq] at hmi hmj
  clear hA0 hval0
  refine (callsIn_wide (n := 5) |>.1 (switches_law 5 L a c mi mj hmi hmj K ka kc W hK (make_any L a c W hL))).mono fun e W' ⟨he, bel⟩ => ?_
  subst he
  exact ⟨_, rfl, _, _, _, [], _, [], hW', trodAll_mk1 (shut_bool Try.underlying4 _), (trodAll_cons_mk (Below.trod laidOutS (by kernel_rfl) (of_decide_eq_true (by kernel_rfl)) k0 bel lt0) (trodAll_cons_mk (Below.trod laidOutS (by kernel_rfl) (of_decide_eq_true (by kernel_rfl)) k1 bel lt1) (trodAll_cons_mk (Below.trod laidOutS (by kernel_rfl) (of_decide_eq_true (by kernel_rfl)) k2 bel lt2) (trodAll_cons_mk (Below.trod laidOutS (by kernel_rfl) (of_decide_eq_true (by kernel_rfl)) k3 bel lt3) trodAll_mk0)))), rfl, bel.frame _, fun h => by cases h⟩
theorem tableSwitches_holds : Rows.TableSwitchesSaid :=
  OpenClaim.holds_of_wide 3 Try.f3 rfl rfl rfl rfl rfl rfl rfl ⟨rfl, rfl, rfl, rfl, rfl⟩ rfl rfl rfl rfl rfl (by kernel_rfl) Try.func3 (by kernel_rfl)
    (of_decide_eq_true (by kernel_rfl)) (by unfold Func.isWrapper; first | (rw [if_pos (by decide +kernel)]; kernel_rfl) | (rw [if_neg (by decide +kernel)]; exact ⟨rfl, rfl⟩))
    (fun os started H enc _ => lifted os started H enc)
#print axioms tableSwitches_holds
end Go.Proofs.Ytddphepgcihdbaa
