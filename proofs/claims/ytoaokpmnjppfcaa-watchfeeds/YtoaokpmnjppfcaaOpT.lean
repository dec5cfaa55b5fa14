import Derived.Test.YtoaokpmnjppfcaaTabA
import Derived.ProofKit
import Derived.OpenShut
import Derived.ChangeOld
import Derived.SizedLaws
import Derived.ChangeArms
import Derived.Deep.Slices
import Derived.KernelRfl
namespace Go.Proofs.Ytoaokpmnjppfcaa
open Go.ChangeShapes Go.WideShapes Go.ChangeAt Go.RowKit
set_option linter.unusedVariables false

/-- All lists within are of a size that can be. -/
def WOk {H : Type} (P : Program) (t : TypeId) (d : DataW H) : Prop := ∀ n ∈ d.weights P t, n ≤ reachBytes
theorem wok_of_each {H : Type} {P : Program} {ts : List TypeId} {ds : List (DataW H)} (h : (DataW.weightsEach P ts ds).all (· ≤ reachBytes) = true) {j : Nat} {t : TypeId} {d : DataW H} (ht : ts[j]? = some t) (hd : ds[j]? = some d) : WOk P t d :=
  fun n hn => by simpa using List.all_eq_true.1 h n (DataW.weights_mem_each ht hd n hn)
theorem WOk.field {H : Type} {P : Program} {t : TypeId} {parts : List (DataW H)} {fs : Array Field} (h : WOk P t (.agg parts)) (hu : P.underlying t = some (.struct fs)) {j : Nat} {tj : TypeId} {d : DataW H} (ht : (fs.toList.map (·.type))[j]? = some tj) (hd : parts[j]? = some d) : WOk P tj d :=
  fun n hn => h n (by unfold DataW.weights; rw [hu]; exact DataW.weights_mem_each ht hd n hn)
theorem weightsAll_mem {H : Type} {P : Program} {e : TypeId} : ∀ {ds : List (DataW H)} {d : DataW H}, d ∈ ds → ∀ n ∈ d.weights P e, n ∈ DataW.weightsAll P e ds
  | d0 :: ds, d, h, n, hn => by
    simp only [DataW.weightsAll, List.mem_append]
    rcases List.mem_cons.1 h with rfl | h
    · exact .inl hn
    · exact .inr (weightsAll_mem h n hn)
  | [], _, h, _, _ => by cases h
theorem cell_ltO {w : World} {b o : Nat} {v : Value} (h : w.cell? ⟨b, o, none⟩ = some v) : b < w.heap.size := cell_ltF h

/-- A part of an argument that is a list. -/
theorem rows_open {α : Type} [Inhabited α] {P : Program} {H : Type} {enc : TypeId × Value → H} {W : World} {base fuel : Nat} {held : Bool} {vs : List Value} {x : DataW H × List MemPlace} {t e : TypeId} {sz mx by' : Nat} {R : (Nat → Prop) → World → List Value → α → Prop}
    (h0 : 0 < sz) (ht : P.underlying t = some (.slice e)) (hc : P.cellsOf e = sz) (hb : P.bytesOf e = by') (hmx : ∀ n, n * by' ≤ reachBytes → n ≤ mx)
    (hE : ∀ n cs' (y : DataW H × List MemPlace), DataW.trod enc P W base (fun _ => true) held n e cs' = some y → WOk P e y.1 → ∃ a : α, cs'.length = sz ∧ R (fun _ => True) W cs' a)
    (h : DataW.trod enc P W base (fun _ => true) held fuel t vs = some x) (hw : WOk P t x.1) :
    ∃ (v : Value) (L : List α), vs = [v] ∧ Rows sz mx R (fun _ => True) W v L := by
  rcases Go.Deep.open_slice ht h with ⟨hcs, _⟩ | ⟨ad, len, cap, m, n, D, Pl, hcs, _, hle, hm, hmm, hx, hel⟩
  · exact ⟨_, [], hcs, .inl ⟨rfl, rfl⟩⟩
  · simp only [if_true] at hmm
    subst hmm
    rw [hc] at hel
    subst hx
    have hlen : len ≤ mx := by
      refine hmx len ?_
      have := hw ((((List.range len).map D).length + ((List.range (m - len)).map fun j => D (len + j)).length) * by') (by simp [DataW.weights, ht, hb])
      simp at this
      exact Nat.le_trans (Nat.mul_le_mul_right _ (by omega)) this
    have each : ∀ i, i < len → ∃ q : α × List Value, q.2.length = sz ∧ R (fun _ => True) W q.2 q.1 ∧ W.cells? base (ad.add (i * sz)) sz = some q.2 := by
      intro i hi
      obtain ⟨cs', h1, h2⟩ := hel i (by omega)
      obtain ⟨a, h3, h4⟩ := hE _ _ _ h2 (fun n hn => hw n (by
        unfold DataW.weights; rw [ht]
        refine List.mem_cons_of_mem _ (List.mem_append_left _ (weightsAll_mem (d := D i) ?_ n hn))
        exact List.mem_map.2 ⟨i, by simpa using hi, rfl⟩))
      exact ⟨(a, cs'), h3, h4, h1⟩
    obtain ⟨f, hfn⟩ := Go.Deep.choose_lt (α := α × List Value) (n := len) (p := fun i q => q.2.length = sz ∧ R (fun _ => True) W q.2 q.1 ∧ W.cells? base (ad.add (i * sz)) sz = some q.2) each
    refine ⟨_, (List.range len).map (fun i => (f i).1), hcs, .inr ⟨ad, m, by simp, by simpa using hle, by simpa using hlen, ?_⟩⟩
    by_cases hz : len = 0
    · left; subst hz; rfl
    · right
      have hcc : ∀ i, i < len → ∀ j, j < sz → W.cell? ((ad.add (i * sz)).add j) = (f i).2[j]? := fun i hi => (World.cells?_some (hfn i hi).2.2).2.2
      obtain ⟨b, off, spot⟩ := ad
      have h00 := hcc 0 (by omega) 0 h0
      rw [List.getElem?_eq_getElem (by rw [(hfn 0 (by omega)).1]; exact h0)] at h00
      have h01 : W.cell? ⟨b, off, spot⟩ = some ((f 0).2[0]'(by rw [(hfn 0 (by omega)).1]; exact h0)) := by simpa [Addr.add] using h00
      have hspot : spot = none := by simpa using World.cell?_spot h01
      subst hspot
      refine ⟨rfl, trivial, cell_ltO h01, fun i hi => ?_⟩
      have hi' : i < len := by simpa using hi
      refine ⟨(f i).2, (hfn i hi').1, by rw [List.getElem_map, List.getElem_range]; exact (hfn i hi').2.1, fun j u hu => ?_⟩
      have hj : j < sz := by have := (List.getElem?_eq_some_iff.1 hu).1; rw [(hfn i hi').1] at this; exact this
      have := hcc i hi' j hj
      rw [Go.WideShapes.add_plain, Go.WideShapes.add_plain] at this
      rw [this]; exact hu

/-- Numbers that a word can hold. -/
def Cf.ok (x : Cf) : Prop := (Lit.int .i64 x.a).wf = true ∧ (Lit.int .i64 x.b).wf = true ∧ (Lit.int .i64 x.ab).wf = true ∧ (Lit.int .i64 x.ba).wf = true
def Gp.ok (x : Gp) : Prop := (Lit.int .i64 x.sort).wf = true ∧ (Lit.int .i64 x.min).wf = true ∧ (Lit.int .i64 x.amber).wf = true ∧ (Lit.int .i64 x.lead).wf = true
def GpR (S : Nat → Prop) (w : World) (cs : List Value) (x : Gp) : Prop := cs = x.cs ∧ x.ok
def CfR (S : Nat → Prop) (w : World) (cs : List Value) (x : Cf) : Prop := cs = x.cs ∧ x.ok
theorem rows_fl {α : Type} {sz mx : Nat} {cs : α → List Value} {ok : α → Prop} {R : (Nat → Prop) → World → List Value → α → Prop} {S : Nat → Prop} {w : World} {v : Value} {L : List α} (hR : ∀ S w c x, R S w c x → c = cs x ∧ ok x) (h : Rows sz mx R S w v L) :
    Fl sz cs w v L ∧ L.length ≤ mx ∧ ∀ (i : Nat) (hi : i < L.length), ok L[i] := by
  rcases h with ⟨h1, h2⟩ | ⟨ad, cap, h1, h2, h3, h4⟩
  · subst h2
    exact ⟨.inl ⟨h1, rfl⟩, Nat.zero_le _, fun i hi => by simp at hi⟩
  · rcases h4 with h4 | ⟨s1, _, s3, s4⟩
    · subst h4
      exact ⟨.inr ⟨ad, cap, h1, h2, .inl rfl⟩, h3, fun i hi => by simp at hi⟩
    · refine ⟨.inr ⟨ad, cap, h1, h2, .inr ⟨s1, s3, fun i hi j u hu => ?_⟩⟩, h3, fun i hi => ?_⟩
      · obtain ⟨c, _, c2, c3⟩ := s4 i hi
        exact c3 j u (by rw [(hR _ _ _ _ c2).1]; exact hu)
      · obtain ⟨c, _, c2, _⟩ := s4 i hi
        exact (hR _ _ _ _ c2).2
theorem k3 : Try.prog.cellsOf 3 = 1 := by kernel_rfl
theorem k9 : Try.prog.cellsOf 9 = 1 := by kernel_rfl
theorem k22 : Try.prog.cellsOf 22 = 1 := by kernel_rfl
theorem k23 : Try.prog.cellsOf 23 = 1 := by kernel_rfl
theorem k25 : Try.prog.cellsOf 25 = 2 := by kernel_rfl
theorem k44 : Try.prog.cellsOf 66 = 5 := by kernel_rfl
theorem k47 : Try.prog.cellsOf 68 = 4 := by kernel_rfl
theorem y44 : Try.prog.bytesOf 66 = 48 := by kernel_rfl
theorem y47 : Try.prog.bytesOf 68 = 32 := by kernel_rfl
section
variable {H : Type} {enc : TypeId × Value → H} {W : World} {base n : Nat} {held : Bool} {cs : List Value} {y : DataW H × List MemPlace}
set_option maxRecDepth 100000 in
theorem group_open (h : DataW.trod enc Try.prog W base (fun _ => true) held n 66 cs = some y) : ∃ a : Gp, cs.length = 5 ∧ GpR (fun _ => True) W cs a := by
  obtain ⟨xs, k, _, _, hl, hlen, hf⟩ := DataW.trod_struct Try.underlying66 h
  rw [k44] at hl
  match cs, hl, xs, hlen with
  | [a0, a1, a2, a3, a4], _, [y0, y1, y2, y3, y4], _ =>
    have f0 : DataW.trod enc Try.prog W base (fun _ => true) held k 9 [a0] = some y0 := by simpa [k9] using hf 0 _ rfl
    have f1 : DataW.trod enc Try.prog W base (fun _ => true) held k 3 [a1] = some y1 := by simpa [k3] using hf 1 _ rfl
    have f2 : DataW.trod enc Try.prog W base (fun _ => true) held k 3 [a2] = some y2 := by simpa [k3] using hf 2 _ rfl
    have f3 : DataW.trod enc Try.prog W base (fun _ => true) held k 3 [a3] = some y3 := by simpa [k3] using hf 3 _ rfl
    have f4 : DataW.trod enc Try.prog W base (fun _ => true) held k 3 [a4] = some y4 := by simpa [k3] using hf 4 _ rfl
    obtain ⟨s0, e0, _⟩ := DataW.trod_string Try.underlying9 f0
    obtain ⟨n1, e1, _, r1⟩ := DataW.trod_int Try.underlying3 f1
    obtain ⟨n2, e2, _, r2⟩ := DataW.trod_int Try.underlying3 f2
    obtain ⟨n3, e3, _, r3⟩ := DataW.trod_int Try.underlying3 f3
    obtain ⟨n4, e4, _, r4⟩ := DataW.trod_int Try.underlying3 f4
    simp at e0 e1 e2 e3 e4
    subst e0 e1 e2 e3 e4
    exact ⟨⟨s0, n1, n2, n3, n4⟩, rfl, rfl, r1, r2, r3, r4⟩
set_option maxRecDepth 100000 in
theorem conf_open (h : DataW.trod enc Try.prog W base (fun _ => true) held n 68 cs = some y) : ∃ a : Cf, cs.length = 4 ∧ CfR (fun _ => True) W cs a := by
  obtain ⟨xs, k, _, _, hl, hlen, hf⟩ := DataW.trod_struct Try.underlying68 h
  rw [k47] at hl
  match cs, hl, xs, hlen with
  | [a1, a2, a3, a4], _, [y1, y2, y3, y4], _ =>
    have f1 : DataW.trod enc Try.prog W base (fun _ => true) held k 3 [a1] = some y1 := by simpa [k3] using hf 0 _ rfl
    have f2 : DataW.trod enc Try.prog W base (fun _ => true) held k 3 [a2] = some y2 := by simpa [k3] using hf 1 _ rfl
    have f3 : DataW.trod enc Try.prog W base (fun _ => true) held k 3 [a3] = some y3 := by simpa [k3] using hf 2 _ rfl
    have f4 : DataW.trod enc Try.prog W base (fun _ => true) held k 3 [a4] = some y4 := by simpa [k3] using hf 3 _ rfl
    obtain ⟨n1, e1, _, r1⟩ := DataW.trod_int Try.underlying3 f1
    obtain ⟨n2, e2, _, r2⟩ := DataW.trod_int Try.underlying3 f2
    obtain ⟨n3, e3, _, r3⟩ := DataW.trod_int Try.underlying3 f3
    obtain ⟨n4, e4, _, r4⟩ := DataW.trod_int Try.underlying3 f4
    simp at e1 e2 e3 e4
    subst e1 e2 e3 e4
    exact ⟨⟨n1, n2, n3, n4⟩, rfl, rfl, r1, r2, r3, r4⟩
/-- Tables as they are read. -/
def TbR (w : World) (v : Value) (G : List Gp) (C : List Cf) : Prop := ∃ vg vc, v = .agg #[vg, vc] ∧ Fl 5 Gp.cs w vg G ∧ Fl 4 Cf.cs w vc C ∧ G.length ≤ 2932031007317 ∧ C.length ≤ 4398046511000 ∧ (∀ (i : Nat) (h : i < G.length), G[i].ok) ∧ ∀ (i : Nat) (h : i < C.length), C[i].ok
set_option maxRecDepth 100000 in
theorem tables_open (h : DataW.trod enc Try.prog W base (fun _ => true) held n 25 cs = some y) (hw : WOk Try.prog 25 y.1) : ∃ G C, TbR W (.agg cs.toArray) G C := by
  haveI : Inhabited Gp := ⟨⟨⟨#[]⟩, 0, 0, 0, 0⟩⟩
  haveI : Inhabited Cf := ⟨⟨0, 0, 0, 0⟩⟩
  obtain ⟨xs, k, _, hy, hl, hlen, hf⟩ := DataW.trod_struct Try.underlying25 h
  subst hy
  rw [k25] at hl
  match cs, hl, xs, hlen with
  | [a0, a1], _, [y0, y1], _ =>
    have f0 : DataW.trod enc Try.prog W base (fun _ => true) held k 22 [a0] = some y0 := by simpa [k22] using hf 0 _ rfl
    have f1 : DataW.trod enc Try.prog W base (fun _ => true) held k 23 [a1] = some y1 := by simpa [k23] using hf 1 _ rfl
    obtain ⟨v0, G, e0, h0⟩ := rows_open (R := GpR) (sz := 5) (mx := 2932031007317) (by decide) Try.underlying22 k44 y44 (fun n hn => by unfold reachBytes at hn; omega) (fun _ _ _ h w => group_open h) f0 (hw.field Try.underlying25 (j := 0) rfl rfl)
    obtain ⟨v1, C, e1, h1⟩ := rows_open (R := CfR) (sz := 4) (mx := 4398046511000) (by decide) Try.underlying23 k47 y47 (fun n hn => by unfold reachBytes at hn; omega) (fun _ _ _ h w => conf_open h) f1 (hw.field Try.underlying25 (j := 1) rfl rfl)
    simp at e0 e1
    subst e0 e1
    obtain ⟨a1, a2, a3⟩ := rows_fl (fun _ _ _ _ h => h) h0
    obtain ⟨b1, b2, b3⟩ := rows_fl (fun _ _ _ _ h => h) h1
    exact ⟨G, C, _, _, rfl, a1, b1, a2, b2, a3, b3⟩
end
set_option maxRecDepth 100000 in
theorem tables_arg {H : Type} {enc : TypeId × Value → H} {W : World} {base b0 : Nat} {held : Bool} {v : Value} {d : DataW H} {ps : List MemPlace} (h : DataW.Trod enc Try.prog W base (fun _ => true) held 25 v d ps) (hv : Value.okWide Try.prog W .any b0 25 v) (hw : WOk Try.prog 25 d) : ∃ G C, TbR W v G C := by
  obtain ⟨cs, rfl, _⟩ := okWide_struct Try.underlying25 hv
  obtain ⟨fuel, hf⟩ := h
  simpa [Value.cells] using tables_open hf hw
end Go.Proofs.Ytoaokpmnjppfcaa
