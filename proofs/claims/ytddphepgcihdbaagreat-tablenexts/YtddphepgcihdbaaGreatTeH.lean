import Derived.Test.YtddphepgcihdbaaGreatTeC
import Derived.ProofKit
import Derived.OpenShut
import Derived.ChangeOld
import Derived.SizedLaws
import Derived.ChangeArms
import Derived.Deep.Slices
import Derived.KernelRfl
namespace Go.Proofs.YtddphepgcihdbaaGreat
open Go.ChangeShapes Go.WideShapes Go.ChangeAt Go.RowKit
set_option linter.unusedVariables false
set_option linter.unusedSimpArgs false

/-- All lists within are of a size that can be. -/
def WOk {H : Type} (P : Program) (t : TypeId) (d : DataW H) : Prop := ∀ n ∈ d.weights P t, n ≤ reachBytes
theorem wok_of_each {H : Type} {P : Program} {ts : List TypeId} {ds : List (DataW H)} (h : (DataW.weightsEach P ts ds).all (· ≤ reachBytes) = true) {j : Nat} {t : TypeId} {d : DataW H} (ht : ts[j]? = some t) (hd : ds[j]? = some d) : WOk P t d :=
  fun n hn => by simpa using List.all_eq_true.1 h n (DataW.weights_mem_each ht hd n hn)
theorem WOk.field {H : Type} {P : Program} {t : TypeId} {parts : List (DataW H)} {fs : Array Field} (h : WOk P t (.agg parts)) (hu : P.underlying t = some (.struct fs)) {j : Nat} {tj : TypeId} {d : DataW H} (ht : (fs.toList.map (·.type))[j]? = some tj) (hd : parts[j]? = some d) : WOk P tj d :=
  fun n hn => h n (by unfold DataW.weights; rw [hu]; exact DataW.weights_mem_each ht hd n hn)
theorem weightsAll_mem {H : Type} {P : Program} {e : TypeId} : ∀ {ds : List (DataW H)} {d : DataW H}, d ∈ ds → ∀ n ∈ d.weights P e, n ∈ DataW.weightsAll P e ds
  | d0 :: ds, d, h, n, hn => by
    simp only [DataW.weightsAll, List.mem_append]
    rcases List.mem_cons.1 h with rfl | h
    · exact .inl hn
    · exact .inr (weightsAll_mem h n hn)
  | [], _, h, _, _ => by cases h
theorem cell_ltO {w : World} {b o : Nat} {v : Value} (h : w.cell? ⟨b, o, none⟩ = some v) : b < w.heap.size := cell_ltF h

/-- A part of an argument that is a list. -/
theorem rows_open {α : Type} [Inhabited α] {P : Program} {H : Type} {enc : TypeId × Value → H} {W : World} {base fuel : Nat} {held : Bool} {vs : List Value} {x : DataW H × List MemPlace} {t e : TypeId} {sz mx by' : Nat} {R : (Nat → Prop) → World → List Value → α → Prop}
    (h0 : 0 < sz) (ht : P.underlying t = some (.slice e)) (hc : P.cellsOf e = sz) (hb : P.bytesOf e = by') (hmx : ∀ n, n * by' ≤ reachBytes → n ≤ mx)
    (hE : ∀ n cs' (y : DataW H × List MemPlace), DataW.trod enc P W base (fun _ => true) held n e cs' = some y → WOk P e y.1 → ∃ a : α, cs'.length = sz ∧ R (fun _ => True) W cs' a)
    (h : DataW.trod enc P W base (fun _ => true) held fuel t vs = some x) (hw : WOk P t x.1) :
    ∃ (v : Value) (L : List α), vs = [v] ∧ Rows sz mx R (fun _ => True) W v L := by
  rcases Go.Deep.open_slice ht h with ⟨hcs, _⟩ | ⟨ad, len, cap, m, n, D, Pl, hcs, _, hle, hm, hmm, hx, hel⟩
  · exact ⟨_, [], hcs, .inl ⟨rfl, rfl⟩⟩
  · simp only [if_true] at hmm
    subst hmm
    rw [hc] at hel
    subst hx
    have hlen : len ≤ mx := by
      refine hmx len ?_
      have := hw ((((List.range len).map D).length + ((List.range (m - len)).map fun j => D (len + j)).length) * by') (by simp [DataW.weights, ht, hb])
      simp at this
      exact Nat.le_trans (Nat.mul_le_mul_right _ (by omega)) this
    have each : ∀ i, i < len → ∃ q : α × List Value, q.2.length = sz ∧ R (fun _ => True) W q.2 q.1 ∧ W.cells? base (ad.add (i * sz)) sz = some q.2 := by
      intro i hi
      obtain ⟨cs', h1, h2⟩ := hel i (by omega)
      obtain ⟨a, h3, h4⟩ := hE _ _ _ h2 (fun n hn => hw n (by
        unfold DataW.weights; rw [ht]
        refine List.mem_cons_of_mem _ (List.mem_append_left _ (weightsAll_mem (d := D i) ?_ n hn))
        exact List.mem_map.2 ⟨i, by simpa using hi, rfl⟩))
      exact ⟨(a, cs'), h3, h4, h1⟩
    obtain ⟨f, hfn⟩ := Go.Deep.choose_lt (α := α × List Value) (n := len) (p := fun i q => q.2.length = sz ∧ R (fun _ => True) W q.2 q.1 ∧ W.cells? base (ad.add (i * sz)) sz = some q.2) each
    refine ⟨_, (List.range len).map (fun i => (f i).1), hcs, .inr ⟨ad, m, by simp, by simpa using hle, by simpa using hlen, ?_⟩⟩
    by_cases hz : len = 0
    · left; subst hz; rfl
    · right
      have hcc : ∀ i, i < len → ∀ j, j < sz → W.cell? ((ad.add (i * sz)).add j) = (f i).2[j]? := fun i hi => (World.cells?_some (hfn i hi).2.2).2.2
      obtain ⟨b, off, spot⟩ := ad
      have h00 := hcc 0 (by omega) 0 h0
      rw [List.getElem?_eq_getElem (by rw [(hfn 0 (by omega)).1]; exact h0)] at h00
      have h01 : W.cell? ⟨b, off, spot⟩ = some ((f 0).2[0]'(by rw [(hfn 0 (by omega)).1]; exact h0)) := by simpa [Addr.add] using h00
      have hspot : spot = none := by simpa using World.cell?_spot h01
      subst hspot
      refine ⟨rfl, trivial, cell_ltO h01, fun i hi => ?_⟩
      have hi' : i < len := by simpa using hi
      refine ⟨(f i).2, (hfn i hi').1, by rw [List.getElem_map, List.getElem_range]; exact (hfn i hi').2.1, fun j u hu => ?_⟩
      have hj : j < sz := by have := (List.getElem?_eq_some_iff.1 hu).1; rw [(hfn i hi').1] at this; exact this
      have := hcc i hi' j hj
      rw [Go.WideShapes.add_plain, Go.WideShapes.add_plain] at this
      rw [this]; exact hu

theorem rows_fl {α : Type} {sz mx : Nat} {cs : α → List Value} {ok : α → Prop} {R : (Nat → Prop) → World → List Value → α → Prop} {S : Nat → Prop} {w : World} {v : Value} {L : List α} (hR : ∀ S w c x, R S w c x → c = cs x ∧ ok x) (h : Rows sz mx R S w v L) :
    Fl sz cs w v L ∧ L.length ≤ mx ∧ ∀ (i : Nat) (hi : i < L.length), ok L[i] := by
  rcases h with ⟨h1, h2⟩ | ⟨ad, cap, h1, h2, h3, h4⟩
  · subst h2
    exact ⟨.inl ⟨h1, rfl⟩, Nat.zero_le _, fun i hi => by simp at hi⟩
  · rcases h4 with h4 | ⟨s1, _, s3, s4⟩
    · subst h4
      exact ⟨.inr ⟨ad, cap, h1, h2, .inl rfl⟩, h3, fun i hi => by simp at hi⟩
    · refine ⟨.inr ⟨ad, cap, h1, h2, .inr ⟨s1, s3, fun i hi j u hu => ?_⟩⟩, h3, fun i hi => ?_⟩
      · obtain ⟨c, _, c2, c3⟩ := s4 i hi
        exact c3 j u (by rw [(hR _ _ _ _ c2).1]; exact hu)
      · obtain ⟨c, _, c2, _⟩ := s4 i hi
        exact (hR _ _ _ _ c2).2
theorem kc3 : Tryz.prog.cellsOf 3 = 1 := by kernel_rfl
theorem kc9 : Tryz.prog.cellsOf 9 = 1 := by kernel_rfl
theorem kc23 : Tryz.prog.cellsOf 22 = 1 := by kernel_rfl
theorem kc24 : Tryz.prog.cellsOf 23 = 7 := by kernel_rfl
theorem kc25 : Tryz.prog.cellsOf 24 = 1 := by kernel_rfl
theorem kc26 : Tryz.prog.cellsOf 25 = 1 := by kernel_rfl
theorem kc27 : Tryz.prog.cellsOf 26 = 1 := by kernel_rfl
theorem kc29 : Tryz.prog.cellsOf 28 = 12 := by kernel_rfl
theorem kc36 : Tryz.prog.cellsOf 47 = 1 := by kernel_rfl
theorem kc38 : Tryz.prog.cellsOf 49 = 2 := by kernel_rfl
theorem kc40 : Tryz.prog.cellsOf 50 = 2 := by kernel_rfl
theorem kc63 : Tryz.prog.cellsOf 52 = 9 := by kernel_rfl
theorem kc65 : Tryz.prog.cellsOf 54 = 2 := by kernel_rfl
theorem kc68 : Tryz.prog.cellsOf 56 = 2 := by kernel_rfl
theorem yb38 : Tryz.prog.bytesOf 49 = 40 := by kernel_rfl
theorem yb40 : Tryz.prog.bytesOf 50 = 16 := by kernel_rfl
theorem yb63 : Tryz.prog.bytesOf 52 = 72 := by kernel_rfl
theorem yb65 : Tryz.prog.bytesOf 54 = 16 := by kernel_rfl
theorem yb68 : Tryz.prog.bytesOf 56 = 16 := by kernel_rfl
theorem str_le {H : Type} {s : ByteArray} (h : WOk Tryz.prog 9 (.lit (.string s.data.toList) : DataW H)) : s.size ≤ 140737488355328 := by
  have := h s.data.toList.length (by simp [DataW.weights])
  unfold reachBytes at this
  have e : s.size = s.data.toList.length := by rw [Array.length_toList]; rfl
  omega
def RwR (S : Nat → Prop) (w : World) (cs : List Value) (x : Rw) : Prop := cs = x.cs ∧ True
def ExR (S : Nat → Prop) (w : World) (cs : List Value) (x : Ex) : Prop := cs = x.cs ∧ (Lit.int .i64 x.day).wf = true
def ShR (S : Nat → Prop) (w : World) (cs : List Value) (x : Sh) : Prop := cs = x.cs ∧ True
def SnR (S : Nat → Prop) (w : World) (cs : List Value) (x : Sn) : Prop := cs = x.cs ∧ True
def DkR (W : World) (S : Nat → Prop) (w : World) (cs : List Value) (x : Dk) : Prop := cs = x.cs ∧ Fl 2 Rw.cs W x.rv x.rows ∧ x.rows.length ≤ 8796093021952 ∧ x.name.size ≤ 140737488355328
section
variable {H : Type} {enc : TypeId × Value → H} {W : World} {base n : Nat} {held : Bool} {cs : List Value} {y : DataW H × List MemPlace}
set_option maxRecDepth 100000 in
theorem row_open (h : DataW.trod enc Tryz.prog W base (fun _ => true) held n 50 cs = some y) : ∃ a : Rw, cs.length = 2 ∧ RwR (fun _ => True) W cs a := by
  obtain ⟨xs, k, _, _, hl, hlen, hf⟩ := DataW.trod_struct Tryz.underlying50 h
  rw [kc40] at hl
  match cs, hl, xs, hlen with
  | [a0, a1], _, [y0, y1], _ =>
    have f0 : DataW.trod enc Tryz.prog W base (fun _ => true) held k 3 [a0] = some y0 := by simpa [kc3] using hf 0 _ rfl
    have f1 : DataW.trod enc Tryz.prog W base (fun _ => true) held k 3 [a1] = some y1 := by simpa [kc3] using hf 1 _ rfl
    obtain ⟨n0, e0, _, r0⟩ := DataW.trod_int Tryz.underlying3 f0
    obtain ⟨n1, e1, _, r1⟩ := DataW.trod_int Tryz.underlying3 f1
    simp at e0 e1
    subst e0 e1
    exact ⟨⟨n0, n1⟩, rfl, rfl, trivial⟩
set_option maxRecDepth 100000 in
theorem ex_open (h : DataW.trod enc Tryz.prog W base (fun _ => true) held n 54 cs = some y) : ∃ a : Ex, cs.length = 2 ∧ ExR (fun _ => True) W cs a := by
  obtain ⟨xs, k, _, _, hl, hlen, hf⟩ := DataW.trod_struct Tryz.underlying54 h
  rw [kc65] at hl
  match cs, hl, xs, hlen with
  | [a0, a1], _, [y0, y1], _ =>
    have f0 : DataW.trod enc Tryz.prog W base (fun _ => true) held k 3 [a0] = some y0 := by simpa [kc3] using hf 0 _ rfl
    have f1 : DataW.trod enc Tryz.prog W base (fun _ => true) held k 3 [a1] = some y1 := by simpa [kc3] using hf 1 _ rfl
    obtain ⟨n0, e0, _, r0⟩ := DataW.trod_int Tryz.underlying3 f0
    obtain ⟨n1, e1, _, r1⟩ := DataW.trod_int Tryz.underlying3 f1
    simp at e0 e1
    subst e0 e1
    exact ⟨⟨n0, n1⟩, rfl, rfl, r0⟩
set_option maxRecDepth 100000 in
theorem sh_open (h : DataW.trod enc Tryz.prog W base (fun _ => true) held n 56 cs = some y) : ∃ a : Sh, cs.length = 2 ∧ ShR (fun _ => True) W cs a := by
  obtain ⟨xs, k, _, _, hl, hlen, hf⟩ := DataW.trod_struct Tryz.underlying56 h
  rw [kc68] at hl
  match cs, hl, xs, hlen with
  | [a0, a1], _, [y0, y1], _ =>
    have f0 : DataW.trod enc Tryz.prog W base (fun _ => true) held k 3 [a0] = some y0 := by simpa [kc3] using hf 0 _ rfl
    have f1 : DataW.trod enc Tryz.prog W base (fun _ => true) held k 3 [a1] = some y1 := by simpa [kc3] using hf 1 _ rfl
    obtain ⟨n0, e0, _, r0⟩ := DataW.trod_int Tryz.underlying3 f0
    obtain ⟨n1, e1, _, r1⟩ := DataW.trod_int Tryz.underlying3 f1
    simp at e0 e1
    subst e0 e1
    exact ⟨⟨n0, n1⟩, rfl, rfl, trivial⟩
set_option maxRecDepth 100000 in
theorem wk_open {a0 a1 a2 a3 a4 a5 a6 : Value} (h : DataW.trod enc Tryz.prog W base (fun _ => true) held n 23 [a0, a1, a2, a3, a4, a5, a6] = some y) : ∃ x0 x1 x2 x3 x4 x5 x6, a0 = .int .i64 x0 ∧ a1 = .int .i64 x1 ∧ a2 = .int .i64 x2 ∧ a3 = .int .i64 x3 ∧ a4 = .int .i64 x4 ∧ a5 = .int .i64 x5 ∧ a6 = .int .i64 x6 := by
  obtain ⟨zs, k, _, _, _, hlen, hf⟩ := DataW.trod_array u24 h
  match zs, hlen with
  | [z0, z1, z2, z3, z4, z5, z6], _ =>
    have g0 : DataW.trod enc Tryz.prog W base (fun _ => true) held k 3 [a0] = some z0 := by simpa [kc3] using hf 0 (by decide)
    have g1 : DataW.trod enc Tryz.prog W base (fun _ => true) held k 3 [a1] = some z1 := by simpa [kc3] using hf 1 (by decide)
    have g2 : DataW.trod enc Tryz.prog W base (fun _ => true) held k 3 [a2] = some z2 := by simpa [kc3] using hf 2 (by decide)
    have g3 : DataW.trod enc Tryz.prog W base (fun _ => true) held k 3 [a3] = some z3 := by simpa [kc3] using hf 3 (by decide)
    have g4 : DataW.trod enc Tryz.prog W base (fun _ => true) held k 3 [a4] = some z4 := by simpa [kc3] using hf 4 (by decide)
    have g5 : DataW.trod enc Tryz.prog W base (fun _ => true) held k 3 [a5] = some z5 := by simpa [kc3] using hf 5 (by decide)
    have g6 : DataW.trod enc Tryz.prog W base (fun _ => true) held k 3 [a6] = some z6 := by simpa [kc3] using hf 6 (by decide)
    obtain ⟨n0, e0, _⟩ := DataW.trod_int Tryz.underlying3 g0
    obtain ⟨n1, e1, _⟩ := DataW.trod_int Tryz.underlying3 g1
    obtain ⟨n2, e2, _⟩ := DataW.trod_int Tryz.underlying3 g2
    obtain ⟨n3, e3, _⟩ := DataW.trod_int Tryz.underlying3 g3
    obtain ⟨n4, e4, _⟩ := DataW.trod_int Tryz.underlying3 g4
    obtain ⟨n5, e5, _⟩ := DataW.trod_int Tryz.underlying3 g5
    obtain ⟨n6, e6, _⟩ := DataW.trod_int Tryz.underlying3 g6
    simp at e0 e1 e2 e3 e4 e5 e6
    exact ⟨n0, n1, n2, n3, n4, n5, n6, e0, e1, e2, e3, e4, e5, e6⟩
set_option maxRecDepth 100000 in
theorem sn_open (h : DataW.trod enc Tryz.prog W base (fun _ => true) held n 52 cs = some y) : ∃ a : Sn, cs.length = 9 ∧ SnR (fun _ => True) W cs a := by
  obtain ⟨xs, k, _, _, hl, hlen, hf⟩ := DataW.trod_struct Tryz.underlying52 h
  rw [kc63] at hl
  match cs, hl, xs, hlen with
  | [a0, a1, b0, b1, b2, b3, b4, b5, b6], _, [y0, y1, y2], _ =>
    have f0 : DataW.trod enc Tryz.prog W base (fun _ => true) held k 3 [a0] = some y0 := by simpa [kc3] using hf 0 _ rfl
    have f1 : DataW.trod enc Tryz.prog W base (fun _ => true) held k 3 [a1] = some y1 := by simpa [kc3] using hf 1 _ rfl
    have f2 : DataW.trod enc Tryz.prog W base (fun _ => true) held k 23 [b0, b1, b2, b3, b4, b5, b6] = some y2 := by simpa [kc24] using hf 2 _ rfl
    obtain ⟨n0, e0, _, r0⟩ := DataW.trod_int Tryz.underlying3 f0
    obtain ⟨n1, e1, _, r1⟩ := DataW.trod_int Tryz.underlying3 f1
    obtain ⟨x0, x1, x2, x3, x4, x5, x6, c0, c1, c2, c3, c4, c5, c6⟩ := wk_open f2
    simp at e0 e1
    subst e0 e1 c0 c1 c2 c3 c4 c5 c6
    exact ⟨⟨n0, n1, x0, x1, x2, x3, x4, x5, x6⟩, rfl, rfl, trivial⟩
set_option maxRecDepth 100000 in
theorem dk_open (h : DataW.trod enc Tryz.prog W base (fun _ => true) held n 49 cs = some y) (hw : WOk Tryz.prog 49 y.1) : ∃ a : Dk, cs.length = 2 ∧ DkR W (fun _ => True) W cs a := by
  haveI : Inhabited Rw := ⟨⟨0, 0⟩⟩
  obtain ⟨xs, k, _, hy, hl, hlen, hf⟩ := DataW.trod_struct Tryz.underlying49 h
  subst hy
  rw [kc38] at hl
  match cs, hl, xs, hlen with
  | [a0, a1], _, [y0, y1], _ =>
    have f0 : DataW.trod enc Tryz.prog W base (fun _ => true) held k 9 [a0] = some y0 := by simpa [kc9] using hf 0 _ rfl
    have f1 : DataW.trod enc Tryz.prog W base (fun _ => true) held k 47 [a1] = some y1 := by simpa [kc36] using hf 1 _ rfl
    obtain ⟨s0, e0, d0, _⟩ := DataW.trod_string Tryz.underlying9 f0
    have w0 : WOk Tryz.prog 9 y0.1 := hw.field Tryz.underlying49 (j := 0) rfl rfl
    obtain ⟨v1, L, e1, h1⟩ := rows_open (R := RwR) (sz := 2) (mx := 8796093021952) (by decide) Tryz.underlying47 kc40 yb40 (fun n hn => by unfold reachBytes at hn; omega) (fun _ _ _ h w => row_open h) f1 (hw.field Tryz.underlying49 (j := 1) rfl rfl)
    simp at e0 e1
    subst e0 e1
    obtain ⟨q1, q2, _⟩ := rows_fl (fun _ _ _ _ h => h) h1
    rw [d0] at w0
    exact ⟨⟨s0, _, L⟩, rfl, rfl, q1, q2, str_le w0⟩
set_option maxRecDepth 100000 in
theorem tt_open (h : DataW.trod enc Tryz.prog W base (fun _ => true) held n 28 cs = some y) (hw : WOk Tryz.prog 28 y.1) : ∃ (t : Tt) (vD vS vX vH : Value), cs = [.string t.nm, vD, .int .i64 t.w0, .int .i64 t.w1, .int .i64 t.w2, .int .i64 t.w3, .int .i64 t.w4, .int .i64 t.w5, .int .i64 t.w6, vS, vX, vH] ∧ TR W t vD vS vX vH := by
  haveI : Inhabited Dk := ⟨⟨⟨#[]⟩, .slice none 0 0, []⟩⟩
  haveI : Inhabited Sn := ⟨⟨0, 0, 0, 0, 0, 0, 0, 0, 0⟩⟩
  haveI : Inhabited Ex := ⟨⟨0, 0⟩⟩
  haveI : Inhabited Sh := ⟨⟨0, 0⟩⟩
  obtain ⟨xs, k, _, hy, hl, hlen, hf⟩ := DataW.trod_struct Tryz.underlying28 h
  subst hy
  rw [kc29] at hl
  match cs, hl, xs, hlen with
  | [a0, a1, b0, b1, b2, b3, b4, b5, b6, a3, a4, a5], _, [y0, y1, y2, y3, y4, y5], _ =>
    have f0 : DataW.trod enc Tryz.prog W base (fun _ => true) held k 9 [a0] = some y0 := by simpa [kc9] using hf 0 _ rfl
    have f1 : DataW.trod enc Tryz.prog W base (fun _ => true) held k 22 [a1] = some y1 := by simpa [kc23] using hf 1 _ rfl
    have f2 : DataW.trod enc Tryz.prog W base (fun _ => true) held k 23 [b0, b1, b2, b3, b4, b5, b6] = some y2 := by simpa [kc24] using hf 2 _ rfl
    have f3 : DataW.trod enc Tryz.prog W base (fun _ => true) held k 24 [a3] = some y3 := by simpa [kc25] using hf 3 _ rfl
    have f4 : DataW.trod enc Tryz.prog W base (fun _ => true) held k 25 [a4] = some y4 := by simpa [kc26] using hf 4 _ rfl
    have f5 : DataW.trod enc Tryz.prog W base (fun _ => true) held k 26 [a5] = some y5 := by simpa [kc27] using hf 5 _ rfl
    obtain ⟨s0, e0, d0, _⟩ := DataW.trod_string Tryz.underlying9 f0
    have w0 : WOk Tryz.prog 9 y0.1 := hw.field Tryz.underlying28 (j := 0) rfl rfl
    obtain ⟨x0, x1, x2, x3, x4, x5, x6, c0, c1, c2, c3, c4, c5, c6⟩ := wk_open f2
    obtain ⟨v1, D, e1, h1⟩ := rows_open (R := DkR W) (sz := 2) (mx := 3518437208781) (by decide) Tryz.underlying22 kc38 yb38 (fun n hn => by unfold reachBytes at hn; omega) (fun _ _ _ h w => dk_open h w) f1 (hw.field Tryz.underlying28 (j := 1) rfl rfl)
    obtain ⟨v3, S, e3, h3⟩ := rows_open (R := SnR) (sz := 9) (mx := 1954687338211) (by decide) Tryz.underlying24 kc63 yb63 (fun n hn => by unfold reachBytes at hn; omega) (fun _ _ _ h w => sn_open h) f3 (hw.field Tryz.underlying28 (j := 3) rfl rfl)
    obtain ⟨v4, X, e4, h4⟩ := rows_open (R := ExR) (sz := 2) (mx := 8796093021952) (by decide) Tryz.underlying25 kc65 yb65 (fun n hn => by unfold reachBytes at hn; omega) (fun _ _ _ h w => ex_open h) f4 (hw.field Tryz.underlying28 (j := 4) rfl rfl)
    obtain ⟨v5, Hh, e5, h5⟩ := rows_open (R := ShR) (sz := 2) (mx := 8796093021952) (by decide) Tryz.underlying26 kc68 yb68 (fun n hn => by unfold reachBytes at hn; omega) (fun _ _ _ h w => sh_open h) f5 (hw.field Tryz.underlying28 (j := 5) rfl rfl)
    simp at e0 e1 e3 e4 e5
    subst e0 e1 e3 e4 e5 c0 c1 c2 c3 c4 c5 c6
    rw [d0] at w0
    obtain ⟨p1, p2, p3⟩ := rows_fl (fun _ _ _ _ h => h) h1
    obtain ⟨q1, q2, _⟩ := rows_fl (fun _ _ _ _ h => h) h3
    obtain ⟨r1, r2, r3⟩ := rows_fl (fun _ _ _ _ h => h) h4
    obtain ⟨s1, s2, _⟩ := rows_fl (fun _ _ _ _ h => h) h5
    have pm : ∀ x ∈ D, Fl 2 Rw.cs W x.rv x.rows ∧ x.rows.length ≤ 8796093021952 ∧ x.name.size ≤ 140737488355328 := by
      intro x hx
      obtain ⟨i, hi, rfl⟩ := List.mem_iff_getElem.1 hx
      exact p3 i hi
    have xm : ∀ x ∈ X, (Lit.int .i64 x.day).wf = true := by
      intro x hx
      obtain ⟨i, hi, rfl⟩ := List.mem_iff_getElem.1 hx
      exact r3 i hi
    exact ⟨⟨s0, D, x0, x1, x2, x3, x4, x5, x6, S, X, Hh⟩, _, _, _, _, rfl, ⟨p1, fun x hx => (pm x hx).1, q1, r1, s1, p2, fun x hx => (pm x hx).2.1, q2, r2, s2, str_le w0, fun x hx => (pm x hx).2.2, xm⟩⟩
end
set_option maxRecDepth 100000 in
theorem tt_arg {H : Type} {enc : TypeId × Value → H} {W : World} {base b0 : Nat} {held : Bool} {v : Value} {d : DataW H} {ps : List MemPlace} (h : DataW.Trod enc Tryz.prog W base (fun _ => true) held 28 v d ps) (hv : Value.okWide Tryz.prog W .any b0 28 v) (hw : WOk Tryz.prog 28 d) : ∃ (t : Tt) (vD vS vX vH : Value), v = .agg #[.string t.nm, vD, .int .i64 t.w0, .int .i64 t.w1, .int .i64 t.w2, .int .i64 t.w3, .int .i64 t.w4, .int .i64 t.w5, .int .i64 t.w6, vS, vX, vH] ∧ TR W t vD vS vX vH := by
  obtain ⟨cs, rfl, _⟩ := okWide_struct Tryz.underlying28 hv
  obtain ⟨fuel, hf⟩ := h
  obtain ⟨t, vD, vS, vX, vH, e, hT⟩ := tt_open hf hw
  refine ⟨t, vD, vS, vX, vH, ?_, hT⟩
  simp only [Value.cells] at e
  rw [← e]
end Go.Proofs.YtddphepgcihdbaaGreat
