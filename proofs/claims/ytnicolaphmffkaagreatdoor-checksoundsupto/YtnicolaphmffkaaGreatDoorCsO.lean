import Derived.Test.YtnicolaphmffkaaGreatDoorMaA
import Derived.ProofKit
import Derived.OpenShut
import Derived.ChangeOld
import Derived.SizedLaws
import Derived.ChangeArms
import Derived.Deep.Slices
import Derived.Test.YtnicolaphmffkaaGreatDoorMaL
import Derived.Test.YtnicolaphmffkaaGreatDoorRmX
import Derived.Test.YtnicolaphmffkaaGreatDoorRows
import Derived.ShutString
namespace Go.Proofs.YtnicolaphmffkaaGreatDoor
open Go.ChangeShapes Go.WideShapes Go.ChangeAt Go.RowKit
set_option linter.unusedVariables false
set_option linter.unusedSimpArgs false

theorem bulk_one {H : Type} (d : DataW H) : 1 ≤ Rows.uptoBulk d := by
  cases d with
  | lit l => cases l <;> simp [Rows.uptoBulk]
  | nil => simp [Rows.uptoBulk]
  | ptr d => simp [Rows.uptoBulk]
  | slice elems spare => simp [Rows.uptoBulk]
  | agg parts => simp [Rows.uptoBulk]
  | iface t d => simp [Rows.uptoBulk]
  | map entries => simp [Rows.uptoBulk]
  | held h => simp [Rows.uptoBulk]
theorem bulk_len {H : Type} (l : List (DataW H)) : l.length ≤ Rows.uptoBulkAll l := by
  induction l with
  | nil => simp
  | cons x r ih => have := bulk_one x; simp only [Rows.uptoBulkAll, List.length_cons]; omega
theorem bulk_mem {H : Type} : ∀ {l : List (DataW H)} {d : DataW H}, d ∈ l → Rows.uptoBulk d ≤ Rows.uptoBulkAll l
  | d0 :: l, d, h => by
    simp only [Rows.uptoBulkAll]
    rcases List.mem_cons.1 h with rfl | h
    · omega
    · have := bulk_mem h; omega
  | [], _, h => by cases h
/-- All lists within are of a size that can be, and the whole is small. -/
def WOk {H : Type} (P : Program) (t : TypeId) (d : DataW H) : Prop := (∀ n ∈ d.weights P t, n ≤ reachBytes) ∧ Rows.uptoBulk d ≤ 1048576
theorem wok_of_each {H : Type} {P : Program} {ts : List TypeId} {ds : List (DataW H)} (h : (DataW.weightsEach P ts ds).all (· ≤ reachBytes) = true) {j : Nat} {t : TypeId} {d : DataW H} (ht : ts[j]? = some t) (hd : ds[j]? = some d) (hb : Rows.uptoBulk d ≤ 1048576) : WOk P t d :=
  ⟨fun n hn => by simpa using List.all_eq_true.1 h n (DataW.weights_mem_each ht hd n hn), hb⟩
theorem WOk.field {H : Type} {P : Program} {t : TypeId} {parts : List (DataW H)} {fs : Array Field} (h : WOk P t (.agg parts)) (hu : P.underlying t = some (.struct fs)) {j : Nat} {tj : TypeId} {d : DataW H} (ht : (fs.toList.map (·.type))[j]? = some tj) (hd : parts[j]? = some d) : WOk P tj d :=
  ⟨fun n hn => h.1 n (by unfold DataW.weights; rw [hu]; exact DataW.weights_mem_each ht hd n hn), by have h1 := h.2; have h2 := bulk_mem (List.mem_of_getElem? hd); simp only [Rows.uptoBulk] at h1; omega⟩
theorem weightsAll_mem {H : Type} {P : Program} {e : TypeId} : ∀ {ds : List (DataW H)} {d : DataW H}, d ∈ ds → ∀ n ∈ d.weights P e, n ∈ DataW.weightsAll P e ds
  | d0 :: ds, d, h, n, hn => by
    simp only [DataW.weightsAll, List.mem_append]
    rcases List.mem_cons.1 h with rfl | h
    · exact .inl hn
    · exact .inr (weightsAll_mem h n hn)
  | [], _, h, _, _ => by cases h
theorem cell_ltO {w : World} {b o : Nat} {v : Value} (h : w.cell? ⟨b, o, none⟩ = some v) : b < w.heap.size := cell_ltF h

/-- A part of an argument that is a list. -/
theorem rows_open {α : Type} [Inhabited α] {P : Program} {H : Type} {enc : TypeId × Value → H} {W : World} {base fuel : Nat} {held : Bool} {vs : List Value} {x : DataW H × List MemPlace} {t e : TypeId} {sz mx by' : Nat} {R : (Nat → Prop) → World → List Value → α → Prop}
    (h0 : 0 < sz) (ht : P.underlying t = some (.slice e)) (hc : P.cellsOf e = sz) (hb : P.bytesOf e = by') (hmx : ∀ n, n * by' ≤ reachBytes → n ≤ mx)
    (hE : ∀ n cs' (y : DataW H × List MemPlace), DataW.trod enc P W base (fun _ => true) held n e cs' = some y → WOk P e y.1 → ∃ a : α, cs'.length = sz ∧ R (fun _ => True) W cs' a)
    (h : DataW.trod enc P W base (fun _ => true) held fuel t vs = some x) (hw : WOk P t x.1) :
    ∃ (v : Value) (L : List α), vs = [v] ∧ Rows sz mx R (fun _ => True) W v L ∧ L.length ≤ 1048576 := by
  rcases Go.Deep.open_slice ht h with ⟨hcs, _⟩ | ⟨ad, len, cap, m, n, D, Pl, hcs, _, hle, hm, hmm, hx, hel⟩
  · exact ⟨_, [], hcs, .inl ⟨rfl, rfl⟩, Nat.zero_le _⟩
  · simp only [if_true] at hmm
    subst hmm
    rw [hc] at hel
    subst hx
    have hlen : len ≤ mx := by
      refine hmx len ?_
      have := hw.1 ((((List.range len).map D).length + ((List.range (m - len)).map fun j => D (len + j)).length) * by') (by simp [DataW.weights, ht, hb])
      simp at this
      exact Nat.le_trans (Nat.mul_le_mul_right _ (by omega)) this
    have each : ∀ i, i < len → ∃ q : α × List Value, q.2.length = sz ∧ R (fun _ => True) W q.2 q.1 ∧ W.cells? base (ad.add (i * sz)) sz = some q.2 := by
      intro i hi
      obtain ⟨cs', h1, h2⟩ := hel i (by omega)
      have hmem : D i ∈ (List.range len).map D := List.mem_map.2 ⟨i, by simpa using hi, rfl⟩
      obtain ⟨a, h3, h4⟩ := hE _ _ _ h2 ⟨fun n hn => hw.1 n (by
        unfold DataW.weights; rw [ht]
        refine List.mem_cons_of_mem _ (List.mem_append_left _ (weightsAll_mem (d := D i) hmem n hn))), by have h5 := hw.2; have h6 := bulk_mem hmem; simp only [Rows.uptoBulk] at h5; show Rows.uptoBulk (D i) ≤ 1048576; omega⟩
      exact ⟨(a, cs'), h3, h4, h1⟩
    obtain ⟨f, hfn⟩ := Go.Deep.choose_lt (α := α × List Value) (n := len) (p := fun i q => q.2.length = sz ∧ R (fun _ => True) W q.2 q.1 ∧ W.cells? base (ad.add (i * sz)) sz = some q.2) each
    refine ⟨_, (List.range len).map (fun i => (f i).1), hcs, .inr ⟨ad, m, by simp, by simpa using hle, by simpa using hlen, ?_⟩, by
      have h5 := hw.2
      have h6 := bulk_len ((List.range len).map D)
      simp only [Rows.uptoBulk] at h5
      simp at h6 ⊢
      omega⟩
    by_cases hz : len = 0
    · left; subst hz; rfl
    · right
      have hcc : ∀ i, i < len → ∀ j, j < sz → W.cell? ((ad.add (i * sz)).add j) = (f i).2[j]? := fun i hi => (World.cells?_some (hfn i hi).2.2).2.2
      obtain ⟨b, off, spot⟩ := ad
      have h00 := hcc 0 (by omega) 0 h0
      rw [List.getElem?_eq_getElem (by rw [(hfn 0 (by omega)).1]; exact h0)] at h00
      have h01 : W.cell? ⟨b, off, spot⟩ = some ((f 0).2[0]'(by rw [(hfn 0 (by omega)).1]; exact h0)) := by simpa [Addr.add] using h00
      have hspot : spot = none := by simpa using World.cell?_spot h01
      subst hspot
      refine ⟨rfl, trivial, cell_ltO h01, fun i hi => ?_⟩
      have hi' : i < len := by simpa using hi
      refine ⟨(f i).2, (hfn i hi').1, by rw [List.getElem_map, List.getElem_range]; exact (hfn i hi').2.1, fun j u hu => ?_⟩
      have hj : j < sz := by have := (List.getElem?_eq_some_iff.1 hu).1; rw [(hfn i hi').1] at this; exact this
      have := hcc i hi' j hj
      rw [Go.WideShapes.add_plain, Go.WideShapes.add_plain] at this
      rw [this]; exact hu
end Go.Proofs.YtnicolaphmffkaaGreatDoor
namespace Go.Proofs.YtnicolaphmffkaaGreatDoor
open Go.ChangeShapes Go.WideShapes Go.ChangeAt Go.RowKit
set_option linter.unusedVariables false
set_option linter.unusedSimpArgs false

theorem k3 : Tryz.prog.cellsOf 3 = 1 := by kernel_rfl
theorem k4 : Tryz.prog.cellsOf 4 = 1 := by kernel_rfl
theorem k9 : Tryz.prog.cellsOf 9 = 1 := by kernel_rfl
theorem k21 : Tryz.prog.cellsOf 21 = 1 := by kernel_rfl
theorem k22 : Tryz.prog.cellsOf 22 = 1 := by kernel_rfl
theorem k23 : Tryz.prog.cellsOf 23 = 1 := by kernel_rfl
theorem k25 : Tryz.prog.cellsOf 25 = 2 := by kernel_rfl
theorem k26 : Tryz.prog.cellsOf 26 = 1 := by kernel_rfl
theorem k27 : Tryz.prog.cellsOf 27 = 1 := by kernel_rfl
theorem k28 : Tryz.prog.cellsOf 28 = 1 := by kernel_rfl
theorem k29 : Tryz.prog.cellsOf 29 = 1 := by kernel_rfl
theorem k31 : Tryz.prog.cellsOf 31 = 9 := by kernel_rfl
theorem k42 : Tryz.prog.cellsOf 98 = 4 := by kernel_rfl
theorem k45 : Tryz.prog.cellsOf 77 = 1 := by kernel_rfl
theorem k46 : Tryz.prog.cellsOf 78 = 1 := by kernel_rfl
theorem k47 : Tryz.prog.cellsOf 79 = 1 := by kernel_rfl
theorem k49 : Tryz.prog.cellsOf 81 = 7 := by kernel_rfl
theorem k50 : Tryz.prog.cellsOf 32 = 1 := by kernel_rfl
theorem k52 : Tryz.prog.cellsOf 84 = 2 := by kernel_rfl
theorem k57 : Tryz.prog.cellsOf 90 = 5 := by kernel_rfl
theorem k59 : Tryz.prog.cellsOf 93 = 4 := by kernel_rfl
theorem k62 : Tryz.prog.cellsOf 76 = 2 := by kernel_rfl
theorem k78 : Tryz.prog.cellsOf 86 = 2 := by kernel_rfl
theorem k96 : Tryz.prog.cellsOf 133 = 6 := by kernel_rfl
theorem k107 : Tryz.prog.cellsOf 88 = 5 := by kernel_rfl
theorem y4 : Tryz.prog.bytesOf 4 = 1 := by kernel_rfl
theorem y9 : Tryz.prog.bytesOf 9 = 16 := by kernel_rfl
theorem y42 : Tryz.prog.bytesOf 98 = 40 := by kernel_rfl
theorem y49 : Tryz.prog.bytesOf 81 = 128 := by kernel_rfl
theorem y52 : Tryz.prog.bytesOf 84 = 32 := by kernel_rfl
theorem y57 : Tryz.prog.bytesOf 90 = 48 := by kernel_rfl
theorem y59 : Tryz.prog.bytesOf 93 = 32 := by kernel_rfl
theorem y62 : Tryz.prog.bytesOf 76 = 24 := by kernel_rfl
theorem y96 : Tryz.prog.bytesOf 133 = 72 := by kernel_rfl
theorem y107 : Tryz.prog.bytesOf 88 = 48 := by kernel_rfl
theorem sm_of {H : Type} {s : ByteArray} (h0 : WOk Tryz.prog 9 (.lit (.string s.data.toList) : DataW H)) : Sm s := by
  have h := h0.1
  have h1 := h s.data.toList.length (by simp [DataW.weights])
  have h2 := reachBytes_lt
  have e1 : s.size = s.data.size := rfl
  have e2 : s.data.toList.length = s.data.size := Array.length_toList
  have e3 : (2 : Nat) ^ 47 = 140737488355328 := by decide
  unfold Sm
  omega
theorem ok32 {n : Int} (h : (Lit.int .i32 n).wf = true) : vOk n := by
  simp [Lit.wf, IntKind.min, IntKind.max, IntKind.bits, IntKind.signed] at h
  unfold vOk
  omega
theorem ok64 {n : Int} (h : (Lit.int .u64 n).wf = true) : 0 ≤ n ∧ n < 18446744073709551616 := by
  simp [Lit.wf, IntKind.min, IntKind.max, IntKind.bits, IntKind.signed] at h
  omega
theorem rows_impW {α : Type} {sz mx : Nat} {R R2 : (Nat → Prop) → World → List Value → α → Prop} {Q : α → Prop} {S : Nat → Prop} {w : World} {v : Value} {L : List α} (hR : ∀ cs x, R S w cs x → R2 S w cs x ∧ Q x) (h : Rows sz mx R S w v L) : Rows sz mx R2 S w v L ∧ ∀ x ∈ L, Q x := by
  rcases h with ⟨h1, h2⟩ | ⟨ad, cap, rfl, hc, hm', h | ⟨hs, hS, hg, hx⟩⟩
  · exact ⟨.inl ⟨h1, h2⟩, fun x hx => by rw [h2] at hx; cases hx⟩
  · exact ⟨.inr ⟨ad, cap, rfl, hc, hm', .inl h⟩, fun x hx => by rw [h] at hx; cases hx⟩
  · refine ⟨.inr ⟨ad, cap, rfl, hc, hm', .inr ⟨hs, hS, hg, fun i hi => ?_⟩⟩, fun x hx' => ?_⟩
    · obtain ⟨cs, a, b, c⟩ := hx i hi
      exact ⟨cs, a, (hR _ _ b).1, c⟩
    · obtain ⟨i, hi, rfl⟩ := List.getElem_of_mem hx'
      obtain ⟨cs, a, b, c⟩ := hx i hi
      exact (hR _ _ b).2
theorem fl_rowsW {α : Type} {sz mx : Nat} {cs : α → List Value} {S : Nat → Prop} {w : World} {v : Value} {L : List α} (h : Rows sz mx (fun _ _ c x => c = cs x) S w v L) : Fl sz cs w v L ∧ L.length ≤ mx := by
  refine ⟨?_, Rows.le h⟩
  rcases h with ⟨h1, h2⟩ | ⟨ad, cap, rfl, hc, hm', h | ⟨hs, hS, hg, hx⟩⟩
  · exact .inl ⟨h1, h2⟩
  · exact .inr ⟨ad, cap, rfl, hc, .inl h⟩
  · refine .inr ⟨ad, cap, rfl, hc, .inr ⟨hs, hg, fun i hi j u hu => ?_⟩⟩
    obtain ⟨c, _, b, d⟩ := hx i hi
    exact d j u (by rw [b]; exact hu)
def GpR (S : Nat → Prop) (w : World) (c : List Value) (x : Gp) : Prop := c = x.cs
def CfR (S : Nat → Prop) (w : World) (c : List Value) (x : Cf) : Prop := c = x.cs
def DtR (S : Nat → Prop) (w : World) (c : List Value) (x : Dt) : Prop := c = x.cs
def VrR (S : Nat → Prop) (w : World) (c : List Value) (x : Vr) : Prop := c = x.cs
def txR (S : Nat → Prop) (w : World) (c : List Value) (x : ByteArray) : Prop := c = txC x
section
variable {H : Type} {enc : TypeId × Value → H} {W : World} {base n : Nat} {held : Bool} {cs : List Value} {y : DataW H × List MemPlace}
set_option maxRecDepth 100000 in
theorem pos_open {a b : Value} (h : DataW.trod enc Tryz.prog W base (fun _ => true) held n 86 [a, b] = some y) : ∃ l c, a = .int .i64 l ∧ b = .int .i64 c := by
  obtain ⟨zs, k, _, _, _, hlen, hf⟩ := DataW.trod_struct Tryz.underlying86 h
  match zs, hlen with
  | [z0, z1], _ =>
    have g0 : DataW.trod enc Tryz.prog W base (fun _ => true) held k 3 [a] = some z0 := by simpa [k3] using hf 0 _ rfl
    have g1 : DataW.trod enc Tryz.prog W base (fun _ => true) held k 3 [b] = some z1 := by simpa [k3] using hf 1 _ rfl
    obtain ⟨n0, e0, _⟩ := DataW.trod_int Tryz.underlying3 g0
    obtain ⟨n1, e1, _⟩ := DataW.trod_int Tryz.underlying3 g1
    simp at e0 e1
    exact ⟨n0, n1, e0, e1⟩
set_option maxRecDepth 100000 in
theorem node_openS (h : DataW.trod enc Tryz.prog W base (fun _ => true) held n 88 cs = some y) (hw : WOk Tryz.prog 88 y.1) : ∃ a : Nd, cs.length = 5 ∧ (NdR (fun _ => True) W cs a ∧ vOk a.val) := by
  obtain ⟨xs, k, _, hy, hl, hlen, hf⟩ := DataW.trod_struct Tryz.underlying88 h
  subst hy
  rw [k107] at hl
  match cs, hl, xs, hlen with
  | [a0, a1, a2, a3, a4], _, [y0, y1, y2, y3], _ =>
    have f0 : DataW.trod enc Tryz.prog W base (fun _ => true) held k 3 [a0] = some y0 := by simpa [k3] using hf 0 _ rfl
    have f1 : DataW.trod enc Tryz.prog W base (fun _ => true) held k 21 [a1] = some y1 := by simpa [k21] using hf 1 _ rfl
    have f2 : DataW.trod enc Tryz.prog W base (fun _ => true) held k 9 [a2] = some y2 := by simpa [k9] using hf 2 _ rfl
    have f3 : DataW.trod enc Tryz.prog W base (fun _ => true) held k 86 [a3, a4] = some y3 := by simpa [k78] using hf 3 _ rfl
    obtain ⟨n0, e0, _⟩ := DataW.trod_int Tryz.underlying3 f0
    obtain ⟨n1, e1, _, w1⟩ := DataW.trod_int Tryz.underlying21 f1
    obtain ⟨s2, e2, d2, _⟩ := DataW.trod_string Tryz.underlying9 f2
    have w2 := hw.field Tryz.underlying88 (j := 2) (d := y2.1) rfl rfl
    rw [d2] at w2
    obtain ⟨l3, c3, rfl, rfl⟩ := pos_open f3
    simp at e0 e1 e2
    subst e0 e1 e2
    exact ⟨⟨n0, n1, s2, l3, c3⟩, rfl, rfl, ok32 w1⟩
theorem nodes_rowsS (h : DataW.trod enc Tryz.prog W base (fun _ => true) held n 32 cs = some y) (hw : WOk Tryz.prog 32 y.1) : ∃ v L, cs = [v] ∧ Rows 5 2932031007317 NdR (fun _ => True) W v L ∧ (∀ x ∈ L, vOk x.val) ∧ L.length ≤ 1048576 := by
  haveI := (⟨⟨0, 0, ⟨#[]⟩, 0, 0⟩⟩ : Inhabited Nd)
  obtain ⟨v, L, e, r, rl⟩ := rows_open (mx := 2932031007317) (R := fun S w cs x => NdR S w cs x ∧ (vOk x.val)) (sz := 5) (by decide) Tryz.underlying32 k107 y107 (fun n hn => by unfold reachBytes at hn; omega) (fun _ _ _ h w => node_openS h w) h hw
  obtain ⟨r1, r2⟩ := rows_impW (R2 := NdR) (fun _ _ h => h) r
  exact ⟨v, L, e, r1, r2, rl⟩
set_option maxRecDepth 100000 in
theorem stmt_openS (h : DataW.trod enc Tryz.prog W base (fun _ => true) held n 133 cs = some y) (hw : WOk Tryz.prog 133 y.1) : ∃ a : St, cs.length = 6 ∧ (StR (fun _ => True) W cs a ∧ (∀ y ∈ a.expr, vOk y.val) ∧ a.expr.length ≤ 1048576) := by
  obtain ⟨xs, k, _, hy, hl, hlen, hf⟩ := DataW.trod_struct Tryz.underlying133 h
  subst hy
  rw [k96] at hl
  match cs, hl, xs, hlen with
  | [a0, a1, a2, a3, a4, a5], _, [y0, y1, y2, y3, y4], _ =>
    have f0 : DataW.trod enc Tryz.prog W base (fun _ => true) held k 3 [a0] = some y0 := by simpa [k3] using hf 0 _ rfl
    have f1 : DataW.trod enc Tryz.prog W base (fun _ => true) held k 9 [a1] = some y1 := by simpa [k9] using hf 1 _ rfl
    have f2 : DataW.trod enc Tryz.prog W base (fun _ => true) held k 3 [a2] = some y2 := by simpa [k3] using hf 2 _ rfl
    have f3 : DataW.trod enc Tryz.prog W base (fun _ => true) held k 32 [a3] = some y3 := by simpa [k50] using hf 3 _ rfl
    have f4 : DataW.trod enc Tryz.prog W base (fun _ => true) held k 86 [a4, a5] = some y4 := by simpa [k78] using hf 4 _ rfl
    obtain ⟨n0, e0, _⟩ := DataW.trod_int Tryz.underlying3 f0
    obtain ⟨s1, e1, d1, _⟩ := DataW.trod_string Tryz.underlying9 f1
    have w1 := hw.field Tryz.underlying133 (j := 1) (d := y1.1) rfl rfl
    rw [d1] at w1
    obtain ⟨n2, e2, _⟩ := DataW.trod_int Tryz.underlying3 f2
    obtain ⟨v3, L3, e3, h3, m3, l3'⟩ := nodes_rowsS f3 (hw.field Tryz.underlying133 (j := 3) rfl rfl)
    obtain ⟨l4, c4, rfl, rfl⟩ := pos_open f4
    simp at e0 e1 e2 e3
    subst e0 e1 e2 e3
    exact ⟨⟨n0, s1, n2, L3, l4, c4⟩, rfl, ⟨_, rfl, h3⟩, m3, l3'⟩
theorem stmts_rowsS (h : DataW.trod enc Tryz.prog W base (fun _ => true) held n 78 cs = some y) (hw : WOk Tryz.prog 78 y.1) : ∃ v L, cs = [v] ∧ Rows 6 1954687338211 StR (fun _ => True) W v L ∧ (∀ x ∈ L, (∀ y ∈ x.expr, vOk y.val) ∧ x.expr.length ≤ 1048576) ∧ L.length ≤ 1048576 := by
  haveI := (⟨⟨0, ⟨#[]⟩, 0, [], 0, 0⟩⟩ : Inhabited St)
  obtain ⟨v, L, e, r, rl⟩ := rows_open (mx := 1954687338211) (R := fun S w cs x => StR S w cs x ∧ ((∀ y ∈ x.expr, vOk y.val) ∧ x.expr.length ≤ 1048576)) (sz := 6) (by decide) Tryz.underlying78 k96 y96 (fun n hn => by unfold reachBytes at hn; omega) (fun _ _ _ h w => stmt_openS h w) h hw
  obtain ⟨r1, r2⟩ := rows_impW (R2 := StR) (fun _ _ h => h) r
  exact ⟨v, L, e, r1, r2, rl⟩
set_option maxRecDepth 100000 in
theorem next_openS (h : DataW.trod enc Tryz.prog W base (fun _ => true) held n 84 cs = some y) (hw : WOk Tryz.prog 84 y.1) : ∃ a : Tn, cs.length = 2 ∧ (TnR (fun _ => True) W cs a ∧ (∀ y ∈ a.wh, vOk y.val) ∧ a.wh.length ≤ 1048576) := by
  obtain ⟨xs, k, _, hy, hl, hlen, hf⟩ := DataW.trod_struct Tryz.underlying84 h
  subst hy
  rw [k52] at hl
  match cs, hl, xs, hlen with
  | [a0, a1], _, [y0, y1], _ =>
    have f0 : DataW.trod enc Tryz.prog W base (fun _ => true) held k 3 [a0] = some y0 := by simpa [k3] using hf 0 _ rfl
    have f1 : DataW.trod enc Tryz.prog W base (fun _ => true) held k 32 [a1] = some y1 := by simpa [k50] using hf 1 _ rfl
    obtain ⟨n0, e0, _⟩ := DataW.trod_int Tryz.underlying3 f0
    obtain ⟨v1, L1, e1, h1, m1, l1'⟩ := nodes_rowsS f1 (hw.field Tryz.underlying84 (j := 1) rfl rfl)
    simp at e0 e1
    subst e0 e1
    exact ⟨⟨n0, L1⟩, rfl, ⟨_, rfl, h1⟩, m1, l1'⟩
theorem nexts_rowsS (h : DataW.trod enc Tryz.prog W base (fun _ => true) held n 79 cs = some y) (hw : WOk Tryz.prog 79 y.1) : ∃ v L, cs = [v] ∧ Rows 2 4398046511000 TnR (fun _ => True) W v L ∧ (∀ x ∈ L, (∀ y ∈ x.wh, vOk y.val) ∧ x.wh.length ≤ 1048576) ∧ L.length ≤ 1048576 := by
  haveI := (⟨⟨0, []⟩⟩ : Inhabited Tn)
  obtain ⟨v, L, e, r, rl⟩ := rows_open (mx := 4398046511000) (R := fun S w cs x => TnR S w cs x ∧ ((∀ y ∈ x.wh, vOk y.val) ∧ x.wh.length ≤ 1048576)) (sz := 2) (by decide) Tryz.underlying79 k52 y52 (fun n hn => by unfold reachBytes at hn; omega) (fun _ _ _ h w => next_openS h w) h hw
  obtain ⟨r1, r2⟩ := rows_impW (R2 := TnR) (fun _ _ h => h) r
  exact ⟨v, L, e, r1, r2, rl⟩
set_option maxRecDepth 100000 in
theorem stage_openS (h : DataW.trod enc Tryz.prog W base (fun _ => true) held n 81 cs = some y) (hw : WOk Tryz.prog 81 y.1) : ∃ a : Ts, cs.length = 7 ∧ (TsR (fun _ => True) W cs a ∧ (Sm a.name ∧ a.ok ∧ 0 ≤ a.green ∧ a.green < 18446744073709551616 ∧ SzT a)) := by
  obtain ⟨xs, k, _, hy, hl, hlen, hf⟩ := DataW.trod_struct Tryz.underlying81 h
  subst hy
  rw [k49] at hl
  match cs, hl, xs, hlen with
  | [a0, a1, a2, a3, a4, a5, a6], _, [y0, y1, y2, y3, y4, y5, y6], _ =>
    have f0 : DataW.trod enc Tryz.prog W base (fun _ => true) held k 9 [a0] = some y0 := by simpa [k9] using hf 0 _ rfl
    have f1 : DataW.trod enc Tryz.prog W base (fun _ => true) held k 3 [a1] = some y1 := by simpa [k3] using hf 1 _ rfl
    have f2 : DataW.trod enc Tryz.prog W base (fun _ => true) held k 77 [a2] = some y2 := by simpa [k45] using hf 2 _ rfl
    have f3 : DataW.trod enc Tryz.prog W base (fun _ => true) held k 78 [a3] = some y3 := by simpa [k46] using hf 3 _ rfl
    have f4 : DataW.trod enc Tryz.prog W base (fun _ => true) held k 78 [a4] = some y4 := by simpa [k46] using hf 4 _ rfl
    have f5 : DataW.trod enc Tryz.prog W base (fun _ => true) held k 78 [a5] = some y5 := by simpa [k46] using hf 5 _ rfl
    have f6 : DataW.trod enc Tryz.prog W base (fun _ => true) held k 79 [a6] = some y6 := by simpa [k47] using hf 6 _ rfl
    obtain ⟨s0, e0, d0, _⟩ := DataW.trod_string Tryz.underlying9 f0
    have w0 := hw.field Tryz.underlying81 (j := 0) (d := y0.1) rfl rfl
    rw [d0] at w0
    obtain ⟨n1, e1, _⟩ := DataW.trod_int Tryz.underlying3 f1
    obtain ⟨n2, e2, _, w2⟩ := DataW.trod_int Tryz.underlying77 f2
    obtain ⟨v3, L3, e3, h3, m3, z3⟩ := stmts_rowsS f3 (hw.field Tryz.underlying81 (j := 3) rfl rfl)
    obtain ⟨v4, L4, e4, h4, m4, z4⟩ := stmts_rowsS f4 (hw.field Tryz.underlying81 (j := 4) rfl rfl)
    obtain ⟨v5, L5, e5, h5, m5, z5⟩ := stmts_rowsS f5 (hw.field Tryz.underlying81 (j := 5) rfl rfl)
    obtain ⟨v6, L6, e6, h6, m6, z6⟩ := nexts_rowsS f6 (hw.field Tryz.underlying81 (j := 6) rfl rfl)
    simp at e0 e1 e2 e3 e4 e5 e6
    subst e0 e1 e2 e3 e4 e5 e6
    exact ⟨⟨s0, n1, n2, L3, L4, L5, L6⟩, rfl, ⟨_, _, _, _, rfl, h3, h4, h5, h6⟩, sm_of w0, ⟨fun s hs => (m3 s hs).1, fun s hs => (m4 s hs).1, fun s hs => (m5 s hs).1, fun s hs => (m6 s hs).1⟩, (ok64 w2).1, (ok64 w2).2, z3, z4, z5, z6, fun s hs => (m3 s hs).2, fun s hs => (m4 s hs).2, fun s hs => (m5 s hs).2, fun s hs => (m6 s hs).2⟩
theorem stages_rowsS (h : DataW.trod enc Tryz.prog W base (fun _ => true) held n 29 cs = some y) (hw : WOk Tryz.prog 29 y.1) : ∃ v L, cs = [v] ∧ Rows 7 1099511627744 TsR (fun _ => True) W v L ∧ (∀ x ∈ L, Sm x.name ∧ x.ok ∧ 0 ≤ x.green ∧ x.green < 18446744073709551616 ∧ SzT x) ∧ L.length ≤ 1048576 := by
  haveI := (⟨⟨⟨#[]⟩, 0, 0, [], [], [], []⟩⟩ : Inhabited Ts)
  obtain ⟨v, L, e, r, rl⟩ := rows_open (mx := 1099511627744) (R := fun S w cs x => TsR S w cs x ∧ (Sm x.name ∧ x.ok ∧ 0 ≤ x.green ∧ x.green < 18446744073709551616 ∧ SzT x)) (sz := 7) (by decide) Tryz.underlying29 k49 y49 (fun n hn => by unfold reachBytes at hn; omega) (fun _ _ _ h w => stage_openS h w) h hw
  obtain ⟨r1, r2⟩ := rows_impW (R2 := TsR) (fun _ _ h => h) r
  exact ⟨v, L, e, r1, r2, rl⟩
set_option maxRecDepth 100000 in
theorem group_openS (h : DataW.trod enc Tryz.prog W base (fun _ => true) held n 90 cs = some y) (hw : WOk Tryz.prog 90 y.1) : ∃ a : Gp, cs.length = 5 ∧ (GpR (fun _ => True) W cs a ∧ Sm a.name) := by
  obtain ⟨xs, k, _, hy, hl, hlen, hf⟩ := DataW.trod_struct Tryz.underlying90 h
  subst hy
  rw [k57] at hl
  match cs, hl, xs, hlen with
  | [a0, a1, a2, a3, a4], _, [y0, y1, y2, y3, y4], _ =>
    have f0 : DataW.trod enc Tryz.prog W base (fun _ => true) held k 9 [a0] = some y0 := by simpa [k9] using hf 0 _ rfl
    have f1 : DataW.trod enc Tryz.prog W base (fun _ => true) held k 3 [a1] = some y1 := by simpa [k3] using hf 1 _ rfl
    have f2 : DataW.trod enc Tryz.prog W base (fun _ => true) held k 3 [a2] = some y2 := by simpa [k3] using hf 2 _ rfl
    have f3 : DataW.trod enc Tryz.prog W base (fun _ => true) held k 3 [a3] = some y3 := by simpa [k3] using hf 3 _ rfl
    have f4 : DataW.trod enc Tryz.prog W base (fun _ => true) held k 3 [a4] = some y4 := by simpa [k3] using hf 4 _ rfl
    obtain ⟨s0, e0, d0, _⟩ := DataW.trod_string Tryz.underlying9 f0
    have w0 := hw.field Tryz.underlying90 (j := 0) (d := y0.1) rfl rfl
    rw [d0] at w0
    obtain ⟨n1, e1, _⟩ := DataW.trod_int Tryz.underlying3 f1
    obtain ⟨n2, e2, _⟩ := DataW.trod_int Tryz.underlying3 f2
    obtain ⟨n3, e3, _⟩ := DataW.trod_int Tryz.underlying3 f3
    obtain ⟨n4, e4, _⟩ := DataW.trod_int Tryz.underlying3 f4
    simp at e0 e1 e2 e3 e4
    subst e0 e1 e2 e3 e4
    exact ⟨⟨s0, n1, n2, n3, n4⟩, rfl, rfl, sm_of w0⟩
theorem groups_rowsS (h : DataW.trod enc Tryz.prog W base (fun _ => true) held n 22 cs = some y) (hw : WOk Tryz.prog 22 y.1) : ∃ v L, cs = [v] ∧ Rows 5 2932031007317 GpR (fun _ => True) W v L ∧ (∀ x ∈ L, Sm x.name) ∧ L.length ≤ 1048576 := by
  haveI := (⟨⟨⟨#[]⟩, 0, 0, 0, 0⟩⟩ : Inhabited Gp)
  obtain ⟨v, L, e, r, rl⟩ := rows_open (mx := 2932031007317) (R := fun S w cs x => GpR S w cs x ∧ (Sm x.name)) (sz := 5) (by decide) Tryz.underlying22 k57 y57 (fun n hn => by unfold reachBytes at hn; omega) (fun _ _ _ h w => group_openS h w) h hw
  obtain ⟨r1, r2⟩ := rows_impW (R2 := GpR) (fun _ _ h => h) r
  exact ⟨v, L, e, r1, r2, rl⟩
set_option maxRecDepth 100000 in
theorem conf_openS (h : DataW.trod enc Tryz.prog W base (fun _ => true) held n 93 cs = some y) (hw : WOk Tryz.prog 93 y.1) : ∃ a : Cf, cs.length = 4 ∧ (CfR (fun _ => True) W cs a ∧ True) := by
  obtain ⟨xs, k, _, hy, hl, hlen, hf⟩ := DataW.trod_struct Tryz.underlying93 h
  subst hy
  rw [k59] at hl
  match cs, hl, xs, hlen with
  | [a0, a1, a2, a3], _, [y0, y1, y2, y3], _ =>
    have f0 : DataW.trod enc Tryz.prog W base (fun _ => true) held k 3 [a0] = some y0 := by simpa [k3] using hf 0 _ rfl
    have f1 : DataW.trod enc Tryz.prog W base (fun _ => true) held k 3 [a1] = some y1 := by simpa [k3] using hf 1 _ rfl
    have f2 : DataW.trod enc Tryz.prog W base (fun _ => true) held k 3 [a2] = some y2 := by simpa [k3] using hf 2 _ rfl
    have f3 : DataW.trod enc Tryz.prog W base (fun _ => true) held k 3 [a3] = some y3 := by simpa [k3] using hf 3 _ rfl
    obtain ⟨n0, e0, _⟩ := DataW.trod_int Tryz.underlying3 f0
    obtain ⟨n1, e1, _⟩ := DataW.trod_int Tryz.underlying3 f1
    obtain ⟨n2, e2, _⟩ := DataW.trod_int Tryz.underlying3 f2
    obtain ⟨n3, e3, _⟩ := DataW.trod_int Tryz.underlying3 f3
    simp at e0 e1 e2 e3
    subst e0 e1 e2 e3
    exact ⟨⟨n0, n1, n2, n3⟩, rfl, rfl, trivial⟩
theorem confs_rowsS (h : DataW.trod enc Tryz.prog W base (fun _ => true) held n 23 cs = some y) (hw : WOk Tryz.prog 23 y.1) : ∃ v L, cs = [v] ∧ Rows 4 4398046511000 CfR (fun _ => True) W v L ∧ (∀ x ∈ L, True) ∧ L.length ≤ 1048576 := by
  haveI := (⟨⟨0, 0, 0, 0⟩⟩ : Inhabited Cf)
  obtain ⟨v, L, e, r, rl⟩ := rows_open (mx := 4398046511000) (R := fun S w cs x => CfR S w cs x ∧ (True)) (sz := 4) (by decide) Tryz.underlying23 k59 y59 (fun n hn => by unfold reachBytes at hn; omega) (fun _ _ _ h w => conf_openS h w) h hw
  obtain ⟨r1, r2⟩ := rows_impW (R2 := CfR) (fun _ _ h => h) r
  exact ⟨v, L, e, r1, r2, rl⟩
set_option maxRecDepth 100000 in
theorem det_openS (h : DataW.trod enc Tryz.prog W base (fun _ => true) held n 98 cs = some y) (hw : WOk Tryz.prog 98 y.1) : ∃ a : Dt, cs.length = 4 ∧ (DtR (fun _ => True) W cs a ∧ Sm a.name) := by
  obtain ⟨xs, k, _, hy, hl, hlen, hf⟩ := DataW.trod_struct Tryz.underlying98 h
  subst hy
  rw [k42] at hl
  match cs, hl, xs, hlen with
  | [a0, a1, a2, a3], _, [y0, y1, y2, y3], _ =>
    have f0 : DataW.trod enc Tryz.prog W base (fun _ => true) held k 9 [a0] = some y0 := by simpa [k9] using hf 0 _ rfl
    have f1 : DataW.trod enc Tryz.prog W base (fun _ => true) held k 4 [a1] = some y1 := by simpa [k4] using hf 1 _ rfl
    have f2 : DataW.trod enc Tryz.prog W base (fun _ => true) held k 3 [a2] = some y2 := by simpa [k3] using hf 2 _ rfl
    have f3 : DataW.trod enc Tryz.prog W base (fun _ => true) held k 3 [a3] = some y3 := by simpa [k3] using hf 3 _ rfl
    obtain ⟨s0, e0, d0, _⟩ := DataW.trod_string Tryz.underlying9 f0
    have w0 := hw.field Tryz.underlying98 (j := 0) (d := y0.1) rfl rfl
    rw [d0] at w0
    obtain ⟨n1, e1, _⟩ := DataW.trod_bool Tryz.underlying4 f1
    obtain ⟨n2, e2, _⟩ := DataW.trod_int Tryz.underlying3 f2
    obtain ⟨n3, e3, _⟩ := DataW.trod_int Tryz.underlying3 f3
    simp at e0 e1 e2 e3
    subst e0 e1 e2 e3
    exact ⟨⟨s0, n1, n2, n3⟩, rfl, rfl, sm_of w0⟩
theorem dets_rowsS (h : DataW.trod enc Tryz.prog W base (fun _ => true) held n 26 cs = some y) (hw : WOk Tryz.prog 26 y.1) : ∃ v L, cs = [v] ∧ Rows 4 3518437208780 DtR (fun _ => True) W v L ∧ (∀ x ∈ L, Sm x.name) ∧ L.length ≤ 1048576 := by
  haveI := (⟨⟨⟨#[]⟩, false, 0, 0⟩⟩ : Inhabited Dt)
  obtain ⟨v, L, e, r, rl⟩ := rows_open (mx := 3518437208780) (R := fun S w cs x => DtR S w cs x ∧ (Sm x.name)) (sz := 4) (by decide) Tryz.underlying26 k42 y42 (fun n hn => by unfold reachBytes at hn; omega) (fun _ _ _ h w => det_openS h w) h hw
  obtain ⟨r1, r2⟩ := rows_impW (R2 := DtR) (fun _ _ h => h) r
  exact ⟨v, L, e, r1, r2, rl⟩
set_option maxRecDepth 100000 in
theorem var_openS (h : DataW.trod enc Tryz.prog W base (fun _ => true) held n 76 cs = some y) (hw : WOk Tryz.prog 76 y.1) : ∃ a : Vr, cs.length = 2 ∧ (VrR (fun _ => True) W cs a ∧ Sm a.name) := by
  obtain ⟨xs, k, _, hy, hl, hlen, hf⟩ := DataW.trod_struct Tryz.underlying76 h
  subst hy
  rw [k62] at hl
  match cs, hl, xs, hlen with
  | [a0, a1], _, [y0, y1], _ =>
    have f0 : DataW.trod enc Tryz.prog W base (fun _ => true) held k 9 [a0] = some y0 := by simpa [k9] using hf 0 _ rfl
    have f1 : DataW.trod enc Tryz.prog W base (fun _ => true) held k 21 [a1] = some y1 := by simpa [k21] using hf 1 _ rfl
    obtain ⟨s0, e0, d0, _⟩ := DataW.trod_string Tryz.underlying9 f0
    have w0 := hw.field Tryz.underlying76 (j := 0) (d := y0.1) rfl rfl
    rw [d0] at w0
    obtain ⟨n1, e1, _⟩ := DataW.trod_int Tryz.underlying21 f1
    simp at e0 e1
    subst e0 e1
    exact ⟨⟨s0, n1⟩, rfl, rfl, sm_of w0⟩
theorem vars_rowsS (h : DataW.trod enc Tryz.prog W base (fun _ => true) held n 28 cs = some y) (hw : WOk Tryz.prog 28 y.1) : ∃ v L, cs = [v] ∧ Rows 2 5864062014700 VrR (fun _ => True) W v L ∧ (∀ x ∈ L, Sm x.name) ∧ L.length ≤ 1048576 := by
  haveI := (⟨⟨⟨#[]⟩, 0⟩⟩ : Inhabited Vr)
  obtain ⟨v, L, e, r, rl⟩ := rows_open (mx := 5864062014700) (R := fun S w cs x => VrR S w cs x ∧ (Sm x.name)) (sz := 2) (by decide) Tryz.underlying28 k62 y62 (fun n hn => by unfold reachBytes at hn; omega) (fun _ _ _ h w => var_openS h w) h hw
  obtain ⟨r1, r2⟩ := rows_impW (R2 := VrR) (fun _ _ h => h) r
  exact ⟨v, L, e, r1, r2, rl⟩
theorem text_openS (h : DataW.trod enc Tryz.prog W base (fun _ => true) held n 9 cs = some y) (hw : WOk Tryz.prog 9 y.1) : ∃ a : ByteArray, cs.length = 1 ∧ (txR (fun _ => True) W cs a ∧ Sm a) := by
  obtain ⟨s2, e2, d2, _⟩ := DataW.trod_string Tryz.underlying9 h
  rw [d2] at hw
  exact ⟨s2, by rw [e2]; rfl, e2, sm_of hw⟩
theorem texts_rowsS (h : DataW.trod enc Tryz.prog W base (fun _ => true) held n 27 cs = some y) (hw : WOk Tryz.prog 27 y.1) : ∃ v L, cs = [v] ∧ Rows 1 8796093022100 txR (fun _ => True) W v L ∧ (∀ x ∈ L, Sm x) ∧ L.length ≤ 1048576 := by
  haveI := (⟨⟨#[]⟩⟩ : Inhabited ByteArray)
  obtain ⟨v, L, e, r, rl⟩ := rows_open (mx := 8796093022100) (R := fun S w cs x => txR S w cs x ∧ (Sm x)) (sz := 1) (by decide) Tryz.underlying27 k9 y9 (fun n hn => by unfold reachBytes at hn; omega) (fun _ _ _ h w => text_openS h w) h hw
  obtain ⟨r1, r2⟩ := rows_impW (R2 := txR) (fun _ _ h => h) r
  exact ⟨v, L, e, r1, r2, rl⟩
set_option maxRecDepth 100000 in
theorem tabs_openS (h : DataW.trod enc Tryz.prog W base (fun _ => true) held n 25 cs = some y) (hw : WOk Tryz.prog 25 y.1) : ∃ (L : List Gp) (M : List Cf) (v u : Value), cs = [v, u] ∧ Rows 5 2932031007317 GpR (fun _ => True) W v L ∧ (∀ x ∈ L, Sm x.name) ∧ Rows 4 4398046511000 CfR (fun _ => True) W u M ∧ L.length ≤ 1048576 ∧ M.length ≤ 1048576 := by
  obtain ⟨xs, k, _, hy, hl, hlen, hf⟩ := DataW.trod_struct Tryz.underlying25 h
  subst hy
  rw [k25] at hl
  match cs, hl, xs, hlen with
  | [a0, a1], _, [y0, y1], _ =>
    have f0 : DataW.trod enc Tryz.prog W base (fun _ => true) held k 22 [a0] = some y0 := by simpa [k22] using hf 0 _ rfl
    have f1 : DataW.trod enc Tryz.prog W base (fun _ => true) held k 23 [a1] = some y1 := by simpa [k23] using hf 1 _ rfl
    obtain ⟨v0, L0, e0, h0, m0, z0⟩ := groups_rowsS f0 (hw.field Tryz.underlying25 (j := 0) rfl rfl)
    obtain ⟨v1, L1, e1, h1, m1, z1⟩ := confs_rowsS f1 (hw.field Tryz.underlying25 (j := 1) rfl rfl)
    simp at e0 e1
    subst e0 e1
    exact ⟨L0, L1, _, _, rfl, h0, m0, h1, z0, z1⟩
end
theorem Rows.mx {α : Type} {sz mx mx' : Nat} {R : (Nat → Prop) → World → List Value → α → Prop} {S : Nat → Prop} {w : World} {v : Value} {L : List α} (hm : mx ≤ mx') (h : Rows sz mx R S w v L) : Rows sz mx' R S w v L := by
  rcases h with h | ⟨ad, cap, h1, h2, h3, h4⟩
  · exact .inl h
  · exact .inr ⟨ad, cap, h1, h2, Nat.le_trans h3 hm, h4⟩
set_option maxRecDepth 100000 in
/-- A typed plan handed in. -/
theorem typed_argB {H : Type} {enc : TypeId × Value → H} {W : World} {base b0 : Nat} {held : Bool} {v : Value} {d : DataW H} {ps : List MemPlace} (h : DataW.Trod enc Tryz.prog W base (fun _ => true) held 31 v d ps) (hv : Value.okWide Tryz.prog W .any b0 31 v) (hw : WOk Tryz.prog 31 d) :
    ∃ (G : List Gp) (C : List Cf) (D : List Dt) (TM CT : List ByteArray) (VR : List Vr) (SG : List Ts) (pn : ByteArray) (ga ca da ta ka va sa : Option Addr) (gc cc dc tc kc vc sc : Nat) (stt : Int), v = (.agg #[.string pn, .slice ga G.length gc, .slice ca C.length cc, .slice da D.length dc, .slice ta TM.length tc, .slice ka CT.length kc, .slice va VR.length vc, .slice sa SG.length sc, .int .i64 stt]) ∧ TPl W G C D TM CT VR SG pn ga ca da ta ka va sa gc cc dc tc kc vc sc stt ∧ (∀ s ∈ SG, 0 ≤ s.green ∧ s.green < 18446744073709551616) ∧ G.length ≤ 1048576 ∧ C.length ≤ 1048576 ∧ D.length ≤ 1048576 ∧ TM.length ≤ 1048576 ∧ CT.length ≤ 1048576 ∧ VR.length ≤ 1048576 ∧ SG.length ≤ 1048576 ∧ ∀ s ∈ SG, SzT s := by
  obtain ⟨cs, rfl, _⟩ := okWide_struct Tryz.underlying31 hv
  obtain ⟨fuel, hf0⟩ := h
  obtain ⟨xs, k, _, hy, hl, hlen, hf⟩ := DataW.trod_struct Tryz.underlying31 hf0
  injection hy with hd hp
  subst hd
  rw [k31] at hl
  simp only [Value.cells] at hl hf
  obtain ⟨cs⟩ := cs
  simp only at hl hf
  match cs, hl, xs, hlen with
  | [a0, a1, a2, a3, a4, a5, a6, a7, a8], _, [y0, y1, y2, y3, y4, y5, y6, y7], _ =>
    have f0 : DataW.trod enc Tryz.prog W base (fun _ => true) held k 9 [a0] = some y0 := by simpa [k9] using hf 0 _ rfl
    have f1 : DataW.trod enc Tryz.prog W base (fun _ => true) held k 25 [a1, a2] = some y1 := by simpa [k25] using hf 1 _ rfl
    have f2 : DataW.trod enc Tryz.prog W base (fun _ => true) held k 26 [a3] = some y2 := by simpa [k26] using hf 2 _ rfl
    have f3 : DataW.trod enc Tryz.prog W base (fun _ => true) held k 27 [a4] = some y3 := by simpa [k27] using hf 3 _ rfl
    have f4 : DataW.trod enc Tryz.prog W base (fun _ => true) held k 27 [a5] = some y4 := by simpa [k27] using hf 4 _ rfl
    have f5 : DataW.trod enc Tryz.prog W base (fun _ => true) held k 28 [a6] = some y5 := by simpa [k28] using hf 5 _ rfl
    have f6 : DataW.trod enc Tryz.prog W base (fun _ => true) held k 29 [a7] = some y6 := by simpa [k29] using hf 6 _ rfl
    have f7 : DataW.trod enc Tryz.prog W base (fun _ => true) held k 3 [a8] = some y7 := by simpa [k3] using hf 7 _ rfl
    obtain ⟨s0, e0, d0, _⟩ := DataW.trod_string Tryz.underlying9 f0
    have w0 := hw.field Tryz.underlying31 (j := 0) (d := y0.1) rfl rfl
    rw [d0] at w0
    obtain ⟨G, C, vg, vc, e1, hG, mG, hC, zG, zC⟩ := tabs_openS f1 (hw.field Tryz.underlying31 (j := 1) rfl rfl)
    obtain ⟨vd, D, e2, hD, mD, zD⟩ := dets_rowsS f2 (hw.field Tryz.underlying31 (j := 2) rfl rfl)
    obtain ⟨vt, TM, e3, hT, mT, zT⟩ := texts_rowsS f3 (hw.field Tryz.underlying31 (j := 3) rfl rfl)
    obtain ⟨vk, CT, e4, hK, mK, zK⟩ := texts_rowsS f4 (hw.field Tryz.underlying31 (j := 4) rfl rfl)
    obtain ⟨vv, VR, e5, hV, mV, zV⟩ := vars_rowsS f5 (hw.field Tryz.underlying31 (j := 5) rfl rfl)
    obtain ⟨vs, SG, e6, hS, mS, zS⟩ := stages_rowsS f6 (hw.field Tryz.underlying31 (j := 6) rfl rfl)
    obtain ⟨stt, e7, _⟩ := DataW.trod_int Tryz.underlying3 f7
    simp at e0 e1 e2 e3 e4 e5 e6 e7
    obtain ⟨rfl, rfl⟩ := e1
    subst e0 e2 e3 e4 e5 e6 e7
    obtain ⟨fG, lG⟩ := fl_rowsW (cs := Gp.cs) hG
    obtain ⟨fC, lC⟩ := fl_rowsW (cs := Cf.cs) hC
    obtain ⟨fD, lD⟩ := fl_rowsW (cs := Dt.cs) hD
    obtain ⟨fT, lT⟩ := fl_rowsW (cs := txC) hT
    obtain ⟨fK, lK⟩ := fl_rowsW (cs := txC) hK
    obtain ⟨fV, lV⟩ := fl_rowsW (cs := Vr.cs) hV
    obtain ⟨ga, gc, rfl, -⟩ := fG.any
    obtain ⟨ca, cc, rfl, -⟩ := fC.any
    obtain ⟨da, dc, rfl, -⟩ := fD.any
    obtain ⟨ta, tc, rfl, -⟩ := fT.any
    obtain ⟨ka, kc, rfl, -⟩ := fK.any
    obtain ⟨va, vc', rfl, -⟩ := fV.any
    obtain ⟨sa, sc, rfl, lS, -⟩ := Rows.any hS
    refine ⟨G, C, D, TM, CT, VR, SG, s0, ga, ca, da, ta, ka, va, sa, gc, cc, dc, tc, kc, vc', sc, stt, rfl, ⟨fG, fC, fD, fT, fK, fV, Rows.mx (by decide) hS, lG, lC, by omega, by omega, by omega, by omega, by omega, ?_, sm_of w0, fun s hs => (mS s hs).2.1⟩, fun s hs => ⟨(mS s hs).2.2.1, (mS s hs).2.2.2.1⟩, zG, zC, zD, zT, zK, zV, zS, fun s hs => (mS s hs).2.2.2.2⟩
    intro s hs
    unfold nmsL at hs
    simp only [List.mem_append, List.mem_map] at hs
    rcases hs with ((((⟨x, hx, rfl⟩ | ⟨x, hx, rfl⟩) | hx) | hx) | ⟨x, hx, rfl⟩) | ⟨x, hx, rfl⟩
    · exact mG x hx
    · exact mD x hx
    · exact mT s hx
    · exact mK s hx
    · exact mV x hx
    · exact (mS x hx).1
set_option maxRecDepth 100000 in
/-- An expression handed in. -/
theorem nodes_arg {H : Type} {enc : TypeId × Value → H} {W : World} {base b0 : Nat} {held : Bool} {v : Value} {d : DataW H} {ps : List MemPlace} (h : DataW.Trod enc Tryz.prog W base (fun _ => true) held 32 v d ps) (hv : Value.okWide Tryz.prog W .any b0 32 v) (hw : WOk Tryz.prog 32 d) : ∃ (L : List Nd) (ea : Option Addr) (ec : Nat), v = .slice ea L.length ec ∧ Fl 5 Nd.cs W (.slice ea L.length ec) L ∧ L.length ≤ 1048576 ∧ ∀ x ∈ L, vOk x.val := by
  obtain ⟨a, len, cap, rfl⟩ := okWide_slice Tryz.underlying32 hv
  obtain ⟨fuel, hf⟩ := h
  obtain ⟨v, L, e, r, m, z⟩ := nodes_rowsS hf hw
  simp [Value.cells] at e
  subst e
  have f : Exs (fun _ => True) W (.slice a len cap) L := r
  obtain ⟨a', c', e', -⟩ := Rows.any f
  injection e' with e1 e2 e3
  subst e1 e2 e3
  exact ⟨L, a, cap, rfl, Exs.flat f, z, m⟩
end Go.Proofs.YtnicolaphmffkaaGreatDoor
