import Derived.ProofKit
import Derived.OpenShut
import Derived.ChangeOld
import Derived.SizedLaws
import Derived.ChangeArms
import Derived.Deep.Slices
import Derived.Test.YtjfieclmagbfbaaGreatDoorMaL
import Derived.ShutString
set_option linter.unusedSimpArgs false
set_option linter.unusedVariables false
set_option maxRecDepth 100000
set_option maxHeartbeats 8000000
namespace Go.Proofs.YtjfieclmagbfbaaGreatDoor
open Go.ChangeShapes Go.WideShapes Go.ChangeAt Go.RowKit
def WOk {H : Type} (P : Program) (t : TypeId) (d : DataW H) : Prop := ∀ n ∈ d.weights P t, n ≤ reachBytes
theorem wok_of_each {H : Type} {P : Program} {ts : List TypeId} {ds : List (DataW H)} (h : (DataW.weightsEach P ts ds).all (· ≤ reachBytes) = true) {j : Nat} {t : TypeId} {d : DataW H} (ht : ts[j]? = some t) (hd : ds[j]? = some d) : WOk P t d :=
 fun n hn => by simpa using List.all_eq_true.1 h n (DataW.weights_mem_each ht hd n hn)
theorem WOk.field {H : Type} {P : Program} {t : TypeId} {parts : List (DataW H)} {fs : Array Field} (h : WOk P t (.agg parts)) (hu : P.underlying t = some (.struct fs)) {j : Nat} {tj : TypeId} {d : DataW H} (ht : (fs.toList.map (·.type))[j]? = some tj) (hd : parts[j]? = some d) : WOk P tj d :=
 fun n hn => h n (by unfold DataW.weights; rw [hu]; exact DataW.weights_mem_each ht hd n hn)
theorem weightsAll_mem {H : Type} {P : Program} {e : TypeId} : ∀ {ds : List (DataW H)} {d : DataW H}, d ∈ ds → ∀ n ∈ d.weights P e, n ∈ DataW.weightsAll P e ds
 | d0 :: ds, d, h, n, hn => by
   simp only [DataW.weightsAll, List.mem_append]; rcases List.mem_cons.1 h with rfl | h
   ·exact .inl hn
   ·exact .inr (weightsAll_mem h n hn)
 | [], _, h, _, _ => by cases h
theorem cell_ltO {w : World} {b o : Nat} {v : Value} (h : w.cell? ⟨b, o, none⟩ = some v) : b < w.heap.size := cell_ltF h
theorem rows_open {α : Type} [Inhabited α] {P : Program} {H : Type} {enc : TypeId × Value → H} {W : World} {base fuel : Nat} {held : Bool} {vs : List Value} {x : DataW H × List MemPlace} {t e : TypeId} {sz mx by' : Nat} {R : (Nat → Prop) → World → List Value → α → Prop}
  (h0 : 0 < sz) (ht : P.underlying t = some (.slice e)) (hc : P.cellsOf e = sz) (hb : P.bytesOf e = by') (hmx : ∀ n, n * by' ≤ reachBytes → n ≤ mx)
  (hE : ∀ n cs' (y : DataW H × List MemPlace), DataW.trod enc P W base (fun _ => true) held n e cs' = some y → WOk P e y.1 → ∃ a : α, cs'.length = sz ∧ R (fun _ => True) W cs' a)
  (h : DataW.trod enc P W base (fun _ => true) held fuel t vs = some x) (hw : WOk P t x.1) :
  ∃ (v : Value) (L : List α), vs = [v] ∧ Rows sz mx R (fun _ => True) W v L := by
 rcases Go.Deep.open_slice ht h with ⟨hcs, _⟩ | ⟨ad, len, cap, m, n, D, Pl, hcs, _, hle, hm, hmm, hx, hel⟩
 ·exact ⟨_, [], hcs, .inl ⟨rfl, rfl⟩⟩
 ·simp only [if_true] at hmm
  subst hmm; rw [hc] at hel; subst hx; have hlen : len ≤ mx := by
   refine hmx len ?_; have := hw ((((List.range len).map D).length + ((List.range (m - len)).map fun j => D (len + j)).length) * by') (by simp [DataW.weights, ht, hb]); simp at this; exact Nat.le_trans (Nat.mul_le_mul_right _ (by omega)) this
  have each : ∀ i, i < len → ∃ q : α × List Value, q.2.length = sz ∧ R (fun _ => True) W q.2 q.1 ∧ W.cells? base (ad.add (i * sz)) sz = some q.2 := by
   intro i hi; obtain ⟨cs', h1, h2⟩ := hel i (by omega); obtain ⟨a, h3, h4⟩ := hE _ _ _ h2 (fun n hn => hw n (by
    unfold DataW.weights; rw [ht]; refine List.mem_cons_of_mem _ (List.mem_append_left _ (weightsAll_mem (d := D i) ?_ n hn)); exact List.mem_map.2 ⟨i, by simpa using hi, rfl⟩))
   exact ⟨(a, cs'), h3, h4, h1⟩
  obtain ⟨f, hfn⟩ := Go.Deep.choose_lt (α := α × List Value) (n := len) (p := fun i q => q.2.length = sz ∧ R (fun _ => True) W q.2 q.1 ∧ W.cells? base (ad.add (i * sz)) sz = some q.2) each; refine ⟨_, (List.range len).map (fun i => (f i).1), hcs, .inr ⟨ad, m, by simp, by simpa using hle, by simpa using hlen, ?_⟩⟩
  by_cases hz : len = 0
  ·left; subst hz; rfl
  ·right
   have hcc : ∀ i, i < len → ∀ j, j < sz → W.cell? ((ad.add (i * sz)).add j) = (f i).2[j]? := fun i hi => (World.cells?_some (hfn i hi).2.2).2.2
   obtain ⟨b, off, spot⟩ := ad; have h00 := hcc 0 (by omega) 0 h0; rw [List.getElem?_eq_getElem (by rw [(hfn 0 (by omega)).1]; exact h0)] at h00; have h01 : W.cell? ⟨b, off, spot⟩ = some ((f 0).2[0]'(by rw [(hfn 0 (by omega)).1]; exact h0)) := by simpa [Addr.add] using h00
   have hspot : spot = none := by simpa using World.cell?_spot h01
   subst hspot; refine ⟨rfl, trivial, cell_ltO h01, fun i hi => ?_⟩; have hi' : i < len := by simpa using hi
   refine ⟨(f i).2, (hfn i hi').1, by rw [List.getElem_map, List.getElem_range]; exact (hfn i hi').2.1, fun j u hu => ?_⟩; have hj : j < sz := by have := (List.getElem?_eq_some_iff.1 hu).1; rw [(hfn i hi').1] at this; exact this
   have := hcc i hi' j hj; rw [Go.WideShapes.add_plain, Go.WideShapes.add_plain] at this; rw [this]; exact hu
theorem k3 : Tryz.prog.cellsOf 3 = 1 := by kernel_rfl
theorem k4 : Tryz.prog.cellsOf 4 = 1 := by kernel_rfl
theorem k9 : Tryz.prog.cellsOf 9 = 1 := by kernel_rfl
theorem k21 : Tryz.prog.cellsOf 21 = 1 := by kernel_rfl
theorem k22 : Tryz.prog.cellsOf 22 = 1 := by kernel_rfl
theorem k23 : Tryz.prog.cellsOf 23 = 1 := by kernel_rfl
theorem k25 : Tryz.prog.cellsOf 25 = 2 := by kernel_rfl
theorem k26 : Tryz.prog.cellsOf 26 = 1 := by kernel_rfl
theorem k27 : Tryz.prog.cellsOf 27 = 1 := by kernel_rfl
theorem k28 : Tryz.prog.cellsOf 28 = 1 := by kernel_rfl
theorem k29 : Tryz.prog.cellsOf 29 = 1 := by kernel_rfl
theorem k31 : Tryz.prog.cellsOf 31 = 9 := by kernel_rfl
theorem k42 : Tryz.prog.cellsOf 89 = 4 := by kernel_rfl
theorem k45 : Tryz.prog.cellsOf 47 = 1 := by kernel_rfl
theorem k46 : Tryz.prog.cellsOf 48 = 1 := by kernel_rfl
theorem k47 : Tryz.prog.cellsOf 49 = 1 := by kernel_rfl
theorem k49 : Tryz.prog.cellsOf 51 = 7 := by kernel_rfl
theorem k50 : Tryz.prog.cellsOf 56 = 1 := by kernel_rfl
theorem k52 : Tryz.prog.cellsOf 58 = 2 := by kernel_rfl
theorem k57 : Tryz.prog.cellsOf 73 = 5 := by kernel_rfl
theorem k59 : Tryz.prog.cellsOf 75 = 4 := by kernel_rfl
theorem k62 : Tryz.prog.cellsOf 117 = 2 := by kernel_rfl
theorem k78 : Tryz.prog.cellsOf 53 = 2 := by kernel_rfl
theorem k96 : Tryz.prog.cellsOf 140 = 6 := by kernel_rfl
theorem k107 : Tryz.prog.cellsOf 55 = 5 := by kernel_rfl
theorem y4 : Tryz.prog.bytesOf 4 = 1 := by kernel_rfl
theorem y9 : Tryz.prog.bytesOf 9 = 16 := by kernel_rfl
theorem y42 : Tryz.prog.bytesOf 89 = 40 := by kernel_rfl
theorem y49 : Tryz.prog.bytesOf 51 = 128 := by kernel_rfl
theorem y52 : Tryz.prog.bytesOf 58 = 32 := by kernel_rfl
theorem y57 : Tryz.prog.bytesOf 73 = 48 := by kernel_rfl
theorem y59 : Tryz.prog.bytesOf 75 = 32 := by kernel_rfl
theorem y62 : Tryz.prog.bytesOf 117 = 24 := by kernel_rfl
theorem y96 : Tryz.prog.bytesOf 140 = 72 := by kernel_rfl
theorem y107 : Tryz.prog.bytesOf 55 = 48 := by kernel_rfl
theorem sm_of {H : Type} {s : ByteArray} (h : WOk Tryz.prog 9 (.lit (.string s.data.toList) : DataW H)) : Sm s := by
 have h1 := h s.data.toList.length (by simp [DataW.weights])
 have h2 := reachBytes_lt
 have e1 : s.size = s.data.size := rfl
 have e2 : s.data.toList.length = s.data.size := Array.length_toList
 have e3 : (2 : Nat) ^ 47 = 140737488355328 := by decide
 unfold Sm
 omega
theorem ok32 {n : Int} (h : (Lit.int .i32 n).wf = true) : vOk n := by
 simp [Lit.wf, IntKind.min, IntKind.max, IntKind.bits, IntKind.signed] at h
 unfold vOk
 omega
theorem ok64 {n : Int} (h : (Lit.int .u64 n).wf = true) : 0 ≤ n ∧ n < 18446744073709551616 := by
 simp [Lit.wf, IntKind.min, IntKind.max, IntKind.bits, IntKind.signed] at h
 omega
theorem rows_impW {α : Type} {sz mx : Nat} {R R2 : (Nat → Prop) → World → List Value → α → Prop} {Q : α → Prop} {S : Nat → Prop} {w : World} {v : Value} {L : List α} (hR : ∀ cs x, R S w cs x → R2 S w cs x ∧ Q x) (h : Rows sz mx R S w v L) : Rows sz mx R2 S w v L ∧ ∀ x ∈ L, Q x := by
 rcases h with ⟨h1, h2⟩ | ⟨ad, cap, rfl, hc, hm', h | ⟨hs, hS, hg, hx⟩⟩
 ·exact ⟨.inl ⟨h1, h2⟩, fun x hx => by rw [h2] at hx; cases hx⟩
 ·exact ⟨.inr ⟨ad, cap, rfl, hc, hm', .inl h⟩, fun x hx => by rw [h] at hx; cases hx⟩
 ·refine ⟨.inr ⟨ad, cap, rfl, hc, hm', .inr ⟨hs, hS, hg, fun i hi => ?_⟩⟩, fun x hx' => ?_⟩
  ·obtain ⟨cs, a, b, c⟩ := hx i hi
   exact ⟨cs, a, (hR _ _ b).1, c⟩
  ·obtain ⟨i, hi, rfl⟩ := List.getElem_of_mem hx'
   obtain ⟨cs, a, b, c⟩ := hx i hi; exact (hR _ _ b).2
theorem fl_rowsW {α : Type} {sz mx : Nat} {cs : α → List Value} {S : Nat → Prop} {w : World} {v : Value} {L : List α} (h : Rows sz mx (fun _ _ c x => c = cs x) S w v L) : Fl sz cs w v L ∧ L.length ≤ mx := by
 refine ⟨?_, Rows.le h⟩
 rcases h with ⟨h1, h2⟩ | ⟨ad, cap, rfl, hc, hm', h | ⟨hs, hS, hg, hx⟩⟩
 ·exact .inl ⟨h1, h2⟩
 ·exact .inr ⟨ad, cap, rfl, hc, .inl h⟩
 ·refine .inr ⟨ad, cap, rfl, hc, .inr ⟨hs, hg, fun i hi j u hu => ?_⟩⟩
  obtain ⟨c, _, b, d⟩ := hx i hi; exact d j u (by rw [b]; exact hu)
def GpR (S : Nat → Prop) (w : World) (c : List Value) (x : Gp) : Prop := c = x.cs
def CfR (S : Nat → Prop) (w : World) (c : List Value) (x : Cf) : Prop := c = x.cs
def DtR (S : Nat → Prop) (w : World) (c : List Value) (x : Dt) : Prop := c = x.cs
def VrR (S : Nat → Prop) (w : World) (c : List Value) (x : Vr) : Prop := c = x.cs
def txR (S : Nat → Prop) (w : World) (c : List Value) (x : ByteArray) : Prop := c = txC x
section
variable {H : Type} {enc : TypeId × Value → H} {W : World} {base n : Nat} {held : Bool} {cs : List Value} {y : DataW H × List MemPlace}
theorem pos_open {a b : Value} (h : DataW.trod enc Tryz.prog W base (fun _ => true) held n 53 [a, b] = some y) : ∃ l c, a = .int .i64 l ∧ b = .int .i64 c := by
 obtain ⟨zs, k, _, _, _, hlen, hf⟩ := DataW.trod_struct Tryz.underlying53 h
 match zs, hlen with
 | [z0, z1], _ =>
   have g0 : DataW.trod enc Tryz.prog W base (fun _ => true) held k 3 [a] = some z0 := by simpa [k3] using hf 0 _ rfl
   have g1 : DataW.trod enc Tryz.prog W base (fun _ => true) held k 3 [b] = some z1 := by simpa [k3] using hf 1 _ rfl
   obtain ⟨n0, e0, _⟩ := DataW.trod_int Tryz.underlying3 g0; obtain ⟨n1, e1, _⟩ := DataW.trod_int Tryz.underlying3 g1; simp at e0 e1; exact ⟨n0, n1, e0, e1⟩
theorem node_openS (h : DataW.trod enc Tryz.prog W base (fun _ => true) held n 55 cs = some y) (hw : WOk Tryz.prog 55 y.1) : ∃ a : Nd, cs.length = 5 ∧ (NdR (fun _ => True) W cs a ∧ vOk a.val) := by
 obtain ⟨xs, k, _, hy, hl, hlen, hf⟩ := DataW.trod_struct Tryz.underlying55 h
 subst hy
 rw [k107] at hl
 match cs, hl, xs, hlen with
 | [a0, a1, a2, a3, a4], _, [y0, y1, y2, y3], _ =>
   have f0 : DataW.trod enc Tryz.prog W base (fun _ => true) held k 3 [a0] = some y0 := by simpa [k3] using hf 0 _ rfl
   have f1 : DataW.trod enc Tryz.prog W base (fun _ => true) held k 21 [a1] = some y1 := by simpa [k21] using hf 1 _ rfl
   have f2 : DataW.trod enc Tryz.prog W base (fun _ => true) held k 9 [a2] = some y2 := by simpa [k9] using hf 2 _ rfl
   have f3 : DataW.trod enc Tryz.prog W base (fun _ => true) held k 53 [a3, a4] = some y3 := by simpa [k78] using hf 3 _ rfl
   obtain ⟨n0, e0, _⟩ := DataW.trod_int Tryz.underlying3 f0; obtain ⟨n1, e1, _, w1⟩ := DataW.trod_int Tryz.underlying21 f1; obtain ⟨s2, e2, d2, _⟩ := DataW.trod_string Tryz.underlying9 f2; have w2 := hw.field Tryz.underlying55 (j := 2) (d := y2.1) rfl rfl; rw [d2] at w2; obtain ⟨l3, c3, rfl, rfl⟩ := pos_open f3; simp at e0 e1 e2; subst e0 e1 e2; exact ⟨⟨n0, n1, s2, l3, c3⟩, rfl, rfl, ok32 w1⟩
theorem nodes_rowsS (h : DataW.trod enc Tryz.prog W base (fun _ => true) held n 56 cs = some y) (hw : WOk Tryz.prog 56 y.1) : ∃ v L, cs = [v] ∧ Rows 5 2932031007317 NdR (fun _ => True) W v L ∧ (∀ x ∈ L, vOk x.val) := by
 haveI := (⟨⟨0, 0, ⟨#[]⟩, 0, 0⟩⟩ : Inhabited Nd)
 obtain ⟨v, L, e, r⟩ := rows_open (mx := 2932031007317) (R := fun S w cs x => NdR S w cs x ∧ (vOk x.val)) (sz := 5) (by decide) Tryz.underlying56 k107 y107 (fun n hn => by unfold reachBytes at hn; omega) (fun _ _ _ h w => node_openS h w) h hw
 obtain ⟨r1, r2⟩ := rows_impW (R2 := NdR) (fun _ _ h => h) r
 exact ⟨v, L, e, r1, r2⟩
theorem stmt_openS (h : DataW.trod enc Tryz.prog W base (fun _ => true) held n 140 cs = some y) (hw : WOk Tryz.prog 140 y.1) : ∃ a : St, cs.length = 6 ∧ (StR (fun _ => True) W cs a ∧ ∀ y ∈ a.expr, vOk y.val) := by
 obtain ⟨xs, k, _, hy, hl, hlen, hf⟩ := DataW.trod_struct Tryz.underlying140 h
 subst hy
 rw [k96] at hl
 match cs, hl, xs, hlen with
 | [a0, a1, a2, a3, a4, a5], _, [y0, y1, y2, y3, y4], _ =>
   have f0 : DataW.trod enc Tryz.prog W base (fun _ => true) held k 3 [a0] = some y0 := by simpa [k3] using hf 0 _ rfl
   have f1 : DataW.trod enc Tryz.prog W base (fun _ => true) held k 9 [a1] = some y1 := by simpa [k9] using hf 1 _ rfl
   have f2 : DataW.trod enc Tryz.prog W base (fun _ => true) held k 3 [a2] = some y2 := by simpa [k3] using hf 2 _ rfl
   have f3 : DataW.trod enc Tryz.prog W base (fun _ => true) held k 56 [a3] = some y3 := by simpa [k50] using hf 3 _ rfl
   have f4 : DataW.trod enc Tryz.prog W base (fun _ => true) held k 53 [a4, a5] = some y4 := by simpa [k78] using hf 4 _ rfl
   obtain ⟨n0, e0, _⟩ := DataW.trod_int Tryz.underlying3 f0; obtain ⟨s1, e1, d1, _⟩ := DataW.trod_string Tryz.underlying9 f1; have w1 := hw.field Tryz.underlying140 (j := 1) (d := y1.1) rfl rfl; rw [d1] at w1; obtain ⟨n2, e2, _⟩ := DataW.trod_int Tryz.underlying3 f2; obtain ⟨v3, L3, e3, h3, m3⟩ := nodes_rowsS f3 (hw.field Tryz.underlying140 (j := 3) rfl rfl); obtain ⟨l4, c4, rfl, rfl⟩ := pos_open f4; simp at e0 e1 e2 e3; subst e0 e1 e2 e3; exact ⟨⟨n0, s1, n2, L3, l4, c4⟩, rfl, ⟨_, rfl, h3⟩, m3⟩
theorem stmts_rowsS (h : DataW.trod enc Tryz.prog W base (fun _ => true) held n 48 cs = some y) (hw : WOk Tryz.prog 48 y.1) : ∃ v L, cs = [v] ∧ Rows 6 1954687338211 StR (fun _ => True) W v L ∧ (∀ x ∈ L, ∀ y ∈ x.expr, vOk y.val) := by
 haveI := (⟨⟨0, ⟨#[]⟩, 0, [], 0, 0⟩⟩ : Inhabited St)
 obtain ⟨v, L, e, r⟩ := rows_open (mx := 1954687338211) (R := fun S w cs x => StR S w cs x ∧ (∀ y ∈ x.expr, vOk y.val)) (sz := 6) (by decide) Tryz.underlying48 k96 y96 (fun n hn => by unfold reachBytes at hn; omega) (fun _ _ _ h w => stmt_openS h w) h hw
 obtain ⟨r1, r2⟩ := rows_impW (R2 := StR) (fun _ _ h => h) r
 exact ⟨v, L, e, r1, r2⟩
theorem next_openS (h : DataW.trod enc Tryz.prog W base (fun _ => true) held n 58 cs = some y) (hw : WOk Tryz.prog 58 y.1) : ∃ a : Tn, cs.length = 2 ∧ (TnR (fun _ => True) W cs a ∧ ∀ y ∈ a.wh, vOk y.val) := by
 obtain ⟨xs, k, _, hy, hl, hlen, hf⟩ := DataW.trod_struct Tryz.underlying58 h
 subst hy
 rw [k52] at hl
 match cs, hl, xs, hlen with
 | [a0, a1], _, [y0, y1], _ =>
   have f0 : DataW.trod enc Tryz.prog W base (fun _ => true) held k 3 [a0] = some y0 := by simpa [k3] using hf 0 _ rfl
   have f1 : DataW.trod enc Tryz.prog W base (fun _ => true) held k 56 [a1] = some y1 := by simpa [k50] using hf 1 _ rfl
   obtain ⟨n0, e0, _⟩ := DataW.trod_int Tryz.underlying3 f0; obtain ⟨v1, L1, e1, h1, m1⟩ := nodes_rowsS f1 (hw.field Tryz.underlying58 (j := 1) rfl rfl); simp at e0 e1; subst e0 e1; exact ⟨⟨n0, L1⟩, rfl, ⟨_, rfl, h1⟩, m1⟩
theorem nexts_rowsS (h : DataW.trod enc Tryz.prog W base (fun _ => true) held n 49 cs = some y) (hw : WOk Tryz.prog 49 y.1) : ∃ v L, cs = [v] ∧ Rows 2 4398046511000 TnR (fun _ => True) W v L ∧ (∀ x ∈ L, ∀ y ∈ x.wh, vOk y.val) := by
 haveI := (⟨⟨0, []⟩⟩ : Inhabited Tn)
 obtain ⟨v, L, e, r⟩ := rows_open (mx := 4398046511000) (R := fun S w cs x => TnR S w cs x ∧ (∀ y ∈ x.wh, vOk y.val)) (sz := 2) (by decide) Tryz.underlying49 k52 y52 (fun n hn => by unfold reachBytes at hn; omega) (fun _ _ _ h w => next_openS h w) h hw
 obtain ⟨r1, r2⟩ := rows_impW (R2 := TnR) (fun _ _ h => h) r
 exact ⟨v, L, e, r1, r2⟩
theorem stage_openS (h : DataW.trod enc Tryz.prog W base (fun _ => true) held n 51 cs = some y) (hw : WOk Tryz.prog 51 y.1) : ∃ a : Ts, cs.length = 7 ∧ (TsR (fun _ => True) W cs a ∧ (Sm a.name ∧ a.ok ∧ 0 ≤ a.green ∧ a.green < 18446744073709551616)) := by
 obtain ⟨xs, k, _, hy, hl, hlen, hf⟩ := DataW.trod_struct Tryz.underlying51 h
 subst hy
 rw [k49] at hl
 match cs, hl, xs, hlen with
 | [a0, a1, a2, a3, a4, a5, a6], _, [y0, y1, y2, y3, y4, y5, y6], _ =>
   have f0 : DataW.trod enc Tryz.prog W base (fun _ => true) held k 9 [a0] = some y0 := by simpa [k9] using hf 0 _ rfl
   have f1 : DataW.trod enc Tryz.prog W base (fun _ => true) held k 3 [a1] = some y1 := by simpa [k3] using hf 1 _ rfl
   have f2 : DataW.trod enc Tryz.prog W base (fun _ => true) held k 47 [a2] = some y2 := by simpa [k45] using hf 2 _ rfl
   have f3 : DataW.trod enc Tryz.prog W base (fun _ => true) held k 48 [a3] = some y3 := by simpa [k46] using hf 3 _ rfl
   have f4 : DataW.trod enc Tryz.prog W base (fun _ => true) held k 48 [a4] = some y4 := by simpa [k46] using hf 4 _ rfl
   have f5 : DataW.trod enc Tryz.prog W base (fun _ => true) held k 48 [a5] = some y5 := by simpa [k46] using hf 5 _ rfl
   have f6 : DataW.trod enc Tryz.prog W base (fun _ => true) held k 49 [a6] = some y6 := by simpa [k47] using hf 6 _ rfl
   obtain ⟨s0, e0, d0, _⟩ := DataW.trod_string Tryz.underlying9 f0; have w0 := hw.field Tryz.underlying51 (j := 0) (d := y0.1) rfl rfl; rw [d0] at w0; obtain ⟨n1, e1, _⟩ := DataW.trod_int Tryz.underlying3 f1; obtain ⟨n2, e2, _, w2⟩ := DataW.trod_int Tryz.underlying47 f2; obtain ⟨v3, L3, e3, h3, m3⟩ := stmts_rowsS f3 (hw.field Tryz.underlying51 (j := 3) rfl rfl); obtain ⟨v4, L4, e4, h4, m4⟩ := stmts_rowsS f4 (hw.field Tryz.underlying51 (j := 4) rfl rfl); obtain ⟨v5, L5, e5, h5, m5⟩ := stmts_rowsS f5 (hw.field Tryz.underlying51 (j := 5) rfl rfl); obtain ⟨v6, L6, e6, h6, m6⟩ := nexts_rowsS f6 (hw.field Tryz.underlying51 (j := 6) rfl rfl); simp at e0 e1 e2 e3 e4 e5 e6; subst e0 e1 e2 e3 e4 e5 e6; exact ⟨⟨s0, n1, n2, L3, L4, L5, L6⟩, rfl, ⟨_, _, _, _, rfl, h3, h4, h5, h6⟩, sm_of w0, ⟨m3, m4, m5, m6⟩, ok64 w2⟩
theorem stages_rowsS (h : DataW.trod enc Tryz.prog W base (fun _ => true) held n 29 cs = some y) (hw : WOk Tryz.prog 29 y.1) : ∃ v L, cs = [v] ∧ Rows 7 1099511627744 TsR (fun _ => True) W v L ∧ (∀ x ∈ L, Sm x.name ∧ x.ok ∧ 0 ≤ x.green ∧ x.green < 18446744073709551616) := by
 haveI := (⟨⟨⟨#[]⟩, 0, 0, [], [], [], []⟩⟩ : Inhabited Ts)
 obtain ⟨v, L, e, r⟩ := rows_open (mx := 1099511627744) (R := fun S w cs x => TsR S w cs x ∧ (Sm x.name ∧ x.ok ∧ 0 ≤ x.green ∧ x.green < 18446744073709551616)) (sz := 7) (by decide) Tryz.underlying29 k49 y49 (fun n hn => by unfold reachBytes at hn; omega) (fun _ _ _ h w => stage_openS h w) h hw
 obtain ⟨r1, r2⟩ := rows_impW (R2 := TsR) (fun _ _ h => h) r
 exact ⟨v, L, e, r1, r2⟩
theorem group_openS (h : DataW.trod enc Tryz.prog W base (fun _ => true) held n 73 cs = some y) (hw : WOk Tryz.prog 73 y.1) : ∃ a : Gp, cs.length = 5 ∧ (GpR (fun _ => True) W cs a ∧ Sm a.name) := by
 obtain ⟨xs, k, _, hy, hl, hlen, hf⟩ := DataW.trod_struct Tryz.underlying73 h
 subst hy
 rw [k57] at hl
 match cs, hl, xs, hlen with
 | [a0, a1, a2, a3, a4], _, [y0, y1, y2, y3, y4], _ =>
   have f0 : DataW.trod enc Tryz.prog W base (fun _ => true) held k 9 [a0] = some y0 := by simpa [k9] using hf 0 _ rfl
   have f1 : DataW.trod enc Tryz.prog W base (fun _ => true) held k 3 [a1] = some y1 := by simpa [k3] using hf 1 _ rfl
   have f2 : DataW.trod enc Tryz.prog W base (fun _ => true) held k 3 [a2] = some y2 := by simpa [k3] using hf 2 _ rfl
   have f3 : DataW.trod enc Tryz.prog W base (fun _ => true) held k 3 [a3] = some y3 := by simpa [k3] using hf 3 _ rfl
   have f4 : DataW.trod enc Tryz.prog W base (fun _ => true) held k 3 [a4] = some y4 := by simpa [k3] using hf 4 _ rfl
   obtain ⟨s0, e0, d0, _⟩ := DataW.trod_string Tryz.underlying9 f0; have w0 := hw.field Tryz.underlying73 (j := 0) (d := y0.1) rfl rfl; rw [d0] at w0; obtain ⟨n1, e1, _⟩ := DataW.trod_int Tryz.underlying3 f1; obtain ⟨n2, e2, _⟩ := DataW.trod_int Tryz.underlying3 f2; obtain ⟨n3, e3, _⟩ := DataW.trod_int Tryz.underlying3 f3; obtain ⟨n4, e4, _⟩ := DataW.trod_int Tryz.underlying3 f4; simp at e0 e1 e2 e3 e4; subst e0 e1 e2 e3 e4; exact ⟨⟨s0, n1, n2, n3, n4⟩, rfl, rfl, sm_of w0⟩
theorem groups_rowsS (h : DataW.trod enc Tryz.prog W base (fun _ => true) held n 22 cs = some y) (hw : WOk Tryz.prog 22 y.1) : ∃ v L, cs = [v] ∧ Rows 5 2932031007317 GpR (fun _ => True) W v L ∧ (∀ x ∈ L, Sm x.name) := by
 haveI := (⟨⟨⟨#[]⟩, 0, 0, 0, 0⟩⟩ : Inhabited Gp)
 obtain ⟨v, L, e, r⟩ := rows_open (mx := 2932031007317) (R := fun S w cs x => GpR S w cs x ∧ (Sm x.name)) (sz := 5) (by decide) Tryz.underlying22 k57 y57 (fun n hn => by unfold reachBytes at hn; omega) (fun _ _ _ h w => group_openS h w) h hw
 obtain ⟨r1, r2⟩ := rows_impW (R2 := GpR) (fun _ _ h => h) r
 exact ⟨v, L, e, r1, r2⟩
theorem det_openS (h : DataW.trod enc Tryz.prog W base (fun _ => true) held n 89 cs = some y) (hw : WOk Tryz.prog 89 y.1) : ∃ a : Dt, cs.length = 4 ∧ (DtR (fun _ => True) W cs a ∧ Sm a.name) := by
 obtain ⟨xs, k, _, hy, hl, hlen, hf⟩ := DataW.trod_struct Tryz.underlying89 h
 subst hy
 rw [k42] at hl
 match cs, hl, xs, hlen with
 | [a0, a1, a2, a3], _, [y0, y1, y2, y3], _ =>
   have f0 : DataW.trod enc Tryz.prog W base (fun _ => true) held k 9 [a0] = some y0 := by simpa [k9] using hf 0 _ rfl
   have f1 : DataW.trod enc Tryz.prog W base (fun _ => true) held k 4 [a1] = some y1 := by simpa [k4] using hf 1 _ rfl
   have f2 : DataW.trod enc Tryz.prog W base (fun _ => true) held k 3 [a2] = some y2 := by simpa [k3] using hf 2 _ rfl
   have f3 : DataW.trod enc Tryz.prog W base (fun _ => true) held k 3 [a3] = some y3 := by simpa [k3] using hf 3 _ rfl
   obtain ⟨s0, e0, d0, _⟩ := DataW.trod_string Tryz.underlying9 f0; have w0 := hw.field Tryz.underlying89 (j := 0) (d := y0.1) rfl rfl; rw [d0] at w0; obtain ⟨n1, e1, _⟩ := DataW.trod_bool Tryz.underlying4 f1; obtain ⟨n2, e2, _⟩ := DataW.trod_int Tryz.underlying3 f2; obtain ⟨n3, e3, _⟩ := DataW.trod_int Tryz.underlying3 f3; simp at e0 e1 e2 e3; subst e0 e1 e2 e3; exact ⟨⟨s0, n1, n2, n3⟩, rfl, rfl, sm_of w0⟩
theorem dets_rowsS (h : DataW.trod enc Tryz.prog W base (fun _ => true) held n 26 cs = some y) (hw : WOk Tryz.prog 26 y.1) : ∃ v L, cs = [v] ∧ Rows 4 3518437208780 DtR (fun _ => True) W v L ∧ (∀ x ∈ L, Sm x.name) := by
 haveI := (⟨⟨⟨#[]⟩, false, 0, 0⟩⟩ : Inhabited Dt)
 obtain ⟨v, L, e, r⟩ := rows_open (mx := 3518437208780) (R := fun S w cs x => DtR S w cs x ∧ (Sm x.name)) (sz := 4) (by decide) Tryz.underlying26 k42 y42 (fun n hn => by unfold reachBytes at hn; omega) (fun _ _ _ h w => det_openS h w) h hw
 obtain ⟨r1, r2⟩ := rows_impW (R2 := DtR) (fun _ _ h => h) r
 exact ⟨v, L, e, r1, r2⟩
theorem var_openS (h : DataW.trod enc Tryz.prog W base (fun _ => true) held n 117 cs = some y) (hw : WOk Tryz.prog 117 y.1) : ∃ a : Vr, cs.length = 2 ∧ (VrR (fun _ => True) W cs a ∧ Sm a.name) := by
 obtain ⟨xs, k, _, hy, hl, hlen, hf⟩ := DataW.trod_struct Tryz.underlying117 h
 subst hy
 rw [k62] at hl
 match cs, hl, xs, hlen with
 | [a0, a1], _, [y0, y1], _ =>
   have f0 : DataW.trod enc Tryz.prog W base (fun _ => true) held k 9 [a0] = some y0 := by simpa [k9] using hf 0 _ rfl
   have f1 : DataW.trod enc Tryz.prog W base (fun _ => true) held k 21 [a1] = some y1 := by simpa [k21] using hf 1 _ rfl
   obtain ⟨s0, e0, d0, _⟩ := DataW.trod_string Tryz.underlying9 f0; have w0 := hw.field Tryz.underlying117 (j := 0) (d := y0.1) rfl rfl; rw [d0] at w0; obtain ⟨n1, e1, _⟩ := DataW.trod_int Tryz.underlying21 f1; simp at e0 e1; subst e0 e1; exact ⟨⟨s0, n1⟩, rfl, rfl, sm_of w0⟩
theorem vars_rowsS (h : DataW.trod enc Tryz.prog W base (fun _ => true) held n 28 cs = some y) (hw : WOk Tryz.prog 28 y.1) : ∃ v L, cs = [v] ∧ Rows 2 5864062014700 VrR (fun _ => True) W v L ∧ (∀ x ∈ L, Sm x.name) := by
 haveI := (⟨⟨⟨#[]⟩, 0⟩⟩ : Inhabited Vr)
 obtain ⟨v, L, e, r⟩ := rows_open (mx := 5864062014700) (R := fun S w cs x => VrR S w cs x ∧ (Sm x.name)) (sz := 2) (by decide) Tryz.underlying28 k62 y62 (fun n hn => by unfold reachBytes at hn; omega) (fun _ _ _ h w => var_openS h w) h hw
 obtain ⟨r1, r2⟩ := rows_impW (R2 := VrR) (fun _ _ h => h) r
 exact ⟨v, L, e, r1, r2⟩
theorem text_openS (h : DataW.trod enc Tryz.prog W base (fun _ => true) held n 9 cs = some y) (hw : WOk Tryz.prog 9 y.1) : ∃ a : ByteArray, cs.length = 1 ∧ (txR (fun _ => True) W cs a ∧ Sm a) := by
 obtain ⟨s2, e2, d2, _⟩ := DataW.trod_string Tryz.underlying9 h
 rw [d2] at hw
 exact ⟨s2, by rw [e2]; rfl, e2, sm_of hw⟩
theorem texts_rowsS (h : DataW.trod enc Tryz.prog W base (fun _ => true) held n 27 cs = some y) (hw : WOk Tryz.prog 27 y.1) : ∃ v L, cs = [v] ∧ Rows 1 8796093022100 txR (fun _ => True) W v L ∧ (∀ x ∈ L, Sm x) := by
 haveI := (⟨⟨#[]⟩⟩ : Inhabited ByteArray)
 obtain ⟨v, L, e, r⟩ := rows_open (mx := 8796093022100) (R := fun S w cs x => txR S w cs x ∧ (Sm x)) (sz := 1) (by decide) Tryz.underlying27 k9 y9 (fun n hn => by unfold reachBytes at hn; omega) (fun _ _ _ h w => text_openS h w) h hw
 obtain ⟨r1, r2⟩ := rows_impW (R2 := txR) (fun _ _ h => h) r
 exact ⟨v, L, e, r1, r2⟩
end
theorem Rows.mx {α : Type} {sz mx mx' : Nat} {R : (Nat → Prop) → World → List Value → α → Prop} {S : Nat → Prop} {w : World} {v : Value} {L : List α} (hm : mx ≤ mx') (h : Rows sz mx R S w v L) : Rows sz mx' R S w v L := by
 rcases h with h | ⟨ad, cap, h1, h2, h3, h4⟩
 ·exact .inl h
 ·exact .inr ⟨ad, cap, h1, h2, Nat.le_trans h3 hm, h4⟩
end Go.Proofs.YtjfieclmagbfbaaGreatDoor
