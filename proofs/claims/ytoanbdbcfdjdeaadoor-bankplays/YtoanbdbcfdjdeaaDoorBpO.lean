import Derived.ProofKit
import Derived.OpenShut
import Derived.ChangeOld
import Derived.SizedLaws
import Derived.ChangeArms
import Derived.Deep.Slices
import Derived.KernelRfl
import Derived.LaidMore
import Derived.Stop.Joined
import Derived.Stop.LaidErr
import Derived.Stop.LaidTwo
import Derived.Lib.LaidTab
import Derived.Test.YtoanbdbcfdjdeaaDoorBpR
import Derived.Test.YtoanbdbcfdjdeaaDoorRows
namespace Go.Proofs.YtoanbdbcfdjdeaaDoor
open Go.ChangeShapes Go.WideShapes Go.ChangeAt Go.RowKit
set_option linter.unusedVariables false
set_option linter.unusedSimpArgs false

/-- All lists within are of a size that can be. -/
def WOk {H : Type} (P : Program) (t : TypeId) (d : DataW H) : Prop := ∀ n ∈ d.weights P t, n ≤ reachBytes
theorem wok_of_each {H : Type} {P : Program} {ts : List TypeId} {ds : List (DataW H)} (h : (DataW.weightsEach P ts ds).all (· ≤ reachBytes) = true) {j : Nat} {t : TypeId} {d : DataW H} (ht : ts[j]? = some t) (hd : ds[j]? = some d) : WOk P t d :=
  fun n hn => by simpa using List.all_eq_true.1 h n (DataW.weights_mem_each ht hd n hn)
theorem WOk.field {H : Type} {P : Program} {t : TypeId} {parts : List (DataW H)} {fs : Array Field} (h : WOk P t (.agg parts)) (hu : P.underlying t = some (.struct fs)) {j : Nat} {tj : TypeId} {d : DataW H} (ht : (fs.toList.map (·.type))[j]? = some tj) (hd : parts[j]? = some d) : WOk P tj d :=
  fun n hn => h n (by unfold DataW.weights; rw [hu]; exact DataW.weights_mem_each ht hd n hn)
theorem weightsAll_mem {H : Type} {P : Program} {e : TypeId} : ∀ {ds : List (DataW H)} {d : DataW H}, d ∈ ds → ∀ n ∈ d.weights P e, n ∈ DataW.weightsAll P e ds
  | d0 :: ds, d, h, n, hn => by
    simp only [DataW.weightsAll, List.mem_append]
    rcases List.mem_cons.1 h with rfl | h
    · exact .inl hn
    · exact .inr (weightsAll_mem h n hn)
  | [], _, h, _, _ => by cases h
theorem cell_ltO {w : World} {b o : Nat} {v : Value} (h : w.cell? ⟨b, o, none⟩ = some v) : b < w.heap.size := cell_ltF h

/-- A part of an argument that is a list. -/
theorem rows_open {α : Type} [Inhabited α] {P : Program} {H : Type} {enc : TypeId × Value → H} {W : World} {base fuel : Nat} {held : Bool} {vs : List Value} {x : DataW H × List MemPlace} {t e : TypeId} {sz mx by' : Nat} {R : (Nat → Prop) → World → List Value → α → Prop}
    (h0 : 0 < sz) (ht : P.underlying t = some (.slice e)) (hc : P.cellsOf e = sz) (hb : P.bytesOf e = by') (hmx : ∀ n, n * by' ≤ reachBytes → n ≤ mx)
    (hE : ∀ n cs' (y : DataW H × List MemPlace), DataW.trod enc P W base (fun _ => true) held n e cs' = some y → WOk P e y.1 → ∃ a : α, cs'.length = sz ∧ R (fun _ => True) W cs' a)
    (h : DataW.trod enc P W base (fun _ => true) held fuel t vs = some x) (hw : WOk P t x.1) :
    ∃ (v : Value) (L : List α), vs = [v] ∧ Rows sz mx R (fun _ => True) W v L := by
  rcases Go.Deep.open_slice ht h with ⟨hcs, _⟩ | ⟨ad, len, cap, m, n, D, Pl, hcs, _, hle, hm, hmm, hx, hel⟩
  · exact ⟨_, [], hcs, .inl ⟨rfl, rfl⟩⟩
  · simp only [if_true] at hmm
    subst hmm
    rw [hc] at hel
    subst hx
    have hlen : len ≤ mx := by
      refine hmx len ?_
      have := hw ((((List.range len).map D).length + ((List.range (m - len)).map fun j => D (len + j)).length) * by') (by simp [DataW.weights, ht, hb])
      simp at this
      exact Nat.le_trans (Nat.mul_le_mul_right _ (by omega)) this
    have each : ∀ i, i < len → ∃ q : α × List Value, q.2.length = sz ∧ R (fun _ => True) W q.2 q.1 ∧ W.cells? base (ad.add (i * sz)) sz = some q.2 := by
      intro i hi
      obtain ⟨cs', h1, h2⟩ := hel i (by omega)
      obtain ⟨a, h3, h4⟩ := hE _ _ _ h2 (fun n hn => hw n (by
        unfold DataW.weights; rw [ht]
        refine List.mem_cons_of_mem _ (List.mem_append_left _ (weightsAll_mem (d := D i) ?_ n hn))
        exact List.mem_map.2 ⟨i, by simpa using hi, rfl⟩))
      exact ⟨(a, cs'), h3, h4, h1⟩
    obtain ⟨f, hfn⟩ := Go.Deep.choose_lt (α := α × List Value) (n := len) (p := fun i q => q.2.length = sz ∧ R (fun _ => True) W q.2 q.1 ∧ W.cells? base (ad.add (i * sz)) sz = some q.2) each
    refine ⟨_, (List.range len).map (fun i => (f i).1), hcs, .inr ⟨ad, m, by simp, by simpa using hle, by simpa using hlen, ?_⟩⟩
    by_cases hz : len = 0
    · left; subst hz; rfl
    · right
      have hcc : ∀ i, i < len → ∀ j, j < sz → W.cell? ((ad.add (i * sz)).add j) = (f i).2[j]? := fun i hi => (World.cells?_some (hfn i hi).2.2).2.2
      obtain ⟨b, off, spot⟩ := ad
      have h00 := hcc 0 (by omega) 0 h0
      rw [List.getElem?_eq_getElem (by rw [(hfn 0 (by omega)).1]; exact h0)] at h00
      have h01 : W.cell? ⟨b, off, spot⟩ = some ((f 0).2[0]'(by rw [(hfn 0 (by omega)).1]; exact h0)) := by simpa [Addr.add] using h00
      have hspot : spot = none := by simpa using World.cell?_spot h01
      subst hspot
      refine ⟨rfl, trivial, cell_ltO h01, fun i hi => ?_⟩
      have hi' : i < len := by simpa using hi
      refine ⟨(f i).2, (hfn i hi').1, by rw [List.getElem_map, List.getElem_range]; exact (hfn i hi').2.1, fun j u hu => ?_⟩
      have hj : j < sz := by have := (List.getElem?_eq_some_iff.1 hu).1; rw [(hfn i hi').1] at this; exact this
      have := hcc i hi' j hj
      rw [Go.WideShapes.add_plain, Go.WideShapes.add_plain] at this
      rw [this]; exact hu


theorem k3 : Tryd.prog.cellsOf 3 = 1 := by kernel_rfl
theorem k5 : Tryd.prog.cellsOf 5 = 1 := by kernel_rfl
theorem k22 : Tryd.prog.cellsOf 22 = 1 := by kernel_rfl
theorem k41 : Tryd.prog.cellsOf 41 = 3 := by kernel_rfl
theorem y5 : Tryd.prog.bytesOf 5 = 1 := by kernel_rfl
theorem y41 : Tryd.prog.bytesOf 41 = 40 := by kernel_rfl
theorem bounds64 {n : Int} (h : (Lit.int .i64 n).wf = true) : -9223372036854775808 ≤ n ∧ n ≤ 9223372036854775807 := by
  have h1 : IntKind.i64.min = -9223372036854775808 := by decide
  have h2 : IntKind.i64.max = 9223372036854775807 := by decide
  simp [Lit.wf] at h
  omega
def ByR (S : Nat → Prop) (w : World) (cs : List Value) (x : Int) : Prop := cs = [.int .u8 x]
section
variable {H : Type} {enc : TypeId × Value → H} {W : World} {base n : Nat} {held : Bool} {cs : List Value} {y : DataW H × List MemPlace}
theorem byte_open (h : DataW.trod enc Tryd.prog W base (fun _ => true) held n 5 cs = some y) : ∃ a : Int, cs.length = 1 ∧ ByR (fun _ => True) W cs a := by
  obtain ⟨n1, e1, _, r1⟩ := DataW.trod_int Tryd.underlying5 h
  exact ⟨n1, by rw [e1]; rfl, e1⟩
theorem rows_by {S : Nat → Prop} {w : World} {v : Value} {L : List Int} (h : Go.Proofs.YtoanbdbcfdjdeaaDoor.Rows 1 140737488351232 ByR S w v L) : By S w v L ∧ L.length ≤ 140737488351232 := by
  have hv := Rows.val h
  obtain ⟨a, cap, e, hm, hx⟩ := Rows.any h
  subst e
  refine ⟨⟨a, cap, rfl, ?_, by omega, fun e => ?_, hx.imp id ?_⟩, hm⟩
  · rcases hv with ⟨e, e2⟩ | ⟨ad, c2, e, h2⟩
    · rw [e2]; exact Nat.zero_le _
    · injection e with _ _ e; omega
  · rcases hv with ⟨_, e2⟩ | ⟨ad, c2, e3, _⟩
    · exact e2
    · rw [e] at e3; cases e3
  · rintro ⟨g, o, e2, hS, hg, hel⟩
    refine ⟨g, o, e2, hS, hg, fun i hi => ?_⟩
    obtain ⟨cs, _, rfl, hc⟩ := hel i hi
    have := hc 0 _ rfl
    simpa using this
theorem bytes_open (h : DataW.trod enc Tryd.prog W base (fun _ => true) held n 22 cs = some y) (hw : WOk Tryd.prog 22 y.1) : ∃ v L, cs = [v] ∧ By (fun _ => True) W v L ∧ L.length ≤ 140737488351232 := by
  obtain ⟨v0, A, e0, h0⟩ := rows_open (R := ByR) (sz := 1) (mx := 140737488351232) (by decide) Tryd.underlying22 k5 y5 (fun n hn => by unfold reachBytes at hn; omega) (fun _ _ _ h w => byte_open h) h hw
  exact ⟨v0, A, e0, rows_by h0⟩
set_option maxRecDepth 100000 in
theorem act_open (h : DataW.trod enc Tryd.prog W base (fun _ => true) held n 41 cs = some y) (hw : WOk Tryd.prog 41 y.1) : ∃ a : Ac, cs.length = 3 ∧ AcR (fun _ => True) W cs a := by
  obtain ⟨xs, k, _, hy, hl, hlen, hf⟩ := DataW.trod_struct Tryd.underlying41 h
  subst hy
  rw [k41] at hl
  match cs, hl, xs, hlen with
  | [a0, a1, a2], _, [y0, y1, y2], _ =>
    have f0 : DataW.trod enc Tryd.prog W base (fun _ => true) held k 3 [a0] = some y0 := by simpa [k3] using hf 0 _ rfl
    have f1 : DataW.trod enc Tryd.prog W base (fun _ => true) held k 3 [a1] = some y1 := by simpa [k3] using hf 1 _ rfl
    have f2 : DataW.trod enc Tryd.prog W base (fun _ => true) held k 22 [a2] = some y2 := by simpa [k22] using hf 2 _ rfl
    obtain ⟨n1, e1, _, r1⟩ := DataW.trod_int Tryd.underlying3 f0
    obtain ⟨n2, e2, _, r2⟩ := DataW.trod_int Tryd.underlying3 f1
    obtain ⟨v, L, e3, hB, _⟩ := bytes_open f2 (hw.field Tryd.underlying41 (j := 2) rfl rfl)
    simp at e1 e2 e3
    subst e1 e2 e3
    exact ⟨⟨n1, n2, L⟩, rfl, _, rfl, hB, (bounds64 r2).2, (bounds64 r2).1⟩
theorem acts_open (h : DataW.trod enc Tryd.prog W base (fun _ => true) held n 23 cs = some y) (hw : WOk Tryd.prog 23 y.1) : ∃ v A, cs = [v] ∧ Acs (fun _ => True) W v A := by
  haveI : Inhabited Ac := ⟨⟨0, 0, []⟩⟩
  exact rows_open (R := AcR) (sz := 3) (mx := 3518437208882) (by decide) Tryd.underlying23 k41 y41 (fun n hn => by unfold reachBytes at hn; omega) (fun _ _ _ h w => act_open h w) h hw
end
theorem bytes_arg {H : Type} {enc : TypeId × Value → H} {W : World} {base b0 : Nat} {held : Bool} {v : Value} {d : DataW H} {ps : List MemPlace} (h : DataW.Trod enc Tryd.prog W base (fun _ => true) held 22 v d ps) (hv : Value.okWide Tryd.prog W .any b0 22 v) (hw : WOk Tryd.prog 22 d) : ∃ a L c, v = .slice a L.length c ∧ By (fun q => q < W.heap.size) W (.slice a L.length c) L ∧ L.length ≤ 140737488351232 := by
  obtain ⟨a, l, c, rfl⟩ := okWide_slice Tryd.underlying22 hv
  obtain ⟨fuel, hf⟩ := h
  obtain ⟨v, L, e, hB, hl⟩ := bytes_open hf hw
  simp [Value.cells] at e
  subst e
  have hB2 := hB.keep (Mv.weak (S' := fun q => q < W.heap.size) (fun k hk _ => hk))
  obtain ⟨a', c', e2, _⟩ := hB
  injection e2 with e2 e3 e4
  subst e2 e3 e4
  exact ⟨_, L, _, rfl, hB2, hl⟩
theorem acts_arg {H : Type} {enc : TypeId × Value → H} {W : World} {base b0 : Nat} {held : Bool} {v : Value} {d : DataW H} {ps : List MemPlace} (h : DataW.Trod enc Tryd.prog W base (fun _ => true) held 23 v d ps) (hv : Value.okWide Tryd.prog W .any b0 23 v) (hw : WOk Tryd.prog 23 d) : ∃ A, Acs (fun q => q < W.heap.size) W v A := by
  obtain ⟨a, l, c, rfl⟩ := okWide_slice Tryd.underlying23 hv
  obtain ⟨fuel, hf⟩ := h
  obtain ⟨v, A, e, hA⟩ := acts_open hf hw
  simp [Value.cells] at e
  subst e
  exact ⟨A, hA.keep (Mv.weak (fun k hk _ => hk))⟩

theorem own : ownKnob Tryd.prog.godebug = none := by kernel_rfl
theorem laidOut : laidOutB Tryd.prog = true := by kernel_rfl
theorem c104 : Tryd.prog.cellsOf 104 = 1 := by kernel_rfl
theorem c9 : Tryd.prog.cellsOf 9 = 1 := by kernel_rfl
theorem star : "*" ++ "errors.errorString" = "*errors.errorString" := by decide
theorem row79 (u : TypeId) (h : Tryd.prog.typeName? 3 u = some "*errors.errorString") : u = 79 :=
  typeName_ptr_named (nm := "errors.errorString") (by rw [star]; kernel_rfl) (by kernel_rfl) (by decide) u (by rw [star]; exact h)
theorem g0 : Tryd.prog.globalNamed "junction/bank.errDisk" = some 0 := by kernel_rfl
theorem t0 : (Tryd.prog.globals[0]?).map (·.type) = some 38 := by kernel_rfl
theorem g1 : Tryd.prog.globalNamed "junction/bank.errSlot" = some 1 := by kernel_rfl
theorem t1 : (Tryd.prog.globals[1]?).map (·.type) = some 38 := by kernel_rfl
theorem g2 : Tryd.prog.globalNamed "junction/bank.errEmpty" = some 2 := by kernel_rfl
theorem t2 : (Tryd.prog.globals[2]?).map (·.type) = some 38 := by kernel_rfl
theorem g3 : Tryd.prog.globalNamed "junction/bank.errSpace" = some 3 := by kernel_rfl
theorem t3 : (Tryd.prog.globals[3]?).map (·.type) = some 38 := by kernel_rfl
theorem g4 : Tryd.prog.globalNamed "junction/bank.errData" = some 4 := by kernel_rfl
theorem t4 : (Tryd.prog.globals[4]?).map (·.type) = some 38 := by kernel_rfl
theorem g5 : Tryd.prog.globalNamed "junction/bank.errInUse" = some 5 := by kernel_rfl
theorem t5 : (Tryd.prog.globals[5]?).map (·.type) = some 38 := by kernel_rfl
theorem g6 : Tryd.prog.globalNamed "junction/bank.errAct" = some 6 := by kernel_rfl
theorem t6 : (Tryd.prog.globals[6]?).map (·.type) = some 38 := by kernel_rfl
theorem g7 : Tryd.prog.globalNamed "junction/bank.errWorn" = some 7 := by kernel_rfl
theorem t7 : (Tryd.prog.globals[7]?).map (·.type) = some 38 := by kernel_rfl
/-- What the row lists. -/
def laidT : List (String × DataW Unit) := [("junction/bank.errDisk", Rows.laid_junction_bank_errDisk), ("junction/bank.errSlot", Rows.laid_junction_bank_errSlot), ("junction/bank.errEmpty", Rows.laid_junction_bank_errEmpty), ("junction/bank.errSpace", Rows.laid_junction_bank_errSpace), ("junction/bank.errData", Rows.laid_junction_bank_errData), ("junction/bank.errInUse", Rows.laid_junction_bank_errInUse), ("junction/bank.errAct", Rows.laid_junction_bank_errAct), ("junction/bank.errWorn", Rows.laid_junction_bank_errWorn)]
theorem door_met (os : Os) (args : Array Value) : laidMetH Tryd.prog laidT ((World.doorLaid Tryd.prog 400 os).forCall (fun _ _ => 0) ⟨#[], args, []⟩).memory :=
  laidMetH_of_parts3 (fuel := 8) (laidMet_of_run' 8 (by kernel_rfl) (by kernel_rfl)) (by kernel_rfl) (by kernel_rfl)
theorem eight {P : Nat → Prop} (h0 : P 0) (h1 : P 1) (h2 : P 2) (h3 : P 3) (h4 : P 4) (h5 : P 5) (h6 : P 6) (h7 : P 7) : ∀ j, j < 8 → P j
  | 0, _ => h0
  | 1, _ => h1
  | 2, _ => h2
  | 3, _ => h3
  | 4, _ => h4
  | 5, _ => h5
  | 6, _ => h6
  | 7, _ => h7
set_option maxRecDepth 100000 in
set_option maxHeartbeats 4000000 in
theorem of_laid {W : World} (h : laidMetH Tryd.prog laidT W) : ∃ a : Nat → Addr, Er W.heap.size W a := by
  rw [MakeChecks.laidMetH_plain _ _ _ (by kernel_rfl)] at h
  obtain ⟨ps, ⟨x0, y0, cs0, f0, p0, q0, hg0, ht0, hv0, hd0, ⟨x1, y1, cs1, f1, p1, q1, hg1, ht1, hv1, hd1, ⟨x2, y2, cs2, f2, p2, q2, hg2, ht2, hv2, hd2, ⟨x3, y3, cs3, f3, p3, q3, hg3, ht3, hv3, hd3, ⟨x4, y4, cs4, f4, p4, q4, hg4, ht4, hv4, hd4, ⟨x5, y5, cs5, f5, p5, q5, hg5, ht5, hv5, hd5, ⟨x6, y6, cs6, f6, p6, q6, hg6, ht6, hv6, hd6, ⟨x7, y7, cs7, f7, p7, q7, hg7, ht7, hv7, hd7, _, e7⟩, e6⟩, e5⟩, e4⟩, e3⟩, e2⟩, e1⟩, e0⟩, hnd, hrows⟩ := h
  obtain rfl := Option.some.inj (g0.symm.trans hg0)
  obtain rfl := Option.some.inj (t0.symm.trans ht0)
  obtain rfl := Option.some.inj (g1.symm.trans hg1)
  obtain rfl := Option.some.inj (t1.symm.trans ht1)
  obtain rfl := Option.some.inj (g2.symm.trans hg2)
  obtain rfl := Option.some.inj (t2.symm.trans ht2)
  obtain rfl := Option.some.inj (g3.symm.trans hg3)
  obtain rfl := Option.some.inj (t3.symm.trans ht3)
  obtain rfl := Option.some.inj (g4.symm.trans hg4)
  obtain rfl := Option.some.inj (t4.symm.trans ht4)
  obtain rfl := Option.some.inj (g5.symm.trans hg5)
  obtain rfl := Option.some.inj (t5.symm.trans ht5)
  obtain rfl := Option.some.inj (g6.symm.trans hg6)
  obtain rfl := Option.some.inj (t6.symm.trans ht6)
  obtain rfl := Option.some.inj (g7.symm.trans hg7)
  obtain rfl := Option.some.inj (t7.symm.trans ht7)
  subst e7
  subst e6
  subst e5
  subst e4
  subst e3
  subst e2
  subst e1
  subst e0
  obtain ⟨l0⟩ := cs0
  have ok0 : ∀ u v, l0 = [.iface u v] → Value.okWide Tryd.prog W .any 0 u v := fun u v e => by
    subst e
    exact (hrows 0 0 (by simp [MemPlace.row])).2 u v (by simpa using World.var?_cell hg0 hv0 0)
  obtain ⟨l1⟩ := cs1
  have ok1 : ∀ u v, l1 = [.iface u v] → Value.okWide Tryd.prog W .any 0 u v := fun u v e => by
    subst e
    exact (hrows 1 0 (by simp [MemPlace.row])).2 u v (by simpa using World.var?_cell hg1 hv1 0)
  obtain ⟨l2⟩ := cs2
  have ok2 : ∀ u v, l2 = [.iface u v] → Value.okWide Tryd.prog W .any 0 u v := fun u v e => by
    subst e
    exact (hrows 2 0 (by simp [MemPlace.row])).2 u v (by simpa using World.var?_cell hg2 hv2 0)
  obtain ⟨l3⟩ := cs3
  have ok3 : ∀ u v, l3 = [.iface u v] → Value.okWide Tryd.prog W .any 0 u v := fun u v e => by
    subst e
    exact (hrows 3 0 (by simp [MemPlace.row])).2 u v (by simpa using World.var?_cell hg3 hv3 0)
  obtain ⟨l4⟩ := cs4
  have ok4 : ∀ u v, l4 = [.iface u v] → Value.okWide Tryd.prog W .any 0 u v := fun u v e => by
    subst e
    exact (hrows 4 0 (by simp [MemPlace.row])).2 u v (by simpa using World.var?_cell hg4 hv4 0)
  obtain ⟨l5⟩ := cs5
  have ok5 : ∀ u v, l5 = [.iface u v] → Value.okWide Tryd.prog W .any 0 u v := fun u v e => by
    subst e
    exact (hrows 5 0 (by simp [MemPlace.row])).2 u v (by simpa using World.var?_cell hg5 hv5 0)
  obtain ⟨l6⟩ := cs6
  have ok6 : ∀ u v, l6 = [.iface u v] → Value.okWide Tryd.prog W .any 0 u v := fun u v e => by
    subst e
    exact (hrows 6 0 (by simp [MemPlace.row])).2 u v (by simpa using World.var?_cell hg6 hv6 0)
  obtain ⟨l7⟩ := cs7
  have ok7 : ∀ u v, l7 = [.iface u v] → Value.okWide Tryd.prog W .any 0 u v := fun u v e => by
    subst e
    exact (hrows 7 0 (by simp [MemPlace.row])).2 u v (by simpa using World.var?_cell hg7 hv7 0)
  obtain ⟨a0, s0, rfl, hc0, -, -, rfl⟩ := errorString_of_trod Tryd.underlying38 row79 Tryd.underlying79 Tryd.underlying104 rfl rfl Tryd.underlying9 c104 c9 hd0 ok0
  obtain ⟨a1, s1, rfl, hc1, -, -, rfl⟩ := errorString_of_trod Tryd.underlying38 row79 Tryd.underlying79 Tryd.underlying104 rfl rfl Tryd.underlying9 c104 c9 hd1 ok1
  obtain ⟨a2, s2, rfl, hc2, -, -, rfl⟩ := errorString_of_trod Tryd.underlying38 row79 Tryd.underlying79 Tryd.underlying104 rfl rfl Tryd.underlying9 c104 c9 hd2 ok2
  obtain ⟨a3, s3, rfl, hc3, -, -, rfl⟩ := errorString_of_trod Tryd.underlying38 row79 Tryd.underlying79 Tryd.underlying104 rfl rfl Tryd.underlying9 c104 c9 hd3 ok3
  obtain ⟨a4, s4, rfl, hc4, -, -, rfl⟩ := errorString_of_trod Tryd.underlying38 row79 Tryd.underlying79 Tryd.underlying104 rfl rfl Tryd.underlying9 c104 c9 hd4 ok4
  obtain ⟨a5, s5, rfl, hc5, -, -, rfl⟩ := errorString_of_trod Tryd.underlying38 row79 Tryd.underlying79 Tryd.underlying104 rfl rfl Tryd.underlying9 c104 c9 hd5 ok5
  obtain ⟨a6, s6, rfl, hc6, -, -, rfl⟩ := errorString_of_trod Tryd.underlying38 row79 Tryd.underlying79 Tryd.underlying104 rfl rfl Tryd.underlying9 c104 c9 hd6 ok6
  obtain ⟨a7, s7, rfl, hc7, -, -, rfl⟩ := errorString_of_trod Tryd.underlying38 row79 Tryd.underlying79 Tryd.underlying104 rfl rfl Tryd.underlying9 c104 c9 hd7 ok7
  have hb0 := (hrows a0.block a0.off (by simp [MemPlace.row])).1
  have hb1 := (hrows a1.block a1.off (by simp [MemPlace.row])).1
  have hb2 := (hrows a2.block a2.off (by simp [MemPlace.row])).1
  have hb3 := (hrows a3.block a3.off (by simp [MemPlace.row])).1
  have hb4 := (hrows a4.block a4.off (by simp [MemPlace.row])).1
  have hb5 := (hrows a5.block a5.off (by simp [MemPlace.row])).1
  have hb6 := (hrows a6.block a6.off (by simp [MemPlace.row])).1
  have hb7 := (hrows a7.block a7.off (by simp [MemPlace.row])).1
  have n01 : a0 ≠ a1 := by
    rintro rfl
    simp [MemPlace.row] at hnd
  have n02 : a0 ≠ a2 := by
    rintro rfl
    simp [MemPlace.row] at hnd
  have n03 : a0 ≠ a3 := by
    rintro rfl
    simp [MemPlace.row] at hnd
  have n04 : a0 ≠ a4 := by
    rintro rfl
    simp [MemPlace.row] at hnd
  have n05 : a0 ≠ a5 := by
    rintro rfl
    simp [MemPlace.row] at hnd
  have n06 : a0 ≠ a6 := by
    rintro rfl
    simp [MemPlace.row] at hnd
  have n07 : a0 ≠ a7 := by
    rintro rfl
    simp [MemPlace.row] at hnd
  have n12 : a1 ≠ a2 := by
    rintro rfl
    simp [MemPlace.row] at hnd
  have n13 : a1 ≠ a3 := by
    rintro rfl
    simp [MemPlace.row] at hnd
  have n14 : a1 ≠ a4 := by
    rintro rfl
    simp [MemPlace.row] at hnd
  have n15 : a1 ≠ a5 := by
    rintro rfl
    simp [MemPlace.row] at hnd
  have n16 : a1 ≠ a6 := by
    rintro rfl
    simp [MemPlace.row] at hnd
  have n17 : a1 ≠ a7 := by
    rintro rfl
    simp [MemPlace.row] at hnd
  have n23 : a2 ≠ a3 := by
    rintro rfl
    simp [MemPlace.row] at hnd
  have n24 : a2 ≠ a4 := by
    rintro rfl
    simp [MemPlace.row] at hnd
  have n25 : a2 ≠ a5 := by
    rintro rfl
    simp [MemPlace.row] at hnd
  have n26 : a2 ≠ a6 := by
    rintro rfl
    simp [MemPlace.row] at hnd
  have n27 : a2 ≠ a7 := by
    rintro rfl
    simp [MemPlace.row] at hnd
  have n34 : a3 ≠ a4 := by
    rintro rfl
    simp [MemPlace.row] at hnd
  have n35 : a3 ≠ a5 := by
    rintro rfl
    simp [MemPlace.row] at hnd
  have n36 : a3 ≠ a6 := by
    rintro rfl
    simp [MemPlace.row] at hnd
  have n37 : a3 ≠ a7 := by
    rintro rfl
    simp [MemPlace.row] at hnd
  have n45 : a4 ≠ a5 := by
    rintro rfl
    simp [MemPlace.row] at hnd
  have n46 : a4 ≠ a6 := by
    rintro rfl
    simp [MemPlace.row] at hnd
  have n47 : a4 ≠ a7 := by
    rintro rfl
    simp [MemPlace.row] at hnd
  have n56 : a5 ≠ a6 := by
    rintro rfl
    simp [MemPlace.row] at hnd
  have n57 : a5 ≠ a7 := by
    rintro rfl
    simp [MemPlace.row] at hnd
  have n67 : a6 ≠ a7 := by
    rintro rfl
    simp [MemPlace.row] at hnd
  clear hnd hrows
  have gl0 : W.cell? ⟨0, 0, none⟩ = some (.iface 79 (.pointer (some a0))) := by simpa using World.var?_cell hg0 hv0 0
  have gl1 : W.cell? ⟨1, 0, none⟩ = some (.iface 79 (.pointer (some a1))) := by simpa using World.var?_cell hg1 hv1 0
  have gl2 : W.cell? ⟨2, 0, none⟩ = some (.iface 79 (.pointer (some a2))) := by simpa using World.var?_cell hg2 hv2 0
  have gl3 : W.cell? ⟨3, 0, none⟩ = some (.iface 79 (.pointer (some a3))) := by simpa using World.var?_cell hg3 hv3 0
  have gl4 : W.cell? ⟨4, 0, none⟩ = some (.iface 79 (.pointer (some a4))) := by simpa using World.var?_cell hg4 hv4 0
  have gl5 : W.cell? ⟨5, 0, none⟩ = some (.iface 79 (.pointer (some a5))) := by simpa using World.var?_cell hg5 hv5 0
  have gl6 : W.cell? ⟨6, 0, none⟩ = some (.iface 79 (.pointer (some a6))) := by simpa using World.var?_cell hg6 hv6 0
  have gl7 : W.cell? ⟨7, 0, none⟩ = some (.iface 79 (.pointer (some a7))) := by simpa using World.var?_cell hg7 hv7 0
  have hN : [a0, a1, a2, a3, a4, a5, a6, a7].Nodup := by
    simp only [List.nodup_cons, List.mem_cons, List.not_mem_nil, not_or, not_false_eq_true, List.nodup_nil, and_true, or_false]
    exact ⟨⟨n01, n02, n03, n04, n05, n06, n07⟩, ⟨n12, n13, n14, n15, n16, n17⟩, ⟨n23, n24, n25, n26, n27⟩, ⟨n34, n35, n36, n37⟩, ⟨n45, n46, n47⟩, ⟨n56, n57⟩, n67⟩
  have hP := List.pairwise_iff_getElem.1 hN
  have hW8 : 8 ≤ W.heap.size := cell_ltF gl7
  refine ⟨fun i => [a0, a1, a2, a3, a4, a5, a6, a7].getD i a0, ⟨hW8, Nat.le_refl _, eight gl0 gl1 gl2 gl3 gl4 gl5 gl6 gl7, fun i j hi hj hne => ?_, ?_⟩⟩
  · have ei : [a0, a1, a2, a3, a4, a5, a6, a7].getD i a0 = [a0, a1, a2, a3, a4, a5, a6, a7][i]'(by simpa using hi) := by simp [List.getD, hi]
    have ej : [a0, a1, a2, a3, a4, a5, a6, a7].getD j a0 = [a0, a1, a2, a3, a4, a5, a6, a7][j]'(by simpa using hj) := by simp [List.getD, hj]
    (try dsimp only)
    rw [ei, ej]
    rcases Nat.lt_or_gt_of_ne hne with h | h
    · exact hP i j _ _ h
    · exact (hP j i _ _ h).symm
  · have lt : ∀ (a : Addr), (∃ c t, W.heap[a.block]? = some (.cells c t (0, 0))) → a.block < W.heap.size ∧ ∃ c t, W.heap[a.block]? = some (.cells c t (0, 0)) := fun a h => ⟨by obtain ⟨c, t, e⟩ := h; exact (Array.getElem?_eq_some_iff.1 e).1, h⟩
    exact eight (lt _ hb0) (lt _ hb1) (lt _ hb2) (lt _ hb3) (lt _ hb4) (lt _ hb5) (lt _ hb6) (lt _ hb7)
end Go.Proofs.YtoanbdbcfdjdeaaDoor
