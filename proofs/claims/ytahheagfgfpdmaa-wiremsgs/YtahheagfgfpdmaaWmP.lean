import Derived.ProofKit
import Derived.OpenShut
import Derived.ChangeOld
import Derived.SizedLaws
import Derived.ChangeArms
import Derived.Deep.Slices
import Derived.KernelRfl
import Derived.Test.YtahheagfgfpdmaaWmO
import Derived.Test.YtahheagfgfpdmaaRows
namespace Go.Proofs.Ytahheagfgfpdmaa
open Go.ChangeShapes Go.WideShapes Go.ChangeAt Go.RowKit
set_option linter.unusedVariables false
set_option linter.unusedSimpArgs false

/-- All lists within are of a size that can be. -/
def WOk {H : Type} (P : Program) (t : TypeId) (d : DataW H) : Prop := ∀ n ∈ d.weights P t, n ≤ reachBytes
theorem wok_of_each {H : Type} {P : Program} {ts : List TypeId} {ds : List (DataW H)} (h : (DataW.weightsEach P ts ds).all (· ≤ reachBytes) = true) {j : Nat} {t : TypeId} {d : DataW H} (ht : ts[j]? = some t) (hd : ds[j]? = some d) : WOk P t d :=
  fun n hn => by simpa using List.all_eq_true.1 h n (DataW.weights_mem_each ht hd n hn)
theorem WOk.field {H : Type} {P : Program} {t : TypeId} {parts : List (DataW H)} {fs : Array Field} (h : WOk P t (.agg parts)) (hu : P.underlying t = some (.struct fs)) {j : Nat} {tj : TypeId} {d : DataW H} (ht : (fs.toList.map (·.type))[j]? = some tj) (hd : parts[j]? = some d) : WOk P tj d :=
  fun n hn => h n (by unfold DataW.weights; rw [hu]; exact DataW.weights_mem_each ht hd n hn)
theorem weightsAll_mem {H : Type} {P : Program} {e : TypeId} : ∀ {ds : List (DataW H)} {d : DataW H}, d ∈ ds → ∀ n ∈ d.weights P e, n ∈ DataW.weightsAll P e ds
  | d0 :: ds, d, h, n, hn => by
    simp only [DataW.weightsAll, List.mem_append]
    rcases List.mem_cons.1 h with rfl | h
    · exact .inl hn
    · exact .inr (weightsAll_mem h n hn)
  | [], _, h, _, _ => by cases h
theorem cell_ltO {w : World} {b o : Nat} {v : Value} (h : w.cell? ⟨b, o, none⟩ = some v) : b < w.heap.size := cell_ltF h

/-- A part of an argument that is a list. -/
theorem rows_open {α : Type} [Inhabited α] {P : Program} {H : Type} {enc : TypeId × Value → H} {W : World} {base fuel : Nat} {held : Bool} {vs : List Value} {x : DataW H × List MemPlace} {t e : TypeId} {sz mx by' : Nat} {R : (Nat → Prop) → World → List Value → α → Prop}
    (h0 : 0 < sz) (ht : P.underlying t = some (.slice e)) (hc : P.cellsOf e = sz) (hb : P.bytesOf e = by') (hmx : ∀ n, n * by' ≤ reachBytes → n ≤ mx)
    (hE : ∀ n cs' (y : DataW H × List MemPlace), DataW.trod enc P W base (fun _ => true) held n e cs' = some y → WOk P e y.1 → ∃ a : α, cs'.length = sz ∧ R (fun _ => True) W cs' a)
    (h : DataW.trod enc P W base (fun _ => true) held fuel t vs = some x) (hw : WOk P t x.1) :
    ∃ (v : Value) (L : List α), vs = [v] ∧ Rows sz mx R (fun _ => True) W v L := by
  rcases Go.Deep.open_slice ht h with ⟨hcs, _⟩ | ⟨ad, len, cap, m, n, D, Pl, hcs, _, hle, hm, hmm, hx, hel⟩
  · exact ⟨_, [], hcs, .inl ⟨rfl, rfl⟩⟩
  · simp only [if_true] at hmm
    subst hmm
    rw [hc] at hel
    subst hx
    have hlen : len ≤ mx := by
      refine hmx len ?_
      have := hw ((((List.range len).map D).length + ((List.range (m - len)).map fun j => D (len + j)).length) * by') (by simp [DataW.weights, ht, hb])
      simp at this
      exact Nat.le_trans (Nat.mul_le_mul_right _ (by omega)) this
    have each : ∀ i, i < len → ∃ q : α × List Value, q.2.length = sz ∧ R (fun _ => True) W q.2 q.1 ∧ W.cells? base (ad.add (i * sz)) sz = some q.2 := by
      intro i hi
      obtain ⟨cs', h1, h2⟩ := hel i (by omega)
      obtain ⟨a, h3, h4⟩ := hE _ _ _ h2 (fun n hn => hw n (by
        unfold DataW.weights; rw [ht]
        refine List.mem_cons_of_mem _ (List.mem_append_left _ (weightsAll_mem (d := D i) ?_ n hn))
        exact List.mem_map.2 ⟨i, by simpa using hi, rfl⟩))
      exact ⟨(a, cs'), h3, h4, h1⟩
    obtain ⟨f, hfn⟩ := Go.Deep.choose_lt (α := α × List Value) (n := len) (p := fun i q => q.2.length = sz ∧ R (fun _ => True) W q.2 q.1 ∧ W.cells? base (ad.add (i * sz)) sz = some q.2) each
    refine ⟨_, (List.range len).map (fun i => (f i).1), hcs, .inr ⟨ad, m, by simp, by simpa using hle, by simpa using hlen, ?_⟩⟩
    by_cases hz : len = 0
    · left; subst hz; rfl
    · right
      have hcc : ∀ i, i < len → ∀ j, j < sz → W.cell? ((ad.add (i * sz)).add j) = (f i).2[j]? := fun i hi => (World.cells?_some (hfn i hi).2.2).2.2
      obtain ⟨b, off, spot⟩ := ad
      have h00 := hcc 0 (by omega) 0 h0
      rw [List.getElem?_eq_getElem (by rw [(hfn 0 (by omega)).1]; exact h0)] at h00
      have h01 : W.cell? ⟨b, off, spot⟩ = some ((f 0).2[0]'(by rw [(hfn 0 (by omega)).1]; exact h0)) := by simpa [Addr.add] using h00
      have hspot : spot = none := by simpa using World.cell?_spot h01
      subst hspot
      refine ⟨rfl, trivial, cell_ltO h01, fun i hi => ?_⟩
      have hi' : i < len := by simpa using hi
      refine ⟨(f i).2, (hfn i hi').1, by rw [List.getElem_map, List.getElem_range]; exact (hfn i hi').2.1, fun j u hu => ?_⟩
      have hj : j < sz := by have := (List.getElem?_eq_some_iff.1 hu).1; rw [(hfn i hi').1] at this; exact this
      have := hcc i hi' j hj
      rw [Go.WideShapes.add_plain, Go.WideShapes.add_plain] at this
      rw [this]; exact hu


theorem k3 : Try.prog.cellsOf 3 = 1 := by kernel_rfl
theorem k5 : Try.prog.cellsOf 5 = 1 := by kernel_rfl
theorem k22 : Try.prog.cellsOf 22 = 1 := by kernel_rfl
theorem k23 : Try.prog.cellsOf 23 = 1 := by kernel_rfl
theorem k25 : Try.prog.cellsOf 25 = 5 := by kernel_rfl
theorem y5 : Try.prog.bytesOf 5 = 1 := by kernel_rfl
theorem bounds8 {n : Int} (h : (Lit.int .u8 n).wf = true) : 0 ≤ n ∧ n ≤ 255 := by
  have h1 : IntKind.u8.min = 0 := by decide
  have h2 : IntKind.u8.max = 255 := by decide
  simp [Lit.wf] at h
  omega
theorem bounds32 {n : Int} (h : (Lit.int .u32 n).wf = true) : 0 ≤ n ∧ n < 4294967296 := by
  have h1 : IntKind.u32.min = 0 := by decide
  have h2 : IntKind.u32.max = 4294967295 := by decide
  simp [Lit.wf] at h
  omega
def ByR (S : Nat → Prop) (w : World) (cs : List Value) (x : Int) : Prop := cs = [.int .u8 x] ∧ 0 ≤ x ∧ x ≤ 255
section
variable {H : Type} {enc : TypeId × Value → H} {W : World} {base n : Nat} {held : Bool} {cs : List Value} {y : DataW H × List MemPlace}
theorem byte_open (h : DataW.trod enc Try.prog W base (fun _ => true) held n 5 cs = some y) : ∃ a : Int, cs.length = 1 ∧ ByR (fun _ => True) W cs a := by
  obtain ⟨n1, e1, _, r1⟩ := DataW.trod_int Try.underlying5 h
  exact ⟨n1, by rw [e1]; rfl, e1, bounds8 r1⟩
theorem rows_by {S : Nat → Prop} {w : World} {v : Value} {L : List Int} (h : Go.Proofs.Ytahheagfgfpdmaa.Rows 1 140737488351232 ByR S w v L) : By S w v L ∧ L.length ≤ 140737488351232 ∧ ∀ x ∈ L, 0 ≤ x ∧ x ≤ 255 := by
  have hv := Rows.val h
  obtain ⟨a, cap, e, hm, hx⟩ := Rows.any h
  subst e
  refine ⟨⟨a, cap, rfl, ?_, by omega, fun e => ?_, hx.imp id ?_⟩, hm, ?_⟩
  · rcases hv with ⟨e, e2⟩ | ⟨ad, c2, e, h2⟩
    · rw [e2]; exact Nat.zero_le _
    · injection e with _ _ e; omega
  · rcases hv with ⟨_, e2⟩ | ⟨ad, c2, e3, _⟩
    · exact e2
    · rw [e] at e3; cases e3
  · rintro ⟨g, o, e2, hS, hg, hel⟩
    refine ⟨g, o, e2, hS, hg, fun i hi => ?_⟩
    obtain ⟨cs, _, ⟨rfl, _⟩, hc⟩ := hel i hi
    have := hc 0 _ rfl
    simpa using this
  · intro x hxm
    rcases hx with rfl | ⟨g, o, e2, hS, hg, hel⟩
    · cases hxm
    · obtain ⟨i, hi, rfl⟩ := List.mem_iff_getElem.1 hxm
      obtain ⟨cs, _, ⟨_, hb⟩, _⟩ := hel i hi
      exact hb
theorem bytes_open (h : DataW.trod enc Try.prog W base (fun _ => true) held n 23 cs = some y) (hw : WOk Try.prog 23 y.1) : ∃ v L, cs = [v] ∧ By (fun _ => True) W v L ∧ L.length ≤ 140737488351232 ∧ ∀ x ∈ L, 0 ≤ x ∧ x ≤ 255 := by
  obtain ⟨v0, A, e0, h0⟩ := rows_open (R := ByR) (sz := 1) (mx := 140737488351232) (by decide) Try.underlying23 k5 y5 (fun n hn => by unfold reachBytes at hn; omega) (fun _ _ _ h w => byte_open h) h hw
  exact ⟨v0, A, e0, rows_by h0⟩
/-- A message that came in. -/
def MsR (W : World) (v : Value) (k s n u : Int) (D : List Int) : Prop := ∃ va c, v = .agg #[.int .i64 k, .int .i64 s, .int .u32 n, .int .u32 u, .slice va D.length c] ∧ By (fun _ => True) W (.slice va D.length c) D ∧ D.length ≤ 140737488351232 ∧ (0 ≤ n ∧ n < 4294967296) ∧ (0 ≤ u ∧ u < 4294967296)
set_option maxRecDepth 100000 in
theorem msg_open {ar : Array Value} (h : DataW.trod enc Try.prog W base (fun _ => true) held n 25 ar.toList = some y) (hw : WOk Try.prog 25 y.1) : ∃ k s n u D, MsR W (.agg ar) k s n u D := by
  obtain ⟨xs, kk, _, hy, hl, hlen, hf⟩ := DataW.trod_struct Try.underlying25 h
  subst hy
  rw [k25] at hl
  obtain ⟨cs⟩ := ar
  simp only at hl hf ⊢
  match cs, hl, xs, hlen with
  | [a0, a1, a2, a3, a4], _, [y0, y1, y2, y3, y4], _ =>
    have f0 : DataW.trod enc Try.prog W base (fun _ => true) held kk 3 [a0] = some y0 := by simpa [k3] using hf 0 _ rfl
    have f1 : DataW.trod enc Try.prog W base (fun _ => true) held kk 3 [a1] = some y1 := by simpa [k3] using hf 1 _ rfl
    have f2 : DataW.trod enc Try.prog W base (fun _ => true) held kk 22 [a2] = some y2 := by simpa [k22, k3] using hf 2 _ rfl
    have f3 : DataW.trod enc Try.prog W base (fun _ => true) held kk 22 [a3] = some y3 := by simpa [k22, k3] using hf 3 _ rfl
    have f4 : DataW.trod enc Try.prog W base (fun _ => true) held kk 23 [a4] = some y4 := by simpa [k22, k23, k3] using hf 4 _ rfl
    obtain ⟨n0, e0, _, r0⟩ := DataW.trod_int Try.underlying3 f0
    obtain ⟨n1, e1, _, r1⟩ := DataW.trod_int Try.underlying3 f1
    obtain ⟨n2, e2, _, r2⟩ := DataW.trod_int Try.underlying22 f2
    obtain ⟨n3, e3, _, r3⟩ := DataW.trod_int Try.underlying22 f3
    obtain ⟨v, L, e4, hB, hl4, _⟩ := bytes_open f4 (hw.field Try.underlying25 (j := 4) rfl rfl)
    simp at e0 e1 e2 e3 e4
    subst e0 e1 e2 e3 e4
    obtain ⟨a', c', e5, h5⟩ := id hB
    subst e5
    exact ⟨n0, n1, n2, n3, L, a', c', rfl, hB, hl4, bounds32 r2, bounds32 r3⟩
end
theorem bytes_arg {H : Type} {enc : TypeId × Value → H} {W : World} {base b0 : Nat} {held : Bool} {v : Value} {d : DataW H} {ps : List MemPlace} (h : DataW.Trod enc Try.prog W base (fun _ => true) held 23 v d ps) (hv : Value.okWide Try.prog W .any b0 23 v) (hw : WOk Try.prog 23 d) : ∃ a L c, v = .slice a L.length c ∧ By (fun _ => True) W (.slice a L.length c) L ∧ L.length ≤ 140737488351232 ∧ ∀ x ∈ L, 0 ≤ x ∧ x ≤ 255 := by
  obtain ⟨a, l, c, rfl⟩ := okWide_slice Try.underlying23 hv
  obtain ⟨fuel, hf⟩ := h
  obtain ⟨v, L, e, hB, hl, hr⟩ := bytes_open hf hw
  simp [Value.cells] at e
  subst e
  have hB2 := hB
  obtain ⟨a', c', e2, _⟩ := hB
  injection e2 with e2 e3 e4
  subst e2 e3 e4
  exact ⟨_, L, _, rfl, hB2, hl, hr⟩
set_option maxRecDepth 100000 in
theorem msg_arg {H : Type} {enc : TypeId × Value → H} {W : World} {base b0 : Nat} {held : Bool} {v : Value} {d : DataW H} {ps : List MemPlace} (h : DataW.Trod enc Try.prog W base (fun _ => true) held 25 v d ps) (hv : Value.okWide Try.prog W .any b0 25 v) (hw : WOk Try.prog 25 d) : ∃ k s n u D, MsR W v k s n u D := by
  obtain ⟨cs, rfl, _⟩ := okWide_struct Try.underlying25 hv
  obtain ⟨fuel, hf⟩ := h
  exact msg_open hf hw
theorem ownS : ownKnob Try.prog.godebug = none := by kernel_rfl
theorem laidOutS : laidOutB Try.prog = true := by kernel_rfl
set_option maxRecDepth 100000 in
theorem lifted (os : Os) (started : os.Started) (H : Type) (enc : TypeId × Value → H) :
    ReturnsInHanded {} Try.checked os 3 .any (Rows.wireMsgsSpec.pre6 enc Try.prog Try.f3 Rows.wireMsgsRow.domain false) (Rows.wireMsgsSpec.post enc Try.prog Try.f3 false true false false) := by
  refine returnsInHanded_of_change_sized (C := Try.checked) ownS started (by kernel_rfl) Try.func3
    (ChangeSpec.witness6 (enc := enc) (C := Try.checked) false ⟨#[], #[.agg #[.int .i64 0, .int .i64 0, .int .u32 0, .int .u32 0, .slice none 0 0], .slice none 0 0], []⟩ 8 (by kernel_rfl) (by kernel_rfl) (by kernel_rfl) (by kernel_rfl)) ?_
  intro W base args ds gs before hval0 hW hcnd hsz _
  have hval : ∀ (j : Nat) t v, Try.f3.params[j]? = some t → args[j]? = some v → Value.okWide Try.prog W .any base t v := hval0
  have hW' := hW
  obtain ⟨p, q, hA0, hV, rfl, hfz, hnd⟩ := hW
  have hA : DataW.TrodAll enc Try.prog W 0 (fun _ => true) true Try.f3.params.toList args.toList ds p := hA0
  rw [Try.params3] at hA hval hsz
  obtain ⟨v0, vs0, d0, ds0, p0, q0, hargs, rfl, rfl, h0, r0⟩ := trodAll_cons hA
  obtain ⟨v1, vs1, d1, ds1, p1, q1, rfl, rfl, rfl, h1, r1⟩ := trodAll_cons r0
  obtain ⟨rfl, rfl, rfl⟩ := trodAll_nil r1
  obtain rfl : args = #[v0, v1] := by cases args; simp_all
  obtain ⟨rfl, rfl⟩ := trodVars_none hV
  have k0 := h0
  have lt0 : ∀ x ∈ p0, x.block < W.heap.size := by obtain ⟨m, hm⟩ := k0; exact DataW.trod_lt m _ _ _ hm
  have k1 := h1
  have lt1 : ∀ x ∈ p1, x.block < W.heap.size := by obtain ⟨m, hm⟩ := k1; exact DataW.trod_lt m _ _ _ hm
  obtain ⟨k, s, n, u, D, va, c, rfl, hD, lD, ⟨n0, n1⟩, u0, u1⟩ := msg_arg h0 (hval 0 25 v0 rfl rfl) (wok_of_each hsz (j := 0) rfl rfl)
  obtain ⟨vb, L, cb, rfl, hL, lL, rL⟩ := bytes_arg h1 (hval 1 23 v1 rfl rfl) (wok_of_each hsz (j := 1) rfl rfl)
  clear hA0 hval0
  refine (law_any D L k s n u D.length c L.length cb va vb W rfl rfl hD hL rL n0 n1 u0 u1 (by omega) (by omega)).mono fun e W' ⟨he, bel⟩ => ?_
  subst he
  exact ⟨_, rfl, _, _, _, [], _, [], hW', trodAll_mk1 (shut_bool Try.underlying4 _), (trodAll_cons_mk (Below.trod laidOutS (by kernel_rfl) (of_decide_eq_true (by kernel_rfl)) k0 bel lt0) (trodAll_cons_mk (Below.trod laidOutS (by kernel_rfl) (of_decide_eq_true (by kernel_rfl)) k1 bel lt1) trodAll_mk0)), rfl, bel.frame _, fun h => by cases h⟩
theorem wireMsgs_holds : Rows.WireMsgsSaid :=
  OpenClaim.holds_of_wide 3 Try.f3 rfl rfl rfl rfl rfl rfl rfl ⟨rfl, rfl, rfl, rfl, rfl⟩ rfl rfl rfl rfl rfl (by kernel_rfl) Try.func3 (by kernel_rfl)
    (of_decide_eq_true (by kernel_rfl)) (by unfold Func.isWrapper; first | (rw [if_pos (by decide +kernel)]; kernel_rfl) | (rw [if_neg (by decide +kernel)]; exact ⟨rfl, rfl⟩))
    (fun os started H enc _ => lifted os started H enc)
end Go.Proofs.Ytahheagfgfpdmaa
