import Derived.Test.YtbfojlfdiallnaaNesL
import Derived.Test.YtbfojlfdiallnaaRows
import Derived.ProofKit
import Derived.OpenShut
import Derived.ChangeOld
import Derived.SizedLaws
import Derived.ChangeArms
import Derived.Deep.Slices
namespace Go.Proofs.Ytbfojlfdiallnaa
open Go.ChangeShapes Go.WideShapes Go.ChangeAt Go.RowKit
set_option linter.unusedVariables false

theorem own : ownKnob Try.prog.godebug = none := by kernel_rfl
theorem laidOut : laidOutB Try.prog = true := by kernel_rfl
theorem c41 : Try.prog.cellsOf 41 = 5 := by kernel_rfl
theorem c39 : Try.prog.cellsOf 39 = 2 := by kernel_rfl
theorem c3 : Try.prog.cellsOf 3 = 1 := by kernel_rfl
theorem c21 : Try.prog.cellsOf 21 = 1 := by kernel_rfl
theorem c9 : Try.prog.cellsOf 9 = 1 := by kernel_rfl
theorem b41 : Try.prog.bytesOf 41 = 48 := by kernel_rfl


set_option maxRecDepth 100000 in
theorem node_cells {H : Type} {enc : TypeId × Value → H} {W : World} {base n : Nat} {spare : Nat → Bool} {held : Bool} {cs : List Value} {x : DataW H × List MemPlace} (h : DataW.trod enc Try.prog W base spare held n 41 cs = some x) : ∃ nd : Nd, cs = nd.cs := by
  obtain ⟨xs, k, _, _, hl, hlen, hf⟩ := DataW.trod_struct Try.underlying41 h
  rw [c41] at hl
  match cs, hl, xs, hlen with
  | [a0, a1, a2, a3, a4], _, [y0, y1, y2, y3], _ =>
    have f0 : DataW.trod enc Try.prog W base spare held k 3 [a0] = some y0 := by simpa [c3] using hf 0 _ rfl
    have f1 : DataW.trod enc Try.prog W base spare held k 21 [a1] = some y1 := by simpa [c21] using hf 1 _ rfl
    have f2 : DataW.trod enc Try.prog W base spare held k 9 [a2] = some y2 := by simpa [c9] using hf 2 _ rfl
    have f3 : DataW.trod enc Try.prog W base spare held k 39 [a3, a4] = some y3 := by simpa [c39] using hf 3 _ rfl
    obtain ⟨n0, e0, _⟩ := DataW.trod_int Try.underlying3 f0
    obtain ⟨n1, e1, _⟩ := DataW.trod_int Try.underlying21 f1
    obtain ⟨s2, e2, _⟩ := DataW.trod_string Try.underlying9 f2
    obtain ⟨zs, k3, _, _, _, hlen3, hf3⟩ := DataW.trod_struct Try.underlying39 f3
    match zs, hlen3 with
    | [z0, z1], _ =>
      have g0 : DataW.trod enc Try.prog W base spare held k3 3 [a3] = some z0 := by simpa [c3] using hf3 0 _ rfl
      have g1 : DataW.trod enc Try.prog W base spare held k3 3 [a4] = some z1 := by simpa [c3] using hf3 1 _ rfl
      obtain ⟨n3, e3, _⟩ := DataW.trod_int Try.underlying3 g0
      obtain ⟨n4, e4, _⟩ := DataW.trod_int Try.underlying3 g1
      simp at e0 e1 e2 e3 e4
      subst e0 e1 e2 e3 e4
      exact ⟨⟨n0, n1, s2, n3, n4⟩, rfl⟩

theorem cell_lt {w : World} {b o : Nat} {v : Value} (h : w.cell? ⟨b, o, none⟩ = some v) : b < w.heap.size := by
  rcases Nat.lt_or_ge b w.heap.size with h0 | h0
  · exact h0
  · have : w.heap[b]? = none := by simp [h0]
    simp [World.cell?, this] at h

/-- An argument that is a list of nodes. -/
theorem nodes_open {H : Type} {enc : TypeId × Value → H} {W : World} {base : Nat} {held : Bool} {v : Value} {d : DataW H} {ps : List MemPlace} (h : DataW.Trod enc Try.prog W base (fun _ => true) held 22 v d ps) (hv : ∃ a len cap, v = .slice a len cap) :
    ∃ L : List Nd, Nds W v L ∧ (v = .slice none 0 0 ∨ ∃ ad cap, v = .slice (some ad) L.length cap) ∧ (L = [] ∨ ∃ el sp, d = .slice el sp ∧ el.length = L.length) := by
  obtain ⟨a0, len0, cap0, rfl⟩ := hv
  obtain ⟨fuel, hf⟩ := h
  rcases Go.Deep.open_slice Try.underlying22 hf with ⟨hcs, _⟩ | ⟨ad, len, cap, m, n, D, Pl, hcs, _, hl, hm, hmm, hx, hel⟩
  · simp [Value.cells] at hcs
    obtain ⟨rfl, rfl, rfl⟩ := hcs
    exact ⟨[], ⟨none, 0, rfl, .inl rfl⟩, .inl rfl, .inl rfl⟩
  · simp [Value.cells] at hcs
    obtain ⟨rfl, rfl, rfl⟩ := hcs
    simp only [if_true] at hmm
    subst hmm
    rw [c41] at hel
    have each : ∀ i, i < len0 → ∃ nd : Nd, W.cells? base (ad.add (i * 5)) 5 = some nd.cs := by
      intro i hi
      obtain ⟨cs', h1, h2⟩ := hel i (by omega)
      obtain ⟨nd, rfl⟩ := node_cells h2
      exact ⟨nd, h1⟩
    haveI : Inhabited Nd := ⟨⟨0, 0, ⟨#[]⟩, 0, 0⟩⟩
    obtain ⟨f, hfn⟩ := Go.Deep.choose_lt (α := Nd) (n := len0) (p := fun i nd => W.cells? base (ad.add (i * 5)) 5 = some nd.cs) each
    refine ⟨(List.range len0).map f, ?_, .inr ⟨ad, _, by simp; rfl⟩, ?_⟩
    · refine ⟨some ad, _, by simp; rfl, ?_⟩
      by_cases h0 : len0 = 0
      · left; subst h0; rfl
      · right
        have hc : ∀ i, i < len0 → ∀ j, j < 5 → W.cell? ((ad.add (i * 5)).add j) = (f i).cs[j]? := fun i hi => (World.cells?_some (hfn i hi)).2.2
        obtain ⟨b, off, spot⟩ := ad
        have h00 : W.cell? ⟨b, off, spot⟩ = some (.int .i64 (f 0).op) := by
          have := hc 0 (by omega) 0 (by omega)
          simpa [Addr.add, Nd.cs] using this
        have hspot : spot = none := by simpa using World.cell?_spot h00
        subst hspot
        refine ⟨b, off, rfl, cell_lt h00, fun i hi => ?_⟩
        have hi' : i < len0 := by simpa using hi
        have key : ∀ j u, j < 5 → (f i).cs[j]? = some u → W.cell? ⟨b, off + i * 5 + j, none⟩ = some u := by
          intro j u hj hu
          have := hc i hi' j hj
          rw [Go.WideShapes.add_plain, Go.WideShapes.add_plain] at this
          rw [this]; exact hu
        rw [List.getElem_map, List.getElem_range]
        exact ⟨key 0 _ (by omega) rfl, key 1 _ (by omega) rfl, key 2 _ (by omega) rfl, key 3 _ (by omega) rfl, key 4 _ (by omega) rfl⟩
    · right
      injection hx with hx1 hx2
      exact ⟨_, _, hx1, by simp⟩

set_option maxRecDepth 100000 in
theorem lifted (os : Os) (started : os.Started) (H : Type) (enc : TypeId × Value → H) :
    ReturnsInHanded {} Try.checked os 3 .any (Rows.treeMeasuresSpec.pre6 enc Try.prog Try.f3 Rows.treeMeasuresRow.domain false) (Rows.treeMeasuresSpec.post enc Try.prog Try.f3 false true false false) := by
  refine returnsInHanded_of_change_sized (C := Try.checked) own started (by kernel_rfl) Try.func3
    (ChangeSpec.witness6 (enc := enc) (C := Try.checked) false ⟨#[], #[.slice none 0 0, .int .i64 0], []⟩ 8 (by kernel_rfl) (by kernel_rfl) (by kernel_rfl) (by kernel_rfl)) ?_
  intro W base args ds gs before hval0 hW hcnd hsz _
  have hval : ∀ (j : Nat) t v, Try.f3.params[j]? = some t → args[j]? = some v → Value.okWide Try.prog W .any base t v := hval0
  have hW' := hW
  obtain ⟨p, q, hA0, hV, rfl, hfz, hnd⟩ := hW
  have hA : DataW.TrodAll enc Try.prog W 0 (fun _ => true) true Try.f3.params.toList args.toList ds p := hA0
  rw [Try.params3] at hA hval hsz
  obtain ⟨v0, vs0, d0, ds0, p0, q0, hargs, rfl, rfl, h0, r0⟩ := trodAll_cons hA
  obtain ⟨v1, vs1, d1, ds1, p1, q1, rfl, rfl, rfl, h1, r1⟩ := trodAll_cons r0
  obtain ⟨rfl, rfl, rfl⟩ := trodAll_nil r1
  obtain rfl : args = #[v0, v1] := by cases args; simp_all
  obtain ⟨rfl, rfl⟩ := trodVars_none hV
  have k0 := h0
  have k1 := h1
  have lt0 : ∀ x ∈ p0, x.block < W.heap.size := by obtain ⟨m, hm⟩ := k0; exact DataW.trod_lt m _ _ _ hm
  have lt1 : ∀ x ∈ p1, x.block < W.heap.size := by obtain ⟨m, hm⟩ := k1; exact DataW.trod_lt m _ _ _ hm
  obtain ⟨L, hN, hnil, hd⟩ := nodes_open h0 (okWide_slice Try.underlying22 (hval 0 22 v0 rfl rfl))
  obtain ⟨i, rfl, _, _, wi⟩ := open_int Try.underlying3 (hval 1 3 v1 rfl rfl) h1
  have hbi := bounds_i64 wi
  have hlim : L.length ≤ 2932031007317 := by
    rcases hd with h | ⟨el, sp, rfl, hl⟩
    · rw [h]; simp
    · have hreach := sized_slice hsz (j := 0) (t := 22) (e := 41) rfl rfl Try.underlying22
      rw [show Try.checked.prog.bytesOf 41 = 48 from b41] at hreach
      simp only [reachBytes] at hreach
      omega
  clear hA0 hval0
  refine (measures L v0 i W hN hnil hlim (by omega) (by omega)).mono fun e W' ⟨he, bel⟩ => ?_
  subst he
  exact ⟨_, rfl, _, _, _, [], _, [], hW', trodAll_mk1 (shut_bool Try.underlying4 _), (trodAll_cons_mk (Below.trod laidOut (by kernel_rfl) (of_decide_eq_true (by kernel_rfl)) k0 bel lt0) (trodAll_cons_mk (Below.trod laidOut (by kernel_rfl) (of_decide_eq_true (by kernel_rfl)) k1 bel lt1) trodAll_mk0)), rfl, bel.frame _, fun h => by cases h⟩

theorem treeMeasures_holds : Rows.TreeMeasuresSaid :=
  OpenClaim.holds_of_wide 3 Try.f3 rfl rfl rfl rfl rfl rfl rfl ⟨rfl, rfl, rfl, rfl, rfl⟩ rfl rfl rfl rfl rfl (by kernel_rfl) Try.func3 (by kernel_rfl)
    (of_decide_eq_true (by kernel_rfl)) (by unfold Func.isWrapper; first | (rw [if_pos (by decide +kernel)]; kernel_rfl) | (rw [if_neg (by decide +kernel)]; exact ⟨rfl, rfl⟩))
    (fun os started H enc _ => lifted os started H enc)
#print axioms treeMeasures_holds
end Go.Proofs.Ytbfojlfdiallnaa
