import Derived.Test.YtjohnhaahpggkabDoorJnT
import Derived.ShutString
import Derived.ChangeOld
import Derived.ChangeArms
import Derived.SizedLaws
import Derived.Deep.Slices
namespace Go.Proofs.YtjohnhaahpggkabDoor
open Go.ChangeShapes Go.WideShapes Go.ChangeAt Go.RowKit
set_option linter.unusedVariables false
set_option linter.unusedSimpArgs false

theorem c27 : Tryd.prog.cellsOf 27 = 5 := by kernel_rfl
theorem c25 : Tryd.prog.cellsOf 25 = 2 := by kernel_rfl
theorem c3 : Tryd.prog.cellsOf 3 = 1 := by kernel_rfl
theorem c21 : Tryd.prog.cellsOf 21 = 1 := by kernel_rfl
theorem b27 : Tryd.prog.bytesOf 27 = 48 := by kernel_rfl
theorem wf_i32 {n : Int} (h : (Lit.int .i32 n).wf = true) : -2147483648 ≤ n ∧ n ≤ 2147483647 := by
  have := bounds_i32 h
  omega

set_option maxRecDepth 100000 in
theorem tok_cells {H : Type} {enc : TypeId × Value → H} {W : World} {base n : Nat} {spare : Nat → Bool} {held : Bool} {cs : List Value} {x : DataW H × List MemPlace} (h : DataW.trod enc Tryd.prog W base spare held n 27 cs = some x) :
    ∃ p : Tq, cs = p.cs ∧ (-2147483648 ≤ p.n ∧ p.n ≤ 2147483647) ∧ p.tx.size ∈ x.1.weights Tryd.prog 27 := by
  obtain ⟨xs, k, _, hx, hl, hlen, hf⟩ := DataW.trod_struct Tryd.underlying27 h
  rw [c27] at hl
  match cs, hl, xs, hlen with
  | [a0, a1, a2, a3, a4], _, [y0, y1, y2, y3], _ =>
    have f0 : DataW.trod enc Tryd.prog W base spare held k 3 [a0] = some y0 := by simpa [c3] using hf 0 _ rfl
    have f1 : DataW.trod enc Tryd.prog W base spare held k 21 [a1] = some y1 := by simpa [c21] using hf 1 _ rfl
    have f2 : DataW.trod enc Tryd.prog W base spare held k 9 [a2] = some y2 := by simpa [c9] using hf 2 _ rfl
    have f3 : DataW.trod enc Tryd.prog W base spare held k 25 [a3, a4] = some y3 := by simpa [c25] using hf 3 _ rfl
    obtain ⟨n0, e0, x0, _⟩ := DataW.trod_int Tryd.underlying3 f0
    obtain ⟨n1, e1, x1, g1⟩ := DataW.trod_int Tryd.underlying21 f1
    obtain ⟨s2, e2, x2, _⟩ := DataW.trod_string Tryd.underlying9 f2
    obtain ⟨zs, k3, _, _, _, hlen3, hf3⟩ := DataW.trod_struct Tryd.underlying25 f3
    match zs, hlen3 with
    | [z0, z1], _ =>
      have g0 : DataW.trod enc Tryd.prog W base spare held k3 3 [a3] = some z0 := by simpa [c3] using hf3 0 _ rfl
      have g2 : DataW.trod enc Tryd.prog W base spare held k3 3 [a4] = some z1 := by simpa [c3] using hf3 1 _ rfl
      obtain ⟨n3, e3, _⟩ := DataW.trod_int Tryd.underlying3 g0
      obtain ⟨n4, e4, _⟩ := DataW.trod_int Tryd.underlying3 g2
      simp at e0 e1 e2 e3 e4
      subst e0 e1 e2 e3 e4 x0 x1 x2 hx
      refine ⟨⟨n0, n1, s2, n3, n4⟩, rfl, wf_i32 g1, ?_⟩
      simp [DataW.weights, DataW.weightsEach, Tryd.underlying27]
theorem weightsAll_mem {H : Type} {P : Program} {e : TypeId} : ∀ {l : List (DataW H)} {d : DataW H}, d ∈ l → ∀ n ∈ d.weights P e, n ∈ DataW.weightsAll P e l
  | d' :: r, d, hd, n, hn => by
    simp only [DataW.weightsAll, List.mem_append]
    rcases List.mem_cons.1 hd with rfl | h
    · exact Or.inl hn
    · exact Or.inr (weightsAll_mem h n hn)
/-- An argument that is a list of tokens. -/
theorem toks_open {H : Type} {enc : TypeId × Value → H} {W : World} {base : Nat} {held : Bool} {v : Value} {d : DataW H} {ps : List MemPlace} (h : DataW.Trod enc Tryd.prog W base (fun _ => true) held 23 v d ps) (hv : ∃ a len cap, v = .slice a len cap) (hw : ∀ n ∈ d.weights Tryd.prog 23, n ≤ reachBytes) :
    ∃ L : List Tq, Tqs W v L ∧ (v = .slice none 0 0 ∨ ∃ ad c, v = .slice (some ad) L.length c) ∧ (∀ p ∈ L, p.Ok) ∧ L.length ≤ 2932031007317 := by
  obtain ⟨a0, len0, cap0, rfl⟩ := hv
  obtain ⟨fuel, hf⟩ := h
  rcases Go.Deep.open_slice Tryd.underlying23 hf with ⟨hcs, _⟩ | ⟨ad, len, cap, m, n, D, Pl', hcs, _, hl, hm, hmm, hx, hel⟩
  · simp [Value.cells] at hcs
    obtain ⟨rfl, rfl, rfl⟩ := hcs
    exact ⟨[], ⟨none, 0, rfl, .inl rfl⟩, .inl rfl, (fun p hp => by cases hp), by simp⟩
  · simp [Value.cells] at hcs
    obtain ⟨rfl, rfl, rfl⟩ := hcs
    simp only [if_true] at hmm
    subst hmm
    rw [c27] at hel
    injection hx with hx1 hx2
    subst hx1
    have hall : ∀ i, i < len0 → ∀ q ∈ (D i).weights Tryd.prog 27, q ≤ reachBytes := fun i hi q hq => hw q (by
      simp only [DataW.weights, Tryd.underlying23, List.mem_cons, List.mem_append]
      exact Or.inr (Or.inl (weightsAll_mem (List.mem_map.2 ⟨i, List.mem_range.2 hi, rfl⟩) q hq)))
    have hlen : len0 * 48 ≤ reachBytes := by
      have := hw ((len0 + (m - len0)) * 48) (by simp [DataW.weights, Tryd.underlying23, b27])
      have : len0 * 48 ≤ (len0 + (m - len0)) * 48 := Nat.mul_le_mul_right _ (by omega)
      omega
    have each : ∀ i, i < len0 → ∃ p : Tq, W.cells? base (ad.add (i * 5)) 5 = some p.cs ∧ p.Ok := by
      intro i hi
      obtain ⟨cs', h1, h2⟩ := hel i (by omega)
      obtain ⟨p, rfl, g1, g3⟩ := tok_cells h2
      refine ⟨p, h1, g1, ?_⟩
      have := hall i hi _ g3
      simp only [reachBytes] at this
      omega
    haveI : Inhabited Tq := ⟨⟨0, 0, ⟨#[]⟩, 0, 0⟩⟩
    obtain ⟨f, hfn⟩ := Go.Deep.choose_lt (α := Tq) (n := len0) (p := fun i p => W.cells? base (ad.add (i * 5)) 5 = some p.cs ∧ p.Ok) each
    refine ⟨(List.range len0).map f, ?_, .inr ⟨ad, _, by simp; rfl⟩, ?_, ?_⟩
    · refine ⟨some ad, _, by simp; rfl, ?_⟩
      by_cases h0 : len0 = 0
      · left; subst h0; rfl
      · right
        have hc : ∀ i, i < len0 → ∀ j, j < 5 → W.cell? ((ad.add (i * 5)).add j) = (f i).cs[j]? := fun i hi => (World.cells?_some (hfn i hi).1).2.2
        obtain ⟨b, off, spot⟩ := ad
        have h00 : W.cell? ⟨b, off, spot⟩ = some (.int .i64 (f 0).k) := by
          have := hc 0 (by omega) 0 (by omega)
          simpa [Addr.add, Tq.cs] using this
        have hspot : spot = none := by simpa using World.cell?_spot h00
        subst hspot
        refine ⟨b, off, rfl, lt_of_cell h00, fun i hi => ?_⟩
        have hi' : i < len0 := by simpa using hi
        have key : ∀ j u, j < 5 → (f i).cs[j]? = some u → W.cell? ⟨b, off + i * 5 + j, none⟩ = some u := by
          intro j u hj hu
          have := hc i hi' j hj
          rw [Go.WideShapes.add_plain, Go.WideShapes.add_plain] at this
          rw [this]; exact hu
        rw [List.getElem_map, List.getElem_range]
        exact ⟨key 0 _ (by omega) rfl, key 1 _ (by omega) rfl, key 2 _ (by omega) rfl, key 3 _ (by omega) rfl, key 4 _ (by omega) rfl⟩
    · intro p hp
      obtain ⟨i, hi, rfl⟩ := List.mem_map.1 hp
      exact (hfn i (List.mem_range.1 hi)).2
    · simp only [reachBytes] at hlen
      simp; omega
end Go.Proofs.YtjohnhaahpggkabDoor
