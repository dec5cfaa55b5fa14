import Derived.Test.YtjohnhaahpggkabDoorBkT
import Derived.ShutString
import Derived.ChangeOld
import Derived.ChangeArms
import Derived.SizedLaws
import Derived.Deep.Slices
namespace Go.Proofs.YtjohnhaahpggkabDoor
open Go.ChangeShapes Go.WideShapes Go.ChangeAt Go.RowKit
set_option linter.unusedVariables false
set_option linter.unusedSimpArgs false

theorem c31 : Tryd.prog.cellsOf 31 = 3 := by kernel_rfl
theorem c3 : Tryd.prog.cellsOf 3 = 1 := by kernel_rfl
theorem b31 : Tryd.prog.bytesOf 31 = 32 := by kernel_rfl
def Pc.cs (p : Pc) : List Value := [.int .i64 p.wh, .int .i64 p.n, .string p.tx]

theorem wf_i64 {n : Int} (h : (Lit.int .i64 n).wf = true) : -9223372036854775808 ≤ n ∧ n < 9223372036854775808 := by
  have := bounds_i64 h
  omega

set_option maxRecDepth 100000 in
theorem piece_cells {H : Type} {enc : TypeId × Value → H} {W : World} {base n : Nat} {spare : Nat → Bool} {held : Bool} {cs : List Value} {x : DataW H × List MemPlace} (h : DataW.trod enc Tryd.prog W base spare held n 31 cs = some x) :
    ∃ p : Pc, cs = p.cs ∧ (-9223372036854775808 ≤ p.wh ∧ p.wh < 9223372036854775808) ∧ (-9223372036854775808 ≤ p.n ∧ p.n < 9223372036854775808) ∧ p.tx.size ∈ x.1.weights Tryd.prog 31 := by
  obtain ⟨xs, k, _, hx, hl, hlen, hf⟩ := DataW.trod_struct Tryd.underlying31 h
  rw [c31] at hl
  match cs, hl, xs, hlen with
  | [a0, a1, a2], _, [y0, y1, y2], _ =>
    have f0 : DataW.trod enc Tryd.prog W base spare held k 3 [a0] = some y0 := by simpa [c3] using hf 0 _ rfl
    have f1 : DataW.trod enc Tryd.prog W base spare held k 3 [a1] = some y1 := by simpa [c3] using hf 1 _ rfl
    have f2 : DataW.trod enc Tryd.prog W base spare held k 9 [a2] = some y2 := by simpa [c9] using hf 2 _ rfl
    obtain ⟨n0, e0, x0, g0⟩ := DataW.trod_int Tryd.underlying3 f0
    obtain ⟨n1, e1, x1, g1⟩ := DataW.trod_int Tryd.underlying3 f1
    obtain ⟨s2, e2, x2, _⟩ := DataW.trod_string Tryd.underlying9 f2
    simp at e0 e1 e2
    subst e0 e1 e2 x0 x1 x2 hx
    refine ⟨⟨n0, n1, s2⟩, rfl, wf_i64 g0, wf_i64 g1, ?_⟩
    simp [DataW.weights, DataW.weightsEach, Tryd.underlying31]

theorem weightsAll_mem {H : Type} {P : Program} {e : TypeId} : ∀ {l : List (DataW H)} {d : DataW H}, d ∈ l → ∀ n ∈ d.weights P e, n ∈ DataW.weightsAll P e l
  | d' :: r, d, hd, n, hn => by
    simp only [DataW.weightsAll, List.mem_append]
    rcases List.mem_cons.1 hd with rfl | h
    · exact Or.inl hn
    · exact Or.inr (weightsAll_mem h n hn)

/-- An argument that is a list of pieces. -/
theorem pieces_open {H : Type} {enc : TypeId × Value → H} {W : World} {base : Nat} {held : Bool} {v : Value} {d : DataW H} {ps : List MemPlace} (h : DataW.Trod enc Tryd.prog W base (fun _ => true) held 22 v d ps) (hv : ∃ a len cap, v = .slice a len cap) (hw : ∀ n ∈ d.weights Tryd.prog 22, n ≤ reachBytes) :
    ∃ L : List Pc, Pl W v L ∧ (∀ p ∈ L, p.Ok) ∧ L.length ≤ 4611686018427387904 := by
  obtain ⟨a0, len0, cap0, rfl⟩ := hv
  obtain ⟨fuel, hf⟩ := h
  rcases Go.Deep.open_slice Tryd.underlying22 hf with ⟨hcs, _⟩ | ⟨ad, len, cap, m, n, D, Pl', hcs, _, hl, hm, hmm, hx, hel⟩
  · simp [Value.cells] at hcs
    obtain ⟨rfl, rfl, rfl⟩ := hcs
    exact ⟨[], ⟨none, 0, rfl, .inl rfl⟩, (fun p hp => by cases hp), by simp⟩
  · simp [Value.cells] at hcs
    obtain ⟨rfl, rfl, rfl⟩ := hcs
    simp only [if_true] at hmm
    subst hmm
    rw [c31] at hel
    injection hx with hx1 hx2
    subst hx1
    have hall : ∀ i, i < len0 → ∀ q ∈ (D i).weights Tryd.prog 31, q ≤ reachBytes := fun i hi q hq => hw q (by
      simp only [DataW.weights, Tryd.underlying22, List.mem_cons, List.mem_append]
      exact Or.inr (Or.inl (weightsAll_mem (List.mem_map.2 ⟨i, List.mem_range.2 hi, rfl⟩) q hq)))
    have hlen : len0 * 32 ≤ reachBytes := by
      have := hw ((len0 + (m - len0)) * 32) (by simp [DataW.weights, Tryd.underlying22, b31])
      have : len0 * 32 ≤ (len0 + (m - len0)) * 32 := Nat.mul_le_mul_right _ (by omega)
      omega
    have each : ∀ i, i < len0 → ∃ p : Pc, W.cells? base (ad.add (i * 3)) 3 = some p.cs ∧ p.Ok := by
      intro i hi
      obtain ⟨cs', h1, h2⟩ := hel i (by omega)
      obtain ⟨p, rfl, g1, g2, g3⟩ := piece_cells h2
      refine ⟨p, h1, g1, g2, ?_⟩
      have := hall i hi _ g3
      simp only [reachBytes] at this
      omega
    haveI : Inhabited Pc := ⟨⟨0, 0, ⟨#[]⟩⟩⟩
    obtain ⟨f, hfn⟩ := Go.Deep.choose_lt (α := Pc) (n := len0) (p := fun i p => W.cells? base (ad.add (i * 3)) 3 = some p.cs ∧ p.Ok) each
    refine ⟨(List.range len0).map f, ?_, ?_, ?_⟩
    · refine ⟨some ad, _, by simp; rfl, ?_⟩
      by_cases h0 : len0 = 0
      · left; subst h0; rfl
      · right
        have hc : ∀ i, i < len0 → ∀ j, j < 3 → W.cell? ((ad.add (i * 3)).add j) = (f i).cs[j]? := fun i hi => (World.cells?_some (hfn i hi).1).2.2
        obtain ⟨b, off, spot⟩ := ad
        have h00 : W.cell? ⟨b, off, spot⟩ = some (.int .i64 (f 0).wh) := by
          have := hc 0 (by omega) 0 (by omega)
          simpa [Addr.add, Pc.cs] using this
        have hspot : spot = none := by simpa using World.cell?_spot h00
        subst hspot
        refine ⟨b, off, rfl, lt_of_cell h00, fun i hi => ?_⟩
        have hi' : i < len0 := by simpa using hi
        have key : ∀ j u, j < 3 → (f i).cs[j]? = some u → W.cell? ⟨b, off + i * 3 + j, none⟩ = some u := by
          intro j u hj hu
          have := hc i hi' j hj
          rw [Go.WideShapes.add_plain, Go.WideShapes.add_plain] at this
          rw [this]; exact hu
        rw [List.getElem_map, List.getElem_range]
        exact ⟨key 0 _ (by omega) rfl, key 1 _ (by omega) rfl, key 2 _ (by omega) rfl⟩
    · intro p hp
      obtain ⟨i, hi, rfl⟩ := List.mem_map.1 hp
      exact (hfn i (List.mem_range.1 hi)).2
    · simp only [reachBytes] at hlen
      simp; omega
end Go.Proofs.YtjohnhaahpggkabDoor
