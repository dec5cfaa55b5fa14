import Derived.Test.YtnicolaphmffkaaDoorNesB
namespace Go.Proofs.YtnicolaphmffkaaDoor
open Go.RowKit
set_option linter.unusedVariables false

/-- A node's five cells. -/
def Nd.cs (x : Nd) : List Value := [.int .i64 x.op, .int .i32 x.val, .string x.name, .int .i64 x.line, .int .i64 x.col]
def cellsN (L : List Nd) : List Value := L.flatMap Nd.cs
theorem cellsN_len (L : List Nd) : (cellsN L).length = L.length * 5 := by
  induction L with
  | nil => rfl
  | cons x L ih => unfold cellsN at *; rw [List.flatMap_cons, List.length_append, ih]; simp [Nd.cs]; omega
theorem cellsN_append (S T : List Nd) : cellsN (S ++ T) = cellsN S ++ cellsN T := by unfold cellsN; simp
theorem cellsN_get : ∀ (S : List Nd) (i j : Nat) (h : i < S.length), j < 5 → (cellsN S)[i * 5 + j]? = (S[i].cs)[j]? := by
  intro S
  induction S with
  | nil => intro i j h; simp at h
  | cons x S ih =>
    intro i j h hj
    have e : cellsN (x :: S) = x.cs ++ cellsN S := by unfold cellsN; rw [List.flatMap_cons]
    have hl : x.cs.length = 5 := rfl
    rw [e]
    cases i with
    | zero => rw [List.getElem?_append_left (by rw [hl]; omega)]; simp
    | succ i =>
      rw [List.getElem?_append_right (by rw [hl]; omega), hl, show (i + 1) * 5 + j - 5 = i * 5 + j by omega, ih i j (by simpa using h) hj]
      simp
theorem cellsN_one (L : List Nd) : ∀ u ∈ cellsN L, u.oneCell' = true := by
  intro u hu
  unfold cellsN at hu
  obtain ⟨x, _, hx⟩ := List.mem_flatMap.1 hu
  unfold Nd.cs at hx
  simp at hx
  rcases hx with rfl | rfl | rfl | rfl | rfl <;> rfl
/-- An own list, cut, as it is read. -/
theorem nds_of {w : World} {base g cap n c' : Nat} {L : List Nd} (h : w.ownsRow base 107 5 (.slice (some ⟨g, 0, none⟩) L.length cap) L.length (cellsN L)) (hn : n ≤ L.length) :
    Nds w (.slice (some ⟨g, 0, none⟩) n c') (L.take n) := by
  refine ⟨_, c', by rw [List.length_take, Nat.min_eq_left hn], .inr ⟨g, 0, rfl, (own_lt h g rfl).2, fun i hi => ?_⟩⟩
  have hi' : i < L.length := by simp at hi; omega
  have key : ∀ j u, j < 5 → (L[i].cs)[j]? = some u → w.cell? ⟨g, i * 5 + j, none⟩ = some u := by
    intro j u hj hu
    rw [h.cellAt _ (by omega), cellsN_get L i j hi' hj]; exact hu
  rw [List.getElem_take]
  simp only [Nat.zero_add]
  exact ⟨key 0 _ (by omega) rfl, key 1 _ (by omega) rfl, key 2 _ (by omega) rfl, key 3 _ (by omega) rfl, key 4 _ (by omega) rfl⟩
theorem nds_news {w : World} {ad : Addr} {cap : Nat} {L : List Nd} (h : Nds w (.slice (some ad) L.length cap) L) : ∀ j u, (cellsN L)[j]? = some u → w.cell? (ad.add j) = some u := by
  intro j u hu
  have hj : j < L.length * 5 := by rw [← cellsN_len]; exact (List.getElem?_eq_some_iff.1 hu).1
  obtain ⟨a, c, e, hx⟩ := h
  cases e
  obtain ⟨g', o', e, hg, hC⟩ := hx.resolve_left (by intro h; rw [h] at hj; simp at hj)
  cases e
  have hi : j / 5 < L.length := by omega
  have hm : j % 5 < 5 := Nat.mod_lt _ (by omega)
  have hjj : j = j / 5 * 5 + j % 5 := by omega
  rw [hjj, cellsN_get L (j / 5) (j % 5) hi hm] at hu
  obtain ⟨h0, h1, h2, h3, h4⟩ := hC (j / 5) hi
  rw [Go.WideShapes.add_plain, hjj, ← Nat.add_assoc]
  generalize j / 5 = q at *
  have : j % 5 = 0 ∨ j % 5 = 1 ∨ j % 5 = 2 ∨ j % 5 = 3 ∨ j % 5 = 4 := by omega
  rcases this with e | e | e | e | e <;> rw [e] at hu ⊢ <;> simp [Nd.cs] at hu <;> subst hu
  · exact h0
  · exact h1
  · exact h2
  · exact h3
  · exact h4

theorem info41 : (Tryd.prog.info? 107).map (fun i => (i.zero, i.size, i.bytes)) = some (some (.agg #[.int .i64 0, .int .i32 0, .string ⟨#[]⟩, .int .i64 0, .int .i64 0]), 5, 48) := by kernel_rfl
theorem grown_belowE {B : Nat} {w A C : World} {row : Option Nat} (h : Below B w A) (hg : A.grownBy C row) (hs : B ≤ w.heap.size) (hr : ∀ k, row = some k → B ≤ k) : Below B w C :=
  h.trans ⟨hg.os, hg.tape, hg.output, hg.size, fun k hk => hg.block k (by have := h.size; omega) (by intro e; have := hr k e.symm; omega)⟩

theorem cells_ten {W : World} (xs : List Value) (t : TypeId) : ∀ j u, xs[j]? = some u → (W.alloc (.cells xs.toArray t)).cell? ((⟨W.heap.size, 0, none⟩ : Addr).add j) = some u := by
  intro j u h
  have := (Has.new W xs.toArray t rfl).2.1 j
  have e : ((⟨W.heap.size, 0, none⟩ : Addr).add j) = ⟨W.heap.size, j, none⟩ := by
    rw [Go.WideShapes.add_plain, Nat.zero_add]
  rw [e, this]
  simpa using h

/-- The two marks. -/
def mark (n : Int) : Nd := ⟨0, n, ⟨#[114, 111, 111, 109]⟩, 0, 0⟩
def full (L : List Nd) : List Nd := L ++ [mark 55, mark 56]

end Go.Proofs.YtnicolaphmffkaaDoor
