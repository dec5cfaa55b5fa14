import Derived.Test.YtjohnhaahpggkaaDoorRefE
import Derived.Test.YtjohnhaahpggkaaDoorAlk
namespace Go.Proofs.YtjohnhaahpggkaaDoor
open Go.RowKit
set_option linter.unusedVariables false

/-- The tokens that an answer lists. -/
def ansL (ts : List Tok) (z : Tok) : List Tok := if z.t.kind = -1 then [] else ts ++ [z]
def ansF (z : Tok) : Array Value := if z.t.kind = -1 then #[.int .i64 z.t.num, .int .i64 z.line, .int .i64 z.col] else #[.int .i64 0, .int .i64 0, .int .i64 0]

theorem cellsOf_get : ∀ (ts : List Tok) (i j : Nat) (h : i < ts.length), j < 5 → (cellsOf ts)[i * 5 + j]? = ts[i].cs[j]? := by
  intro ts
  induction ts with
  | nil => intro i j h; simp at h
  | cons x ts ih =>
    intro i j h hj
    have e : cellsOf (x :: ts) = x.cs ++ cellsOf ts := by unfold cellsOf; rw [List.flatMap_cons]
    have hl : x.cs.length = 5 := rfl
    rw [e]
    cases i with
    | zero => rw [List.getElem?_append_left (by rw [hl]; omega)]; simp
    | succ i =>
      rw [List.getElem?_append_right (by rw [hl]; omega), hl, show (i + 1) * 5 + j - 5 = i * 5 + j by omega, ih i j (by simpa using h) hj]
      simp

theorem toks_own {w : World} {base : Nat} {v : Value} {ts : List Tok} (h : w.ownsRow base 36 5 v ts.length (cellsOf ts)) : Toks w v ts := by
  have hc := h
  rcases h.2 with ⟨rfl, h0⟩ | ⟨g, cap, cur, rfl, hbg, hg, hnc, hrest⟩
  · have : ts = [] := by
      have := h.1; rw [h0] at this; simp at this; exact List.length_eq_zero_iff.1 (by omega)
    subst this
    exact ⟨none, 0, rfl, .inl rfl⟩
  · refine ⟨some ⟨g, 0, none⟩, cap, rfl, .inr ⟨g, rfl, hnc, (Array.getElem?_eq_some_iff.1 hg).1, fun i hi => ?_⟩⟩
    have key : ∀ j u, j < 5 → ts[i].cs[j]? = some u → w.cell? ⟨g, i * 5 + j, none⟩ = some u := by
      intro j u hj hu
      have h1 := hc.cells (g := g) rfl (i * 5 + j) u (by rw [cellsOf_get ts i j hi hj]; exact hu)
      have e : ((⟨g, 0, none⟩ : Addr).add (i * 5 + j)) = ⟨g, i * 5 + j, none⟩ := by rw [Go.WideShapes.add_plain, Nat.zero_add]
      rw [← e]; exact h1
    exact ⟨key 0 _ (by omega) rfl, key 1 _ (by omega) rfl, key 2 _ (by omega) rfl, key 3 _ (by omega) rfl, key 4 _ (by omega) rfl⟩
end Go.Proofs.YtjohnhaahpggkaaDoor
