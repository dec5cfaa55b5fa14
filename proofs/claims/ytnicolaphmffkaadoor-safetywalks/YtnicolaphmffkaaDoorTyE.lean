import Derived.Test.YtnicolaphmffkaaDoorTyD
namespace Go.Proofs.YtnicolaphmffkaaDoor
open Go.RowKit
set_option linter.unusedVariables false
set_option linter.unusedSimpArgs false

/-- Symbols as they are read. -/
def Sys (w : World) (v : Value) (S : List Sy) : Prop :=
  ∃ a cap, v = .slice a S.length cap ∧ (S = [] ∨ ∃ g o, a = some ⟨g, o, none⟩ ∧ g < w.heap.size ∧ ∀ (i : Nat) (h : i < S.length),
    w.cell? ⟨g, o + i * 5, none⟩ = some (.string S[i].name) ∧ w.cell? ⟨g, o + i * 5 + 1, none⟩ = some (.int .i64 S[i].kind) ∧ w.cell? ⟨g, o + i * 5 + 2, none⟩ = some (.int .i64 S[i].ix) ∧ w.cell? ⟨g, o + i * 5 + 3, none⟩ = some (.int .i64 S[i].line) ∧ w.cell? ⟨g, o + i * 5 + 4, none⟩ = some (.int .i64 S[i].col))
theorem Sys.below {w w' : World} {v : Value} {S : List Sy} (h : Sys w v S) (hb : Below w.heap.size w w') : Sys w' v S := by
  obtain ⟨a, cap, rfl, h | ⟨g, o, rfl, hg, hc⟩⟩ := h
  · exact ⟨a, cap, rfl, .inl h⟩
  · refine ⟨_, cap, rfl, .inr ⟨g, o, rfl, Nat.lt_of_lt_of_le hg hb.size, fun i hi => ?_⟩⟩
    obtain ⟨h0, h1, h2, h3, h4⟩ := hc i hi
    exact ⟨(hb.cell (p := ⟨g, _, none⟩) hg).trans h0, (hb.cell (p := ⟨g, _, none⟩) hg).trans h1, (hb.cell (p := ⟨g, _, none⟩) hg).trans h2, (hb.cell (p := ⟨g, _, none⟩) hg).trans h3, (hb.cell (p := ⟨g, _, none⟩) hg).trans h4⟩
/-- An entry's cells. -/
def Sy.es (s : Sy) : List Value := [.string s.name, .int .i64 s.kind, .int .i64 s.ix, .int .i64 s.line, .int .i64 s.col, .int .i64 (-1), .int .i32 0, .slice none 0 0]
def vE (S : List Sy) : List Value := S.flatMap Sy.es
theorem vE_append (S R : List Sy) : vE (S ++ R) = vE S ++ vE R := by unfold vE; simp
theorem vE_get : ∀ (S : List Sy) (i j : Nat) (h : i < S.length), j < 8 → (vE S)[i * 8 + j]? = (S[i].es)[j]? := by
  intro S
  induction S with
  | nil => intro i j h; simp at h
  | cons x S ih =>
    intro i j h hj
    have e : vE (x :: S) = x.es ++ vE S := by unfold vE; rw [List.flatMap_cons]
    have hl : x.es.length = 8 := rfl
    rw [e]
    cases i with
    | zero => rw [List.getElem?_append_left (by rw [hl]; omega)]; simp
    | succ i =>
      rw [List.getElem?_append_right (by rw [hl]; omega), hl, show (i + 1) * 8 + j - 8 = i * 8 + j by omega, ih i j (by simpa using h) hj]
      simp
theorem ens_of {w : World} {base sc : Nat} {sa : Option Addr} {S : List Sy} (h : w.ownsRow base 9072 8 (.slice sa S.length sc) S.length (vE S)) : Ens w (.slice sa S.length sc) S := by
  refine ⟨sa, sc, rfl, ?_⟩
  by_cases h0 : S.length = 0
  · exact .inl (List.length_eq_zero_iff.1 h0)
  obtain ⟨gs, cs', hsv, -, hgs, -⟩ := own_block h (by omega)
  injection hsv with hsv1 _ hsv2
  subst hsv1
  subst hsv2
  refine .inr ⟨gs, 0, rfl, (own_lt h gs rfl).2, fun i hi => ?_⟩
  have key : ∀ j u, j < 8 → (S[i].es)[j]? = some u → w.cell? ⟨gs, i * 8 + j, none⟩ = some u := by
    intro j u hj hu
    rw [h.cellAt _ (by omega), vE_get S i j hi hj]; exact hu
  simp only [Nat.zero_add]
  exact ⟨key 0 _ (by omega) rfl, key 1 _ (by omega) rfl, key 5 _ (by omega) rfl⟩
/-- What TypeOf answers. -/
def tyA (S : List Sy) (L : List Nd) : Ty := if fEx L = true then tyF S [] L else ⟨0, 33, 0, 0⟩
end Go.Proofs.YtnicolaphmffkaaDoor
