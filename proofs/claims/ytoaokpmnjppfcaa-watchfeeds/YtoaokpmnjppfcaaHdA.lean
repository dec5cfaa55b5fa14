import Derived.Test.YtoaokpmnjppfcaaGrB
namespace Go.Proofs.Ytoaokpmnjppfcaa
open Go.RowKit
set_option linter.unusedVariables false


def n64 (x : Int) : List Value := [.int .i64 x]
def n32 (x : Int) : List Value := [.int .i32 x]
def u64 (x : Nat) : List Value := [.int .u64 (x : Int)]
theorem n64_len (x : Int) : (n64 x).length = 1 := rfl
theorem n32_len (x : Int) : (n32 x).length = 1 := rfl
theorem u64_len (x : Nat) : (u64 x).length = 1 := rfl
theorem n64_one (x : Int) : ∀ u ∈ n64 x, u.oneCell' = true := by intro u hu; simp [n64] at hu; subst hu; rfl
theorem n32_one (x : Int) : ∀ u ∈ n32 x, u.oneCell' = true := by intro u hu; simp [n32] at hu; subst hu; rfl
theorem u64_one (x : Nat) : ∀ u ∈ u64 x, u.oneCell' = true := by intro u hu; simp [u64] at hu; subst hu; rfl
/-- A list of words: its cells. -/
theorem Fl.nums {α : Type} {cs : α → List Value} {w : World} {v : Value} {L : List α} (h : Fl 1 cs w v L) : ∃ a cap, v = .slice a L.length cap ∧ (L = [] ∨ ∃ g o, a = some ⟨g, o, none⟩ ∧ g < w.heap.size ∧ ∀ (i : Nat) (h : i < L.length) (u : Value), (cs L[i])[0]? = some u → w.cell? ⟨g, o + i, none⟩ = some u) := by
  obtain ⟨a, cap, e, hk⟩ := h.any
  refine ⟨a, cap, e, hk.imp id ?_⟩
  rintro ⟨g, o, ea, hg, P⟩
  exact ⟨g, o, ea, hg, fun i hi u hu => by have := P i hi 0 u hu; simpa using this⟩
def inI32 (x : Int) : Prop := -2147483648 ≤ x ∧ x ≤ 2147483647
theorem conv32 {x : Int} (h : inI32 x) : IntKind.i64.wrap x = x := wrap64 _ (by unfold inI32 at h; omega)
/-- Is a group's row sound? -/
def fitB (g : Gp) (a i w : Int) : Bool := decide (1 ≤ i) && (decide (0 ≤ w) && ((decide (a = 2) == decide (w = 0)) && (decide (a = 0) || (decide (a = 2) || ((decide (a = 1) && decide (i ≤ g.lead)) || (decide (a = 3) && decide (i ≤ g.amber)))))))
def fitsF : List Gp → List Int → List Int → List Int → Bool
  | g :: gs, a :: al, i :: il, w :: wl => fitB g a i w && fitsF gs al il wl
  | _, _, _, _ => true
def atI (A : List Int) (x : Int) : Int := A.getD x.toNat 0
def clearF (A : List Int) : List Cf → Bool
  | [] => true
  | c :: cs => !(decide (atI A c.a ≠ 0) && decide (atI A c.b ≠ 0)) && clearF A cs
def fitsB (G : List Gp) (C : List Cf) (A I W : List Int) : Bool := decide (A.length = G.length) && (decide (I.length = G.length) && (decide (W.length = G.length) && (fitsF G A I W && clearF A C)))
def soundB (G : List Gp) (C : List Cf) (A I W : List Int) : Bool := gridB G C && fitsB G C A I W
theorem fitsF_step (G : List Gp) (A I W : List Int) (k : Nat) (h : k < G.length) (h1 : k < A.length) (h2 : k < I.length) (h3 : k < W.length) : fitsF (G.drop k) (A.drop k) (I.drop k) (W.drop k) = (fitB G[k] A[k] I[k] W[k] && fitsF (G.drop (k + 1)) (A.drop (k + 1)) (I.drop (k + 1)) (W.drop (k + 1))) := by
  rw [List.drop_eq_getElem_cons h, List.drop_eq_getElem_cons h1, List.drop_eq_getElem_cons h2, List.drop_eq_getElem_cons h3]; rfl
theorem fitsF_end (G : List Gp) (A I W : List Int) (k : Nat) (h : G.length ≤ k) : fitsF (G.drop k) (A.drop k) (I.drop k) (W.drop k) = true := by
  rw [List.drop_eq_nil_of_le h]; unfold fitsF; rfl
theorem clearF_step (A : List Int) (C : List Cf) (k : Nat) (h : k < C.length) : clearF A (C.drop k) = (!(decide (atI A C[k].a ≠ 0) && decide (atI A C[k].b ≠ 0)) && clearF A (C.drop (k + 1))) := by
  rw [List.drop_eq_getElem_cons h]; rfl
theorem clearF_end (A : List Int) (C : List Cf) (k : Nat) (h : C.length ≤ k) : clearF A (C.drop k) = true := by
  rw [List.drop_eq_nil_of_le h]; rfl
theorem rows_cf {n : Nat} : ∀ {C : List Cf} {p : Option Cf}, rowsB n p C = true → ∀ c ∈ C, cfB n c = true := by
  intro C
  induction C with
  | nil => intro p h c hc; cases hc
  | cons d C ih =>
    intro p h c hc
    unfold rowsB at h
    simp only [Bool.and_eq_true] at h
    rcases List.mem_cons.1 hc with rfl | hc
    · exact h.1.1
    · exact ih h.2 c hc
/-- What sound tables say of their rows. -/
theorem grid_cf {G : List Gp} {C : List Cf} (h : gridB G C = true) : ∀ (i : Nat) (hi : i < C.length), 0 ≤ C[i].a ∧ C[i].a < C[i].b ∧ C[i].b < (G.length : Int) ∧ (0 ≤ C[i].ab ∧ C[i].ab ≤ 3600) ∧ (0 ≤ C[i].ba ∧ C[i].ba ≤ 3600) := by
  intro i hi
  unfold gridB at h
  simp only [Bool.and_eq_true] at h
  have := rows_cf h.2.2 C[i] (List.getElem_mem hi)
  unfold cfB timeB at this
  simp only [Bool.and_eq_true, decide_eq_true_eq] at this
  exact ⟨this.1, this.2.1, this.2.2.1, this.2.2.2.1, this.2.2.2.2⟩
theorem grid_gp {G : List Gp} {C : List Cf} (h : gridB G C = true) : ∀ (i : Nat) (hi : i < G.length), gpB G[i] = true := by
  intro i hi
  unfold gridB at h
  simp only [Bool.and_eq_true] at h
  exact List.all_eq_true.1 h.2.1 _ (List.getElem_mem hi)
theorem grid_len {G : List Gp} {C : List Cf} (h : gridB G C = true) : G.length ≤ 64 := by
  unfold gridB at h
  simp only [Bool.and_eq_true, decide_eq_true_eq] at h
  exact h.1
theorem atI_get {A : List Int} {x : Int} (h0 : 0 ≤ x) (h1 : x < (A.length : Int)) : ∃ h : x.toNat < A.length, atI A x = A[x.toNat] := by
  have h : x.toNat < A.length := by omega
  exact ⟨h, by unfold atI; simp [List.getD_eq_getElem?_getD, h]⟩
theorem has3 {w' : World} {b : Nat} {v0 v1 v2 : Value} (h : Has w' b #[v0, v1, v2]) : w'.cell? ⟨b, 0, none⟩ = some v0 ∧ w'.cell? ⟨b, 1, none⟩ = some v1 ∧ w'.cell? ⟨b, 2, none⟩ = some v2 := ⟨h.2.1 0, h.2.1 1, h.2.1 2⟩
theorem has5 {w' : World} {b : Nat} {v0 v1 v2 v3 v4 : Value} (h : Has w' b #[v0, v1, v2, v3, v4]) : w'.cell? ⟨b, 0, none⟩ = some v0 ∧ w'.cell? ⟨b, 1, none⟩ = some v1 ∧ w'.cell? ⟨b, 2, none⟩ = some v2 ∧ w'.cell? ⟨b, 3, none⟩ = some v3 ∧ w'.cell? ⟨b, 4, none⟩ = some v4 := ⟨h.2.1 0, h.2.1 1, h.2.1 2, h.2.1 3, h.2.1 4⟩
end Go.Proofs.Ytoaokpmnjppfcaa
