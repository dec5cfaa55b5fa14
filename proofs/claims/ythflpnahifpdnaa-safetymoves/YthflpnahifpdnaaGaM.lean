import Derived.Test.YthflpnahifpdnaaHdA
namespace Go.Proofs.Ythflpnahifpdnaa
open Go.RowKit
set_option linter.unusedVariables false


def gateF (M : Nat) : Nat → List Gp → List Int → List Int → Bool
  | k, g :: gs, a :: al, i :: il => !(decide (a = 2) && (!M.testBit k && decide (i < g.min))) && gateF M (k + 1) gs al il
  | _, _, _, _ => true
def setF (M : Nat) : Nat → List Int → Bool
  | k, a :: al => decide (a = if M.testBit k then 2 else 0) && setF M (k + 1) al
  | _, _ => true
def gateB (G : List Gp) (C : List Cf) (A I W : List Int) (M : Nat) : Bool := soundB G C A I W && gateF M 0 G A I
def setB (G : List Gp) (C : List Cf) (A I W : List Int) (M : Nat) : Bool := soundB G C A I W && setF M 0 A
theorem gateF_step (M : Nat) (G : List Gp) (A I : List Int) (k : Nat) (h : k < G.length) (h1 : k < A.length) (h2 : k < I.length) : gateF M k (G.drop k) (A.drop k) (I.drop k) = (!(decide (A[k] = 2) && (!M.testBit k && decide (I[k] < G[k].min))) && gateF M (k + 1) (G.drop (k + 1)) (A.drop (k + 1)) (I.drop (k + 1))) := by
  rw [List.drop_eq_getElem_cons h, List.drop_eq_getElem_cons h1, List.drop_eq_getElem_cons h2]; rfl
theorem gateF_end (M : Nat) (G : List Gp) (A I : List Int) (k : Nat) (h : G.length ≤ k) : gateF M k (G.drop k) (A.drop k) (I.drop k) = true := by
  rw [List.drop_eq_nil_of_le h]; unfold gateF; rfl
theorem setF_step (M : Nat) (A : List Int) (k : Nat) (h1 : k < A.length) : setF M k (A.drop k) = (decide (A[k] = if M.testBit k then 2 else 0) && setF M (k + 1) (A.drop (k + 1))) := by
  rw [List.drop_eq_getElem_cons h1]; rfl
theorem setF_end (M : Nat) (A : List Int) (k : Nat) (h : A.length ≤ k) : setF M k (A.drop k) = true := by
  rw [List.drop_eq_nil_of_le h]; unfold setF; rfl
theorem sound_len {G : List Gp} {C : List Cf} {A I W : List Int} (h : soundB G C A I W = true) : A.length = G.length ∧ I.length = G.length ∧ W.length = G.length ∧ gridB G C = true ∧ G.length ≤ 64 := by
  unfold soundB fitsB at h
  simp only [Bool.and_eq_true, decide_eq_true_eq] at h
  exact ⟨h.2.1, h.2.2.1, h.2.2.2.1, h.1, grid_len h.1⟩
end Go.Proofs.Ythflpnahifpdnaa
