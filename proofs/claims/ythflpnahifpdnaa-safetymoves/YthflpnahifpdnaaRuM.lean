import Derived.Test.YthflpnahifpdnaaKeM
import Derived.Test.YthflpnahifpdnaaShA
namespace Go.Proofs.Ythflpnahifpdnaa
open Go.RowKit
set_option linter.unusedVariables false


/-- the heads after k steps: what Start and next write, as three functions of the group's number -/
structure F3 where
  a : Nat → Int
  i : Nat → Int
  w : Nat → Int
def F3.next (G : List Gp) (C : List Cf) (h : F3) (M : Nat) : F3 :=
  let A := lst64 G.length h.a
  let I := lst64 G.length h.i
  let W := lst64 G.length h.w
  ⟨nxF G C A I W M, inF A I (nxF G C A I W M), awF W (nxF G C A I W M)⟩
def f30 : F3 := ⟨fun _ => 0, fun _ => 1, fun _ => 1⟩
def runF (G : List Gp) (C : List Cf) (Ms : List Nat) : Nat → F3
  | 0 => f30
  | k + 1 => F3.next G C (runF G C Ms k) (Ms.getD k 0)
def picF (G : List Gp) (C : List Cf) (Ms : List Nat) (k : Nat) : ByteArray := showS (lst64 G.length (runF G C Ms k).a)
def picsF (G : List Gp) (C : List Cf) (Ms : List Nat) (k : Nat) : List Value := (List.range (k + 1)).map fun j => .string (picF G C Ms j)
theorem picsF_len (G : List Gp) (C : List Cf) (Ms : List Nat) (k : Nat) : (picsF G C Ms k).length = k + 1 := by simp [picsF]
theorem picsF_zero (G : List Gp) (C : List Cf) (Ms : List Nat) : picsF G C Ms 0 = [.string (picF G C Ms 0)] := rfl
theorem picsF_succ (G : List Gp) (C : List Cf) (Ms : List Nat) (k : Nat) : picsF G C Ms (k + 1) = picsF G C Ms k ++ [.string (picF G C Ms (k + 1))] := by
  unfold picsF
  rw [List.range_succ, List.map_append]; rfl
def Okf (G : List Gp) (C : List Cf) (h : F3) : Prop := fitsB G C (lst64 G.length h.a) (lst64 G.length h.i) (lst64 G.length h.w) = true ∧ (∀ x ∈ lst64 G.length h.i, inI32 x) ∧ ∀ x ∈ lst64 G.length h.w, inI32 x
theorem okf_start (G : List Gp) (C : List Cf) : Okf G C f30 := by
  have h1 : ∀ x ∈ lst64 G.length (fun _ => (1 : Int)), inI32 x := by
    intro x hx
    unfold lst64 at hx
    obtain ⟨k, hk, rfl⟩ := List.mem_map.1 hx
    unfold inI32; omega
  refine ⟨?_, h1, h1⟩
  unfold fitsB
  simp only [Bool.and_eq_true, decide_eq_true_eq, lst_len, true_and]
  constructor
  · refine fitsF_of (lst_len _ _) (lst_len _ _) (lst_len _ _) fun k hk => ?_
    rw [lst_get, lst_get, lst_get]
    unfold f30 fitB
    simp
  · refine clearF_of fun c hc => .inl ?_
    unfold atI f30 lst64
    rw [List.getD_eq_getElem?_getD, List.getElem?_map]
    cases (List.range G.length)[c.a.toNat]? <;> rfl
theorem okf_next {G : List Gp} {C : List Cf} {h : F3} (hg : gridB G C = true) (ok : Okf G C h) (M : Nat) : Okf G C (F3.next G C h M) :=
  fits_next hg ok.1 ok.2.1 ok.2.2
theorem okf_run {G : List Gp} {C : List Cf} (hg : gridB G C = true) (Ms : List Nat) : ∀ k, Okf G C (runF G C Ms k)
  | 0 => okf_start G C
  | k + 1 => okf_next hg (okf_run hg Ms k) _
end Go.Proofs.Ythflpnahifpdnaa
