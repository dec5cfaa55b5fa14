import Derived.Test.YthflpnahifpdnaaKeM
import Derived.Test.YthflpnahifpdnaaHdO
import Derived.Deep.RegionHeld3
namespace Go.Proofs.Ythflpnahifpdnaa
open Go.RowKit
set_option linter.unusedVariables false


theorem Fl.only {α : Type} {sz : Nat} {cs : α → List Value} {S : Nat → Prop} {w w' : World} {v : Value} {L : List α} (h : Fl sz cs w v L) (O : Only S w w') (hS : L ≠ [] → ∀ q, v.ownBlock = some q → ¬ S q) : Fl sz cs w' v L := by
  rcases h with h | ⟨ad, cap, rfl, hc, h | ⟨hs, hg, hx⟩⟩
  · exact .inl h
  · exact .inr ⟨ad, cap, rfl, hc, .inl h⟩
  · by_cases e : L = []
    · exact .inr ⟨ad, cap, rfl, hc, .inl e⟩
    · exact .inr ⟨ad, cap, rfl, hc, .inr ⟨hs, Nat.lt_of_lt_of_le hg O.size, fun i hi j u hu => (show w'.cell? ⟨ad.block, ad.off + i * sz + j, none⟩ = w.cell? ⟨ad.block, ad.off + i * sz + j, none⟩ from World.cell?_of_block (w := w) (O.block _ hg (hS e _ rfl))).trans (hx i hi j u hu)⟩⟩
theorem Fl.blk {α : Type} {sz : Nat} {cs : α → List Value} {w : World} {v : Value} {L : List α} (h : Fl sz cs w v L) (e : L ≠ []) : ∀ q, v.ownBlock = some q → q < w.heap.size := by
  rcases h with ⟨rfl, h⟩ | ⟨ad, cap, rfl, hc, h | ⟨hs, hg, hx⟩⟩
  · exact absurd h e
  · exact absurd h e
  · intro q hq
    have : ad.block = q := by injection hq
    omega
/-- Heads that are read, and that lie in neither of two blocks. -/
structure Hd3 (wr : World) (u1 u2 u3 : Value) (A I W : List Int) (H N : Nat) : Prop where
  a : Fl 1 n64 wr u1 A
  i : Fl 1 n32 wr u2 I
  w : Fl 1 n32 wr u3 W
  da : A ≠ [] → ∀ q, u1.ownBlock = some q → q ≠ H ∧ q ≠ N
  di : I ≠ [] → ∀ q, u2.ownBlock = some q → q ≠ H ∧ q ≠ N
  dw : W ≠ [] → ∀ q, u3.ownBlock = some q → q ≠ H ∧ q ≠ N
theorem Hd3.below {wr w' : World} {u1 u2 u3 : Value} {A I W : List Int} {H N : Nat} (h : Hd3 wr u1 u2 u3 A I W H N) (hb : Below wr.heap.size wr w') : Hd3 w' u1 u2 u3 A I W H N :=
  ⟨h.a.below hb, h.i.below hb, h.w.below hb, h.da, h.di, h.dw⟩
theorem Hd3.only {wr w' : World} {u1 u2 u3 : Value} {A I W : List Int} {H N : Nat} {S : Nat → Prop} (h : Hd3 wr u1 u2 u3 A I W H N) (O : Only S wr w') (hS : ∀ q, S q → q = H ∨ q = N) : Hd3 w' u1 u2 u3 A I W H N :=
  ⟨h.a.only O (fun e q hq s => by have := h.da e q hq; rcases hS q s with r | r <;> omega), h.i.only O (fun e q hq s => by have := h.di e q hq; rcases hS q s with r | r <;> omega), h.w.only O (fun e q hq s => by have := h.dw e q hq; rcases hS q s with r | r <;> omega), h.da, h.di, h.dw⟩
/-- May b follow a? -/
def Nx (g : Gp) (a b : Int) : Prop := a = b ∨ (a = 0 ∧ ((b = 1 ∧ 0 < g.lead) ∨ (b = 2 ∧ g.lead = 0))) ∨ (a = 1 ∧ b = 2) ∨ (a = 2 ∧ ((b = 3 ∧ 0 < g.amber) ∨ (b = 0 ∧ g.amber = 0))) ∨ (a = 3 ∧ b = 0)
theorem nx_of {G : List Gp} {C : List Cf} {A I W : List Int} {M : Nat} (hg : gridB G C = true) (hf : fitsB G C A I W = true) (k : Nat) (hk : k < G.length) : Nx G[k] (A.getD k 0) (nxF G C A I W M k) := by
  have eG : G.getD k gp0 = G[k] := by simp [List.getD_eq_getElem?_getD, hk]
  have hgp := grid_gp hg k hk
  unfold gpB timeB amberB at hgp
  simp only [Bool.and_eq_true, Bool.or_eq_true, decide_eq_true_eq] at hgp
  have l0 := hgp.2.2.2.2.1
  have a0 := hgp.2.2.2.1.1
  unfold fitsB at hf
  simp only [Bool.and_eq_true, decide_eq_true_eq] at hf
  have hk1 : k < A.length := by omega
  have eA : A.getD k 0 = A[k] := by simp [List.getD_eq_getElem?_getD, hk1]
  have hfit := fitsF_get hf.2.2.2.1 hf.1 hf.2.1 hf.2.2.1 k hk
  unfold fitB at hfit
  simp only [Bool.and_eq_true, Bool.or_eq_true, decide_eq_true_eq] at hfit
  have four : A[k] = 0 ∨ A[k] = 2 ∨ A[k] = 1 ∨ A[k] = 3 := by
    have := hfit.2.2.2
    omega
  unfold nxF
  rcases beg_at (G := G) (C := C) (A := A) (W := W) (M := M) (f0 := alF G A I M) k G.length with q | ⟨q1, q2⟩
  · rw [q]
    unfold alF aloneF
    rw [eG, eA]
    rcases four with e | e | e | e
    · rw [e]; exact .inl (by simp)
    · rw [e, if_pos rfl]
      by_cases d1 : M.testBit k = true
      · rw [if_pos d1]; exact .inl rfl
      · rw [if_neg d1]
        by_cases d2 : I.getD k 0 < G[k].min
        · rw [if_pos d2]; exact .inl rfl
        · rw [if_neg d2]
          by_cases d3 : 0 < G[k].amber
          · rw [if_pos d3]; exact .inr (.inr (.inr (.inl ⟨rfl, .inl ⟨rfl, d3⟩⟩)))
          · rw [if_neg d3]; exact .inr (.inr (.inr (.inl ⟨rfl, .inr ⟨rfl, by omega⟩⟩)))
    · rw [e]
      simp only [show ¬ (1 : Int) = 2 by decide, show ¬ (1 : Int) = 3 by decide, if_false, if_true]
      by_cases d : I.getD k 0 < G[k].lead
      · rw [if_pos d]; exact .inl rfl
      · rw [if_neg d]; exact .inr (.inr (.inl ⟨rfl, rfl⟩))
    · rw [e]
      simp only [show ¬ (3 : Int) = 2 by decide, if_false, if_true]
      by_cases d : I.getD k 0 < G[k].amber
      · rw [if_pos d]; exact .inl rfl
      · rw [if_neg d]; exact .inr (.inr (.inr (.inr ⟨rfl, rfl⟩)))
  · rw [q1, q2, eG]
    unfold firstF
    by_cases d : 0 < G[k].lead
    · rw [if_pos d]; exact .inr (.inl ⟨rfl, .inl ⟨rfl, d⟩⟩)
    · rw [if_neg d]; exact .inr (.inl ⟨rfl, .inr ⟨rfl, by omega⟩⟩)
set_option maxRecDepth 100000 in
set_option maxHeartbeats 4000000 in
theorem headsNext_any (g : Gp) (a b : Int) (w : World) (h : Nx g a b) :
    Calls Try.prog 25 #[.agg #[.string g.name, .int .i64 g.sort, .int .i64 g.min, .int .i64 g.amber, .int .i64 g.lead], .int .i64 a, .int .i64 b] w fun e w' => e = .returned (.bool true) ∧ Below w.heap.size w w' := by
  generalize g.name = x0 at *
  generalize g.sort = x1 at *
  generalize g.min = x2 at *
  unfold Nx at h
  generalize g.amber = x3 at *
  generalize g.lead = x4 at *
  rcases h with rfl | ⟨rfl, ⟨rfl, d⟩ | ⟨rfl, rfl⟩⟩ | ⟨rfl, rfl⟩ | ⟨rfl, ⟨rfl, d⟩ | ⟨rfl, rfl⟩⟩ | ⟨rfl, rfl⟩
  · go_enter Try.func25, Try.ntmps25
    go_wp2
    go_ret
    exact ⟨by first | rfl | (simp; done) | (simp; omega), belN1⟩
  · have d' : x4 > 0 := d
    go_enter Try.func25, Try.ntmps25
    go_wp2
    go_ret
    exact ⟨by first | rfl | (simp; done) | (simp; omega), belN1⟩
  · go_enter Try.func25, Try.ntmps25
    go_wp2
    go_ret
    exact ⟨by first | rfl | (simp; done) | (simp; omega), belN1⟩
  · go_enter Try.func25, Try.ntmps25
    go_wp2
    go_ret
    exact ⟨by first | rfl | (simp; done) | (simp; omega), belN1⟩
  · have d' : x3 > 0 := d
    go_enter Try.func25, Try.ntmps25
    go_wp2
    go_ret
    exact ⟨by first | rfl | (simp; done) | (simp; omega), belN1⟩
  · go_enter Try.func25, Try.ntmps25
    go_wp2
    go_ret
    exact ⟨by first | rfl | (simp; done) | (simp; omega), belN1⟩
  · go_enter Try.func25, Try.ntmps25
    go_wp2
    go_ret
    exact ⟨by first | rfl | (simp; done) | (simp; omega), belN1⟩
end Go.Proofs.Ythflpnahifpdnaa
