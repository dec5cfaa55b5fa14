import Derived.Test.YtoanbdbcfdjdeaaDoorBpL
namespace Go.Proofs.YtoanbdbcfdjdeaaDoor
open Go.RowKit
set_option linter.unusedVariables false
set_option linter.unusedSimpArgs false


structure P2 (N : Nat) (U : Nat → Value) (C : Nat → List Int) (m : Nat → Int) (gA oA gM cM : Nat) (V : Nat → Value) (cnt : Nat → Nat) (w0 w : World) : Prop where
  only : Only (Pu N U) w0 w
  all : ∀ j, j < N → w.cell? ⟨gA, oA + j, none⟩ = some (U j)
  rd : ∀ j, j < N → By (fun q => (U j).ownBlock = some q) w (U j) (C j)
  row : ∀ j, j < N → Ob 0 w (V j) (C j ++ List.replicate (cnt j) (m j))
  vb : ∀ j, j < N → ∀ q, (V j).ownBlock = some q → ((U j).ownBlock = some q ∨ w0.heap.size ≤ q) ∧ q ≠ gM
  vd : ∀ i j, i < N → j < N → i ≠ j → ∀ q, (V i).ownBlock = some q → (V j).ownBlock ≠ some q
  mg : w0.heap.size ≤ gM
  more : w.ownsRow w0.heap.size 22 1 (.slice (some ⟨gM, 0, none⟩) N cM) N ((List.range N).map V)
theorem P2.below {N : Nat} {U : Nat → Value} {C : Nat → List Int} {m : Nat → Int} {gA oA gM cM : Nat} {V : Nat → Value} {cnt : Nat → Nat} {w0 w : World} {w' : World} (h : P2 N U C m gA oA gM cM V cnt w0 w) (ap : Ap N U gA w0.heap.size) (hb : Below w.heap.size w w') : P2 N U C m gA oA gM cM V cnt w0 w' where
  only := h.only.below hb
  all := fun j hj => (World.cell?_of_block (a := ⟨gA, oA + j, none⟩) (hb.block gA (Nat.lt_of_lt_of_le ap.low h.only.size))).trans (h.all j hj)
  rd := fun j hj => (h.rd j hj).keep (Mv.below hb)
  row := fun j hj => (h.row j hj).keep hb.size (fun q hq => hb.block q ((h.row j hj).lt q hq).2)
  vb := h.vb
  vd := h.vd
  mg := h.mg
  more := own_bel h.more hb
theorem P2.app {N : Nat} {U : Nat → Value} {C : Nat → List Int} {m : Nat → Int} {gA oA gM cM : Nat} {V : Nat → Value} {cnt : Nat → Nat} {w0 w : World} {w1 : World} {i g' cap' base : Nat} (h : P2 N U C m gA oA gM cM V cnt w0 w) (ap : Ap N U gA w0.heap.size) (hi : i < N) (hN : 0 < N)
    (own' : w1.ownsRow base 5 1 (.slice (some ⟨g', 0, none⟩) ((C i ++ List.replicate (cnt i) (m i)).length + 1) cap') ((C i ++ List.replicate (cnt i) (m i)).length + 1) ((C i ++ List.replicate (cnt i) (m i) ++ [m i]).map bv))
    (hl : (C i ++ List.replicate (cnt i) (m i)).length + 1 ≤ 140737488355328)
    (hg : w.grownBy w1 (V i).ownBlock) (hn : (V i).ownBlock = some g' ∨ w.heap.size ≤ g')
    (hr : ∀ g, (V i).ownBlock = some g → ∀ (j : Nat) (hj : j < (C i ++ List.replicate (cnt i) (m i)).length), w1.cell? ⟨g, j, none⟩ = some (.int .u8 (C i ++ List.replicate (cnt i) (m i))[j])) :
    P2 N U C m gA oA gM cM (upd V i (.slice (some ⟨g', 0, none⟩) ((C i ++ List.replicate (cnt i) (m i)).length + 1) cap')) (upd cnt i (cnt i + 1)) w0 (w1.setCell ⟨gM, i, none⟩ (.slice (some ⟨g', 0, none⟩) ((C i ++ List.replicate (cnt i) (m i)).length + 1) cap')) := by
  generalize hnv : Value.slice (some ⟨g', 0, none⟩) ((C i ++ List.replicate (cnt i) (m i)).length + 1) cap' = nv at *
  have hnb : nv.ownBlock = some g' := by rw [← hnv]; rfl
  have hvi := h.vb i hi
  have hMl : gM < w.heap.size := (own_lt h.more gM rfl).2
  have hs0 := h.only.size
  have hblk : ∀ q, q < w.heap.size → some q ≠ (V i).ownBlock → q ≠ gM → (w1.setCell ⟨gM, i, none⟩ nv).heap[q]? = w.heap[q]? := fun q hq h1 h2 => (Below.heap_setCell _ _ _ _ h2).trans (hg.block q hq h1)
  have hsz : w.heap.size ≤ (w1.setCell ⟨gM, i, none⟩ nv).heap.size := by have := hg.size; simpa [World.setCell] using this
  have hg'M : g' ≠ gM := by
    rcases hn with h1 | h1
    · exact (hvi g' h1).2
    · omega
  have hArow : some gA ≠ (V i).ownBlock := fun e => by
    rcases (hvi gA e.symm).1 with h1 | h1
    · exact (ap.lt i hi gA h1).2 rfl
    · have := ap.low; omega
  refine ⟨?_, ?_, ?_, ?_, ?_, ?_, h.mg, ?_⟩
  · refine (only_grown h.only hg (fun k hk => ?_)).set_new h.mg _
    rcases (hvi k hk).1 with h1 | h1
    · exact .inl ⟨i, hi, h1⟩
    · exact .inr h1
  · intro j hj
    exact (World.cell?_of_block (a := ⟨gA, oA + j, none⟩) (hblk gA (Nat.lt_of_lt_of_le ap.low hs0) hArow (by have := ap.low; have := h.mg; omega))).trans (h.all j hj)
  · intro j hj
    obtain ⟨a, cap, e, h1, h2, h3, h4⟩ := h.rd j hj
    refine ⟨a, cap, e, h1, h2, h3, h4.imp id ?_⟩
    rintro ⟨g, o, e2, hS, hgl, hx⟩
    refine ⟨g, o, e2, hS, Nat.lt_of_lt_of_le hgl hsz, fun k hk => ?_⟩
    have hglt := (ap.lt j hj g hS).1
    by_cases eq : some g = (V i).ownBlock
    · have hUi : (U i).ownBlock = some g := by
        rcases (hvi g eq.symm).1 with h5 | h5
        · exact h5
        · omega
      have hji : j = i := Classical.byContradiction fun hne => ap.dis j i hj hi hne g hS hUi
      subst hji
      have ho : o = 0 := by
        rcases (h.row j hj).val with ⟨e5, e6⟩ | ⟨g5, c5, e5⟩
        · rw [e5] at eq; cases eq
        · have hU := ap.off j hj
          rw [e, e2] at hU
          exact hU _ _ _ _ rfl
      subst ho
      rw [World.cell?_setCell_other w1 ⟨gM, j, none⟩ ⟨g, 0 + k, none⟩ _ (fun e5 => by have e6 := congrArg Addr.block e5; dsimp only at e6; have := h.mg; omega), Nat.zero_add, hr g eq.symm k (by rw [List.length_append]; omega)]
      rw [List.getElem_append_left hk]
    · rw [World.cell?_of_block (w := w) (a := ⟨g, o + k, none⟩) (hblk g hgl eq (by have := h.mg; omega))]
      exact hx k hk
  · intro j hj
    by_cases e : j = i
    · subst e
      rw [upd_at, upd_at]
      have e1 : C j ++ List.replicate (cnt j + 1) (m j) = C j ++ List.replicate (cnt j) (m j) ++ [m j] := by rw [List.replicate_succ', List.append_assoc]
      have e2 : (C j ++ List.replicate (cnt j) (m j) ++ [m j]).length = (C j ++ List.replicate (cnt j) (m j)).length + 1 := by simp; omega
      rw [e1]
      have ow2 := own_keep (w' := w1.setCell ⟨gM, j, none⟩ nv) own' (fun q hq => Below.heap_setCell _ _ _ _ (fun e5 => by rw [hnb] at hq; injection hq with hq; exact hg'M (hq.trans e5)))
      generalize w1.setCell ⟨gM, j, none⟩ nv = W at ow2 ⊢
      rw [← e2] at ow2 hnv
      rw [← hnv] at ow2 ⊢
      exact Ob.own (B := 0) ow2 (Nat.zero_le _) (by omega)
    · rw [upd_ne _ _ e, upd_ne _ _ e]
      exact (h.row j hj).keep hsz (fun q hq => hblk q ((h.row j hj).lt q hq).2 (fun e5 => h.vd j i hj hi e q hq e5.symm) (h.vb j hj q hq).2)
  · intro j hj q hq
    by_cases e : j = i
    · subst e
      rw [upd_at, hnb] at hq
      injection hq with hq
      subst hq
      rcases hn with h1 | h1
      · exact hvi g' h1
      · exact ⟨.inr (by omega), hg'M⟩
    · rw [upd_ne _ _ e] at hq
      exact h.vb j hj q hq
  · intro a b ha hb hne q hq
    have new_old : ∀ k, k < N → k ≠ i → (V k).ownBlock ≠ some g' := fun k hk hki e5 => by
      rcases hn with h1 | h1
      · exact h.vd i k hi hk (Ne.symm hki) g' h1 e5
      · have := ((h.row k hk).lt g' e5).2; omega
    by_cases ea : a = i
    · subst ea
      rw [upd_at, hnb] at hq
      injection hq with hq
      subst hq
      rw [upd_ne _ _ (Ne.symm hne)]
      exact new_old b hb (Ne.symm hne)
    · rw [upd_ne _ _ ea] at hq
      by_cases eb : b = i
      · subst eb
        rw [upd_at, hnb]
        intro e5
        injection e5 with e5
        subst e5
        exact new_old a ha ea hq
      · rw [upd_ne _ _ eb]
        exact h.vd a b ha hb hne q hq
  · have ow1 := own_keep h.more (w' := w1) (fun q hq => by
      have hq' : gM = q := by injection hq
      subst hq'
      exact hg.block gM hMl (fun e5 => (hvi gM e5.symm).2 rfl))
    have ow2 := (ow1.stored i nv).1
    have e1 : ((List.range N).map V).set i nv = (List.range N).map (upd V i nv) := by
      apply List.ext_getElem?
      intro k
      rw [List.getElem?_set]
      by_cases e : i = k
      · subst e
        simp [hi, upd_at]
      · simp only [if_neg e, List.getElem?_map]
        by_cases hk : k < N
        · simp [hk, upd_ne V nv (Ne.symm e)]
        · simp [hk]
    rw [e1] at ow2
    exact ow2
end Go.Proofs.YtoanbdbcfdjdeaaDoor
