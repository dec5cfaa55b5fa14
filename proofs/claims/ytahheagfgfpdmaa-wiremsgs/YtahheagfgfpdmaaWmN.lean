import Derived.Test.YtahheagfgfpdmaaWmM
import Derived.Test.YtahheagfgfpdmaaWmJ
namespace Go.Proofs.Ytahheagfgfpdmaa
open Go.RowKit
set_option linter.unusedVariables false
set_option linter.unusedSimpArgs false

/-- What stands while an answer is grown. -/
structure Sp (v : Value) (l : Nat) (m : Int) (k : Nat) (vg : Value) (w0 w : World) : Prop where
  rd : (v = .slice none 0 0 ∧ l = 0) ∨ ∃ g c, v = .slice (some ⟨g, 0, none⟩) l c ∧ l ≤ c ∧ g < w.heap.size ∧ ∀ j, j < l → w.cell? ⟨g, j, none⟩ = some (.int .u8 m)
  row : Ob 0 w vg (List.replicate l m ++ List.replicate k (m + 1))
  vb : ∀ q, vg.ownBlock = some q → v.ownBlock = some q ∨ w0.heap.size < q
  vl : ∀ q, v.ownBlock = some q → q < w0.heap.size
  only : Only (fun q => v.ownBlock = some q) w0 w
  res : Has w w0.heap.size #[.slice none 0 0, .slice none 0 0, .int .u8 0]
theorem Sp.below {v vg : Value} {l k : Nat} {m : Int} {w0 w w' : World} (h : Sp v l m k vg w0 w) (hb : Below w.heap.size w w') : Sp v l m k vg w0 w' where
  rd := h.rd.imp id (fun ⟨g, c, e, h1, h2, h3⟩ => ⟨g, c, e, h1, Nat.lt_of_lt_of_le h2 hb.size, fun j hj => (World.cell?_of_block (a := ⟨g, j, none⟩) (hb.block g h2)).trans (h3 j hj)⟩)
  row := h.row.below hb
  vb := h.vb
  vl := h.vl
  only := h.only.below hb
  res := h.res.below hb
theorem Sp.app {v vg : Value} {l k : Nat} {m : Int} {w0 w w1 : World} {g' cap' base : Nat} (h : Sp v l m k vg w0 w)
    (p1 : w1.ownsRow base 5 1 (.slice (some ⟨g', 0, none⟩) ((List.replicate l m ++ List.replicate k (m + 1)).length + 1) cap') ((List.replicate l m ++ List.replicate k (m + 1)).length + 1) (((List.replicate l m ++ List.replicate k (m + 1)) ++ [m + 1]).map bv)) (hl : (List.replicate l m ++ List.replicate k (m + 1)).length + 1 ≤ 140737488355328)
    (p2 : w.grownBy w1 vg.ownBlock) (p3 : vg.ownBlock = some g' ∨ w.heap.size ≤ g')
    (p4 : ∀ g, vg.ownBlock = some g → ∀ (j : Nat) (hj : j < (List.replicate l m ++ List.replicate k (m + 1)).length), w1.cell? ⟨g, j, none⟩ = some (.int .u8 (List.replicate l m ++ List.replicate k (m + 1))[j])) :
    Sp v l m (k + 1) (.slice (some ⟨g', 0, none⟩) ((List.replicate l m ++ List.replicate k (m + 1)).length + 1) cap') w0 w1 := by
  have hz := h.res.1
  refine ⟨?_, ?_, ?_, h.vl, ?_, ?_⟩
  · rcases h.rd with h0 | ⟨g, c, e, h1, h2, h3⟩
    · exact .inl h0
    · refine .inr ⟨g, c, e, h1, Nat.lt_of_lt_of_le h2 p2.size, fun j hj => ?_⟩
      by_cases hg : some g = vg.ownBlock
      · rw [p4 g hg.symm j (by rw [List.length_append, List.length_replicate]; omega), List.getElem_append_left (by rw [List.length_replicate]; exact hj), List.getElem_replicate]
      · exact (World.cell?_of_block (a := ⟨g, j, none⟩) (p2.block g h2 hg)).trans (h3 j hj)
  · have e1 : List.replicate l m ++ List.replicate (k + 1) (m + 1) = (List.replicate l m ++ List.replicate k (m + 1)) ++ [m + 1] := by rw [List.replicate_succ', List.append_assoc]
    rw [e1]
    have e2 : ((List.replicate l m ++ List.replicate k (m + 1)) ++ [m + 1]).length = (List.replicate l m ++ List.replicate k (m + 1)).length + 1 := by rw [List.length_append]; rfl
    rw [← e2] at p1 ⊢
    exact Ob.own (B := 0) p1 (Nat.zero_le _) (by omega)
  · intro q hq
    have hq' : g' = q := by injection hq
    subst hq'
    rcases p3 with h1 | h1
    · exact h.vb g' h1
    · exact .inr (by omega)
  · refine only_grown h.only p2 (fun q hq => ?_)
    rcases h.vb q hq with h1 | h1
    · exact .inl h1
    · exact .inr (Nat.le_of_lt h1)
  · refine h.res.blk p2.size (p2.block _ hz (fun e => ?_))
    rcases h.vb _ e.symm with h1 | h1
    · exact absurd (h.vl _ h1) (Nat.lt_irrefl _)
    · exact absurd h1 (Nat.lt_irrefl _)
theorem rep_ext {C : List Int} {l : Nat} {m : Int} (hl : C.length = l) (h : ∀ t, t < l → C[t]? = some m) : C = List.replicate l m := by
  apply List.ext_getElem?
  intro t
  by_cases ht : t < l
  · rw [h t ht, List.getElem?_replicate, if_pos ht]
  · rw [List.getElem?_eq_none (by omega), List.getElem?_eq_none (by rw [List.length_replicate]; omega)]
set_option maxRecDepth 100000 in
set_option maxHeartbeats 2000000 in
theorem spoil_any (B : Nat) (L : List Int) (l : Nat) (va : Option Addr) (c : Nat) (m : Int) (w : World) (hO : Ob B w (.slice va l c) L) (hL : L.length = l) (hl : l ≤ 1000) (hm : 0 ≤ m ∧ m ≤ 200) :
    Calls Try.prog 9 #[.slice va l c, .int .u8 m] w fun e w' => (∃ ag cg, e = .returned (.agg #[.slice va l c, .slice ag (l + 64) cg, .int .u8 m]) ∧ By (fun q => (Value.slice va l c).ownBlock = some q) w' (.slice va l c) (List.replicate l m) ∧ By (fun q => (Value.slice va l c).ownBlock = some q ∨ w.heap.size ≤ q) w' (.slice ag (l + 64) cg) (List.replicate l m ++ List.replicate 64 (m + 1))) ∧ Only (fun q => (Value.slice va l c).ownBlock = some q) w w' := by
  obtain ⟨ti, hi, hx⟩ := Option.map_eq_some_iff.1 infoB
  have hi0 : ti.zero = some (.int .u8 0) := congrArg (·.1) hx
  have hi1 : ti.size = 1 := congrArg (·.2.1) hx
  have hi2 : ti.bytes = 1 := congrArg (·.2.2) hx
  have wm : IntKind.u8.wrap (m + 1) = m + 1 := wrap8 _ (by omega)
  have hlt : ∀ q, (Value.slice va l c).ownBlock = some q → q < w.heap.size := fun q hq => (hO.lt q hq).2
  have hO0 : Hid (Ob 0 (w.alloc (.cells #[.slice none 0 0, .slice none 0 0, .int .u8 0] 32)) (.slice va l c) L) := (hO.mono (Nat.zero_le _)).below belN1
  have hR0 : Hid (Has (w.alloc (.cells #[.slice none 0 0, .slice none 0 0, .int .u8 0] 32)) w.heap.size #[.slice none 0 0, .slice none 0 0, .int .u8 0]) := Has.new _ _ _ rfl
  have ho0 : Hid (Only (fun q => (Value.slice va l c).ownBlock = some q) w (w.alloc (.cells #[.slice none 0 0, .slice none 0 0, .int .u8 0] 32))) := (Only.refl _ w).alloc _
  clear hO
  go_enter Try.func9, Try.ntmps9
  go_upto_region 1 with fail
  generalize w.alloc (.cells #[.slice none 0 0, .slice none 0 0, .int .u8 0] 32) = V at *
  go_wp2_with fail
  go_loopw [5] (fun s wr => ∃ (k : Nat) (C : List Int), k ≤ l ∧ s = .int .i64 (k : Int) ∧ Hid (C.length = l) ∧ Hid (∀ t, t < k → C[t]? = some m) ∧ Hid (Ob 0 wr (.slice va l c) C) ∧ Hid (Only (fun q => (Value.slice va l c).ownBlock = some q) w wr) ∧ Hid (Has wr w.heap.size #[.slice none 0 0, .slice none 0 0, .int .u8 0])) (fun s _ => l - (intOf s).toNat)
  case atStart => exact ⟨0, L, by omega, rfl, hL, fun t ht => by omega, hO0, ho0, hR0⟩
  case round =>
    clear hO0 hR0 ho0 hL
    obtain ⟨k, C, hk, rfl, hC', hm', hO', ho', hR'⟩ := hrel
    by_cases hkl : k < l
    case neg =>
      have t1 : ¬ (k : Int) < (l : Int) := by omega
      obtain rfl : k = l := by omega
      have eC := rep_ext hC'.out hm'.out
      have s0 : Hid (Sp (.slice va k c) k m 0 (.slice va k c) w wr) := by
        have hOo := hO'.out
        rw [eC] at hOo
        refine ⟨?_, by simpa using hOo, fun q hq => .inl hq, hlt, ho'.out, hR'.out⟩
        rcases hOo.val with ⟨e, e2⟩ | ⟨g, c', e⟩
        · injection e with e e3 e4
          exact .inl ⟨by rw [e, e3, e4], e3⟩
        · rw [List.length_replicate] at e
          rw [e] at hOo
          obtain ⟨-, -, h2, h3, -, h5⟩ := hOo.cells
          refine .inr ⟨g, c', e, by simpa using h3, h2, fun j hj => ?_⟩
          rw [(h5 j (by rw [List.length_replicate]; exact hj)).1, List.getElem_replicate]
      clear hC' hm' hO' ho' hR' eC C
      go_wp2_with fail
      go_loopw [6, 7] (fun a i wr => ∃ (j : Nat) (vg : Value), j ≤ 64 ∧ a = vg ∧ i = .int .i64 (j : Int) ∧ Hid (Sp (.slice va k c) k m j vg w wr)) (fun _ i _ => 64 - (intOf i).toNat)
      case atStart => exact ⟨0, _, by omega, rfl, rfl, s0⟩
      case round =>
        clear s0
        obtain ⟨j, vg, hj, hv, rfl, hs'⟩ := hrel
        have hv' := hv.symm
        clear hv
        subst hv'
        have hs := hs'.out
        have hlen : (List.replicate k m ++ List.replicate j (m + 1)).length = k + j := by simp
        obtain ⟨ag, cg, hvg⟩ := hs.row.form
        rw [hlen] at hvg
        subst hvg
        by_cases hj64 : j < 64
        case neg =>
          obtain rfl : j = 64 := by omega
          have t2 : ¬ ((64 : Nat) : Int) < 64 := by decide
          have r0 := hs.res.2.1 0
          have r1 := hs.res.2.1 1
          have r2 := hs.res.2.1 2
          have rf := hs.res.2.2
          have hF : Has (((wr.setCell ⟨w.heap.size, 0, none⟩ (.slice va k c)).setCell ⟨w.heap.size, 1, none⟩ (.slice ag (k + 64) cg)).setCell ⟨w.heap.size, 2, none⟩ (.int .u8 m)) w.heap.size #[.slice va k c, .slice ag (k + 64) cg, .int .u8 m] := ((hs.res.set 0 (by simp) _).set 1 (by simp) _).set 2 (by simp) _
          have hOn : Only (fun q => q = w.heap.size) wr (((wr.setCell ⟨w.heap.size, 0, none⟩ (.slice va k c)).setCell ⟨w.heap.size, 1, none⟩ (.slice ag (k + 64) cg)).setCell ⟨w.heap.size, 2, none⟩ (.int .u8 m)) := (((Only.refl (fun q => q = w.heap.size) wr).set (b := w.heap.size) (i := 0) rfl _).set (b := w.heap.size) (i := 1) rfl _).set (b := w.heap.size) (i := 2) rfl _
          have hsb : Hid _ := hs
          clear hs
          go_wp2_with fail
          have hs := hsb.out
          have iF := hF.2.1
          have B1 : By (fun q => (Value.slice va k c).ownBlock = some q) wr (.slice va k c) (List.replicate k m) := by
            rcases hs.1 with ⟨e, e2⟩ | ⟨g, c', e, h1, h2, h3⟩
            · injection e with e3 e4 e5
              subst e2
              exact ⟨va, c, by rfl, Nat.zero_le _, by simp, fun _ => rfl, .inl rfl⟩
            · injection e with e3 e4 e5
              subst e3
              subst e5
              exact ⟨_, c, by rw [List.length_replicate], by rw [List.length_replicate]; exact h1, by rw [List.length_replicate]; omega, fun e => (by cases e), .inr ⟨g, 0, rfl, rfl, h2, fun i hi => by rw [Nat.zero_add, h3 i (by rw [List.length_replicate] at hi; exact hi), List.getElem_replicate]⟩⟩
          have B2 := hs.2.by
          refine bodyPost_ret (v := .agg #[.slice va k c, .slice ag (k + 64) cg, .int .u8 m]) (by simp [results, Try.results9, go_sem, iF]) rfl ⟨⟨ag, cg, rfl, B1.keep (mv_only hOn (fun q hq e => by have := hlt q hq; omega)), ?_⟩, ((hs.5.set_new (Nat.le_refl _) _).set_new (Nat.le_refl _) _).set_new (Nat.le_refl _) _⟩
          refine (B2.keep (mv_only hOn (fun q hq e => ?_))).keep (Mv.weak (fun q _ hq => ?_))
          · subst e
            rcases hs.3 _ hq with h1 | h1
            · exact absurd (hlt _ h1) (Nat.lt_irrefl _)
            · exact absurd h1 (Nat.lt_irrefl _)
          · rcases hs.3 _ hq with h1 | h1
            · exact .inl h1
            · exact .inr (Nat.le_of_lt h1)
        have t2 : (j : Int) < 64 := by omega
        have hsa := hs.below (belN1 (o1 := .cells #[.int .u8 (m + 1)] 5))
        have hrow := hsa.row
        have cm := (Has.new wr #[.int .u8 (m + 1)] 5 rfl).2.1 0
        have hsa' : Hid (Sp (.slice va k c) k m j (.slice ag (k + j) cg) w (wr.alloc (.cells #[.int .u8 (m + 1)] 5))) := hsa
        have hlen' : Hid ((List.replicate k m ++ List.replicate j (m + 1)).length = k + j) := hlen
        clear hs hsa hlen hs'
        go_wp2_with (at_builtin; (refine wpList_append_ob rfl _ _ rfl ti hi hi0 hi1 hi2 0 (.slice ag (k + j) cg) (List.replicate k m ++ List.replicate j (m + 1)) rfl hrow (by have := hlen'.out; omega) ⟨wr.heap.size, 0, none⟩ 1 (m + 1) rfl cm ?_); intro g' cap' w' base p1 p2 p3 p4)
        go_roundw
        case rel =>
          refine ⟨j + 1, _, by omega, rfl, by go_num, ?_⟩
          have hap := Sp.app hsa'.out p1 (by have := hlen'.out; omega) p2 p3 p4
          rw [hlen'.out] at hap
          exact hap
        case measure => simp [intOf]; omega
    have t1 : (k : Int) < (l : Int) := by omega
    have t3 : (0 : Int) ≤ (k : Int) := by omega
    obtain ⟨g, cap, hv⟩ : ∃ g cap, Value.slice va l c = .slice (some ⟨g, 0, none⟩) l cap := by
      rcases hO'.out.val with ⟨e, e2⟩ | ⟨g, cap, e⟩
      · have := hC'.out; rw [e2] at this; simp at this; omega
      · rw [hC'.out] at e; exact ⟨g, cap, e⟩
    injection hv with hv1 _ hv3
    subst hv1
    subst hv3
    obtain ⟨-, -, hgl, -, -, hcl⟩ := hO'.out.cells
    obtain ⟨cg, fz⟩ := hcl k (by rw [hC'.out]; exact hkl)
    clear hcl
    have hgw := hlt g rfl
    go_wp2_with fail
    go_roundw
    case rel =>
      refine ⟨k + 1, C.set k m, by omega, by go_num, ?_, ?_, hO'.out.set k hkl m, ho'.out.set rfl _, hR'.out.far (by omega) _⟩
      · show (C.set k m).length = l
        rw [List.length_set]; exact hC'.out
      · intro t ht
        rw [List.getElem?_set]
        by_cases e : k = t
        · subst e; rw [if_pos rfl, if_pos (by rw [hC'.out]; exact hkl)]
        · rw [if_neg e]; exact hm'.out t (by omega)
    case measure => simp [intOf]; omega
end Go.Proofs.Ytahheagfgfpdmaa
