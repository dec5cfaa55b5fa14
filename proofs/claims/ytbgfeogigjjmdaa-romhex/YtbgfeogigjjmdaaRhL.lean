import Derived.Test.YtbgfeogigjjmdaaRhK
import Derived.Laws.AppendOwnNone
namespace Go.Proofs.Ytbgfeogigjjmdaa
open Go.RowKit
set_option linter.unusedVariables false

theorem sl_hi (g n k C : Nat) (hn : n ≤ C) (hC : 0 < C) (w : World) :
    Sem.run Try.prog (Instr.slice 22 (.slice (some ⟨g, 0, none⟩) k C) none (some (.int .i64 (n : Int))) none) w = .ok (.slice (some ⟨g, 0, none⟩) n C) w := by
  have h1 : (0 : Int) ≤ (n : Int) := by omega
  have h2 : (n : Int) ≤ (C : Int) := by omega
  have h3 : ¬ C = 0 := by omega
  simp [go_sem, h1, h2, h3]
theorem sl_lo (g n k C : Nat) (hn : n ≤ k) (hk : k ≤ C) (hC : n < C) (w : World) :
    Sem.run Try.prog (Instr.slice 22 (.slice (some ⟨g, 0, none⟩) k C) (some (.int .i64 (n : Int))) none none) w = .ok (.slice (some ⟨g, n, none⟩) (k - n) (C - n)) w := by
  have h1 : (0 : Int) ≤ (n : Int) := by omega
  have h2 : (n : Int) ≤ (k : Int) := by omega
  have h4 : ¬ C = n := by omega
  simp [go_sem, h1, h2, h4]
theorem own_cells {w : World} {B n : Nat} {g C : Nat} {X : List Nat} (h : w.ownsRow B 5 1 (.slice (some ⟨g, 0, none⟩) n C) n (v8 X)) (hn : n = X.length) : n ≤ C ∧ C ≤ maxLen ∧ g < w.heap.size ∧ B ≤ g ∧ ∀ i, i < X.length → w.cell? ⟨g, i, none⟩ = some (.int .u8 ((X.getD i 0 : Nat) : Int)) := by
  subst hn
  have h' := h
  rcases h.2 with ⟨e, _⟩ | ⟨g', cap, cur, e, h1, h2, hc, hm, _⟩
  · cases e
  · cases e
    exact ⟨hc, hm, (Array.getElem?_eq_some_iff.1 h2).1, h1, fun i hi => by rw [h'.cellAt i (by omega), v8_get _ i hi]⟩

set_option maxRecDepth 100000 in
set_option maxHeartbeats 8000000 in
theorem romHex_some (D : List Nat) (ad : Addr) (cap : Nat) (s : ByteArray) (w : World) (hD : Bs w (some ad) D) (hc : D.length ≤ cap) (hcm : cap ≤ 9223372036854775807) (hn : D.length + 3 ≤ 140737488355328) (hs : s.size < 4611686018427387904) :
    Calls Try.prog 5 #[.slice (some ad) D.length cap, .string s] w fun e w' => e = .returned (.bool true) ∧ Below w.heap.size w w' := by
  obtain ⟨T, f, h9, h6⟩ := to_pair D hD.1
  obtain ⟨c, ln, col, L, hLl, h10, h7⟩ := from_pair s hs
  obtain ⟨i5, hi, hz0, hz1, hz2⟩ := info_parts info5
  have hT := h9 w (some ad) cap hD hc hcm
  have hD' : Hid (Bs w (some ad) D) := hD
  have h6' : Hid (∀ (W : World) (a : Option Addr) (cap : Nat), Bs W a D → D.length ≤ cap → cap ≤ 9223372036854775807 → Calls Try.prog 6 #[.slice a D.length cap] W fun e w' => e = .returned (.tuple #[.string T, .int .i64 f]) ∧ Below W.heap.size W w') := h6
  have hq1 : Hid (0 + D.length ≤ maxLen) := by show _ ≤ _; unfold maxLen; omega
  have hq2 : Hid (D.length + 3 ≤ maxLen) := by show _ ≤ _; unfold maxLen; omega
  have hq3 : Hid ((0 + D.length) * 1 ≤ 140737488355328) := by show _ ≤ _; omega
  have hq4 : Hid ((D.length + 3) * 1 ≤ 140737488355328) := by show _ ≤ _; omega
  have h123 : Hid (v8 (D ++ [1, 2, 3]) = v8 D ++ [.int .u8 1, .int .u8 2, .int .u8 3]) := by show _ = _; rw [v8_app]; rfl
  have hl123 : Hid ((D ++ [1, 2, 3]).length = D.length + 3) := by show _ = _; rw [List.length_append]; rfl
  clear h9 h6 hD
  go_enter Try.func5, Try.ntmps5
  go_upto_region 2 with (go_at_call 9; (with_reducible refine Calls.mono hT ?_); rintro e w1 ⟨rfl, hE1⟩)
  have hD1 := hD'.out.below hE1
  have hnews : Hid (∀ j u, (v8 D)[j]? = some u → ∀ ad' : Addr, (some ad) = some ad' → w1.cell? (ad'.add j) = some u) := by
    intro j u hj ad' had
    have hjl : j < D.length := by
      have := (List.getElem?_eq_some_iff.1 hj).1
      rwa [v8_len] at this
    obtain ⟨gb, go, e, _, hcl⟩ := hD1.cell (by omega)
    have e2 : ad' = ⟨gb, go, none⟩ := Option.some.inj (had.symm.trans e)
    subst e2
    rw [v8_get D j hjl] at hj
    rw [Go.WideShapes.add_plain, ← hj]
    exact hcl j hjl
  go_upto_region 3 with (first
    | (at_builtin; refine wpList_append_own _ rfl _ _ 22 rfl w1.heap.size 5 i5 _ 1 1 Try.underlying22 hi hz0 hz1 hz2 rfl (by decide) (.slice none 0 0) 0 [] rfl (World.ownsRow_nil _ _ _ _) ad D.length cap (v8 D) rfl (by rw [v8_len]; omega) (fun j u hj => hnews.out j u hj ad rfl) (v8_one D) hq1.out hq3.out (Nat.le_refl _) ?_; intro vb wb ownb hgb hnilb; rw [Nat.zero_add, List.nil_append] at ownb; have hEb : Below w1.heap.size w1 wb := grown_none hgb; have hsb := hEb.size)
    | (at_builtin; refine wpList_append_lies _ rfl _ _ 22 rfl w1.heap.size 5 i5 _ 1 1 Try.underlying22 hi hz0 hz1 hz2 rfl (by decide) vb D.length (v8 D) rfl (ownb.alloc _) ⟨wb.heap.size, 0, none⟩ 3 3 [.int .u8 1, .int .u8 2, .int .u8 3] rfl rfl (fun j u hj => by rw [Go.WideShapes.add_plain, Nat.zero_add, (Has.new wb #[.int .u8 1, .int .u8 2, .int .u8 3] 5 rfl).2.1 j]; simpa using hj) (fun u hu => by simp at hu; rcases hu with rfl | rfl | rfl <;> rfl) (by decide) hq2.out hq4.out (by simp <;> omega) (wb.heap.size + 1) (by simp) ?_; intro g2 k2 w2 own2 hgr2 hat2 hlt2))
  have hE2 : Below w1.heap.size w1 w2 := (hEb.alloc hsb (.cells #[.int .u8 1, .int .u8 2, .int .u8 3] 5)).grown hgr2 (by simp <;> omega) (fun q hq => (ownb.lt q hq).1)
  rw [← h123.out] at own2
  obtain ⟨hk1, hk2, hg1, hg2, hcl2⟩ := own_cells own2 hl123.out.symm
  have hk3 : k2 ≤ 9223372036854775807 := by unfold maxLen at hk2; omega
  have hEw2 : Below w.heap.size w w2 := hE1.trans (hE2.mono hE1.size)
  have hBf : Bs w2 (some ⟨g2, 0, none⟩) D := ⟨hD'.out.1, .inr ⟨g2, 0, rfl, hg1, fun i hi => by
    rw [Nat.zero_add, hcl2 i (by rw [hl123.out]; omega), List.getD_eq_getElem?_getD, List.getD_eq_getElem?_getD, List.getElem?_append_left hi]⟩⟩
  have hBt : Bs w2 (some ⟨g2, D.length, none⟩) [1, 2, 3] := ⟨by simp, .inr ⟨g2, D.length, rfl, hg1, fun i hi => by
    rw [hcl2 (D.length + i) (by rw [hl123.out]; simp at hi; omega), List.getD_eq_getElem?_getD, List.getD_eq_getElem?_getD, List.getElem?_append_right (by omega), Nat.add_sub_cancel_left]⟩⟩
  have s1 := sl_hi g2 D.length (D.length + 3) k2 (by omega) (by omega)
  have s2 : ∀ V : World, Sem.run Try.prog (Instr.slice 22 (.slice (some ⟨g2, 0, none⟩) (D.length + 3) k2) (some (.int .i64 (D.length : Int))) none none) V = .ok (.slice (some ⟨g2, D.length, none⟩) 3 (k2 - D.length)) V := fun V => by
    have := sl_lo g2 D.length (D.length + 3) k2 (by omega) hk1 (by omega) V
    rwa [Nat.add_sub_cancel_left] at this
  have hcall6 := h6'.out w2 (some ⟨g2, 0, none⟩) k2 hBf (by omega) hk3
  have hn47 : D.length ≤ 140737488355328 := by omega
  clear own2 hcl2 hgr2 hat2 hlt2 ownb hEb hsb hnews h123 hl123
  go_upto_region 4 with (go_at_call 6; (with_reducible refine Calls.mono hcall6 ?_); rintro e w3 ⟨rfl, hE3⟩)
  have hEw3 : Below w.heap.size w w3 := hEw2.trans (hE3.mono hEw2.size)
  have hr1 := romBytes_same D (some ⟨g2, 0, none⟩) (some ad) k2 cap w3 (hBf.below hE3) (hD'.out.below hEw3) hn47
  go_upto_region 6 with (first
    | (go_at_call 8; (with_reducible refine Calls.mono hr1 ?_); rintro e w4 ⟨rfl, hE4⟩; have hs4 := hE4.size; have hBt4 := (hBt.below hE3).below hE4; have hr2 := romBytes_same [1, 2, 3] (some ⟨g2, D.length, none⟩) (some ⟨w4.heap.size, 0, none⟩) (k2 - D.length) 3 (w4.alloc (.cells #[.int .u8 1, .int .u8 2, .int .u8 3] 5)) (hBt4.below ((Below.refl _ _).alloc (Nat.le_refl _) _)) ⟨by simp, .inr ⟨w4.heap.size, 0, rfl, by simp, fun i hi => by rw [Nat.zero_add, (Has.new w4 #[.int .u8 1, .int .u8 2, .int .u8 3] 5 rfl).2.1 i]; match i, hi with | 0, _ => rfl | 1, _ => rfl | 2, _ => rfl⟩⟩ (by decide))
    | (go_at_call 8; (with_reducible refine Calls.mono hr2 ?_); rintro e w5 ⟨rfl, hE5⟩))
  have hE45 : Below w3.heap.size w3 w5 := (hE4.alloc hs4 (.cells #[.int .u8 1, .int .u8 2, .int .u8 3] 5)).trans (hE5.mono (by simp; omega))
  have hEw5 : Below w.heap.size w w5 := hEw3.trans (hE45.mono hEw3.size)
  clear hr1 hr2 hE4 hE5 hE45 hBt hBt4 hBf hcall6 h6' hT s1 s2 hD1 hD' hE1 hE2 hE3 hs4
  have hc10 := h10 w5
  go_upto_region 7 with (go_at_call 10; (with_reducible refine Calls.mono hc10 ?_); rintro e w6 ⟨a1, cp1, rfl, hB6, hE6⟩)
  have hEw6 : Below w.heap.size w w6 := hEw5.trans (hE6.mono hEw5.size)
  have hal6 : Below w6.heap.size w6 (w6.alloc (.cells #[.int .i64 c, .int .i64 ln, .int .i64 col] 29)) := (Below.refl _ _).alloc (Nat.le_refl _) _
  have hEa6 : Below w.heap.size w (w6.alloc (.cells #[.int .i64 c, .int .i64 ln, .int .i64 col] 29)) := hEw6.alloc hEw6.size _
  have hA6 : Has (w6.alloc (.cells #[.int .i64 c, .int .i64 ln, .int .i64 col] 29)) w6.heap.size #[.int .i64 c, .int .i64 ln, .int .i64 col] := Has.new _ _ _ rfl
  have hB6a := hB6.below hal6
  have hc7 := h7 (w6.alloc (.cells #[.int .i64 c, .int .i64 ln, .int .i64 col] 29))
  clear hc10 h10 h7 hB6 hE6 hEw5 hal6
  go_upto_region 8 with (go_at_call 7; (with_reducible refine Calls.mono hc7 ?_); rintro e w7 ⟨a2, cp2, rfl, hB7, hE7⟩)
  have hal7 : Below w7.heap.size w7 (w7.alloc (.cells #[.int .i64 c, .int .i64 ln, .int .i64 col] 29)) := (Below.refl _ _).alloc (Nat.le_refl _) _
  have hb1 : Has (w7.alloc (.cells #[.int .i64 c, .int .i64 ln, .int .i64 col] 29)) w6.heap.size #[.int .i64 c, .int .i64 ln, .int .i64 col] := (hA6.below hE7).alloc _
  have k0 := hb1.2.1 0
  have k1 := hb1.2.1 1
  have k2' := hb1.2.1 2
  have hr3 := romBytes_same L a2 a1 cp2 cp1 _ (hB7.below hal7) ((hB6a.below hE7).below hal7) hLl
  have hEw7 : Below w.heap.size w (w7.alloc (.cells #[.int .i64 c, .int .i64 ln, .int .i64 col] 29)) := (hEa6.trans (hE7.mono hEa6.size)).alloc (Nat.le_trans hEa6.size hE7.size) _
  go_wp2_with (go_at_call 8; (with_reducible refine Calls.mono hr3 ?_); rintro e w8 ⟨rfl, hE8⟩)
  go_ret
  exact ⟨rfl, hEw7.trans (hE8.mono hEw7.size)⟩

set_option maxRecDepth 100000 in
set_option maxHeartbeats 8000000 in
theorem romHex_nil (D : List Nat)  (s : ByteArray) (w : World) (hD : Bs w none D) (hc : D.length ≤ 0) (hcm : 0 ≤ 9223372036854775807) (hnil : Hid (D = [])) (hn : D.length + 3 ≤ 140737488355328) (hs : s.size < 4611686018427387904) :
    Calls Try.prog 5 #[.slice none D.length 0, .string s] w fun e w' => e = .returned (.bool true) ∧ Below w.heap.size w w' := by
  obtain ⟨T, f, h9, h6⟩ := to_pair D hD.1
  obtain ⟨c, ln, col, L, hLl, h10, h7⟩ := from_pair s hs
  obtain ⟨i5, hi, hz0, hz1, hz2⟩ := info_parts info5
  have hT := h9 w none 0 hD hc hcm
  have hD' : Hid (Bs w none D) := hD
  have h6' : Hid (∀ (W : World) (a : Option Addr) (cap : Nat), Bs W a D → D.length ≤ cap → cap ≤ 9223372036854775807 → Calls Try.prog 6 #[.slice a D.length cap] W fun e w' => e = .returned (.tuple #[.string T, .int .i64 f]) ∧ Below W.heap.size W w') := h6
  have hq1 : Hid (0 + D.length ≤ maxLen) := by show _ ≤ _; unfold maxLen; omega
  have hq2 : Hid (D.length + 3 ≤ maxLen) := by show _ ≤ _; unfold maxLen; omega
  have hq3 : Hid ((0 + D.length) * 1 ≤ 140737488355328) := by show _ ≤ _; omega
  have hq4 : Hid ((D.length + 3) * 1 ≤ 140737488355328) := by show _ ≤ _; omega
  have h123 : Hid (v8 (D ++ [1, 2, 3]) = v8 D ++ [.int .u8 1, .int .u8 2, .int .u8 3]) := by show _ = _; rw [v8_app]; rfl
  have hl123 : Hid ((D ++ [1, 2, 3]).length = D.length + 3) := by show _ = _; rw [List.length_append]; rfl
  clear h9 h6 hD hc
  go_enter Try.func5, Try.ntmps5
  go_upto_region 2 with (go_at_call 9; (with_reducible refine Calls.mono hT ?_); rintro e w1 ⟨rfl, hE1⟩)
  have hD1 := hD'.out.below hE1
  have hnews : Hid (∀ j u, (v8 D)[j]? = some u → ∀ ad' : Addr, none = some ad' → w1.cell? (ad'.add j) = some u) := by
    intro j u hj ad' had
    have hjl : j < D.length := by
      have := (List.getElem?_eq_some_iff.1 hj).1
      rwa [v8_len] at this
    obtain ⟨gb, go, e, _, hcl⟩ := hD1.cell (by omega)
    have e2 : ad' = ⟨gb, go, none⟩ := Option.some.inj (had.symm.trans e)
    subst e2
    rw [v8_get D j hjl] at hj
    rw [Go.WideShapes.add_plain, ← hj]
    exact hcl j hjl
  go_upto_region 3 with (first
    | (at_builtin; refine wpList_append_own_none rfl _ _ 22 rfl w1.heap.size 5 i5 1 Try.underlying22 hi (.slice none 0 0) 0 [] rfl (World.ownsRow_nil _ _ _ _) (by show Value.slice none D.length 0 = _; rw [hnil.out]; rfl) ?_; have ownb : w1.ownsRow w1.heap.size 5 1 (.slice none 0 0) D.length (v8 D) := (by rw [hnil.out]; exact World.ownsRow_nil _ _ _ _); have hEb : Below w1.heap.size w1 w1 := Below.refl _ _; have hsb := hEb.size)
    | (at_builtin; refine wpList_append_lies _ rfl _ _ 22 rfl w1.heap.size 5 i5 _ 1 1 Try.underlying22 hi hz0 hz1 hz2 rfl (by decide) (.slice none 0 0) D.length (v8 D) rfl (ownb.alloc _) ⟨w1.heap.size, 0, none⟩ 3 3 [.int .u8 1, .int .u8 2, .int .u8 3] rfl rfl (fun j u hj => by rw [Go.WideShapes.add_plain, Nat.zero_add, (Has.new w1 #[.int .u8 1, .int .u8 2, .int .u8 3] 5 rfl).2.1 j]; simpa using hj) (fun u hu => by simp at hu; rcases hu with rfl | rfl | rfl <;> rfl) (by decide) hq2.out hq4.out (by simp <;> omega) (w1.heap.size + 1) (by simp) ?_; intro g2 k2 w2 own2 hgr2 hat2 hlt2))
  have hE2 : Below w1.heap.size w1 w2 := (hEb.alloc hsb (.cells #[.int .u8 1, .int .u8 2, .int .u8 3] 5)).grown hgr2 (by simp <;> omega) (fun q hq => (ownb.lt q hq).1)
  rw [← h123.out] at own2
  obtain ⟨hk1, hk2, hg1, hg2, hcl2⟩ := own_cells own2 hl123.out.symm
  have hk3 : k2 ≤ 9223372036854775807 := by unfold maxLen at hk2; omega
  have hEw2 : Below w.heap.size w w2 := hE1.trans (hE2.mono hE1.size)
  have hBf : Bs w2 (some ⟨g2, 0, none⟩) D := ⟨hD'.out.1, .inr ⟨g2, 0, rfl, hg1, fun i hi => by
    rw [Nat.zero_add, hcl2 i (by rw [hl123.out]; omega), List.getD_eq_getElem?_getD, List.getD_eq_getElem?_getD, List.getElem?_append_left hi]⟩⟩
  have hBt : Bs w2 (some ⟨g2, D.length, none⟩) [1, 2, 3] := ⟨by simp, .inr ⟨g2, D.length, rfl, hg1, fun i hi => by
    rw [hcl2 (D.length + i) (by rw [hl123.out]; simp at hi; omega), List.getD_eq_getElem?_getD, List.getD_eq_getElem?_getD, List.getElem?_append_right (by omega), Nat.add_sub_cancel_left]⟩⟩
  have s1 := sl_hi g2 D.length (D.length + 3) k2 (by omega) (by omega)
  have s2 : ∀ V : World, Sem.run Try.prog (Instr.slice 22 (.slice (some ⟨g2, 0, none⟩) (D.length + 3) k2) (some (.int .i64 (D.length : Int))) none none) V = .ok (.slice (some ⟨g2, D.length, none⟩) 3 (k2 - D.length)) V := fun V => by
    have := sl_lo g2 D.length (D.length + 3) k2 (by omega) hk1 (by omega) V
    rwa [Nat.add_sub_cancel_left] at this
  have hcall6 := h6'.out w2 (some ⟨g2, 0, none⟩) k2 hBf (by omega) hk3
  have hn47 : D.length ≤ 140737488355328 := by omega
  clear own2 hcl2 hgr2 hat2 hlt2 ownb hEb hsb hnews h123 hl123
  go_upto_region 4 with (go_at_call 6; (with_reducible refine Calls.mono hcall6 ?_); rintro e w3 ⟨rfl, hE3⟩)
  have hEw3 : Below w.heap.size w w3 := hEw2.trans (hE3.mono hEw2.size)
  have hr1 := romBytes_same D (some ⟨g2, 0, none⟩) none k2 0 w3 (hBf.below hE3) (hD'.out.below hEw3) hn47
  go_upto_region 6 with (first
    | (go_at_call 8; (with_reducible refine Calls.mono hr1 ?_); rintro e w4 ⟨rfl, hE4⟩; have hs4 := hE4.size; have hBt4 := (hBt.below hE3).below hE4; have hr2 := romBytes_same [1, 2, 3] (some ⟨g2, D.length, none⟩) (some ⟨w4.heap.size, 0, none⟩) (k2 - D.length) 3 (w4.alloc (.cells #[.int .u8 1, .int .u8 2, .int .u8 3] 5)) (hBt4.below ((Below.refl _ _).alloc (Nat.le_refl _) _)) ⟨by simp, .inr ⟨w4.heap.size, 0, rfl, by simp, fun i hi => by rw [Nat.zero_add, (Has.new w4 #[.int .u8 1, .int .u8 2, .int .u8 3] 5 rfl).2.1 i]; match i, hi with | 0, _ => rfl | 1, _ => rfl | 2, _ => rfl⟩⟩ (by decide))
    | (go_at_call 8; (with_reducible refine Calls.mono hr2 ?_); rintro e w5 ⟨rfl, hE5⟩))
  have hE45 : Below w3.heap.size w3 w5 := (hE4.alloc hs4 (.cells #[.int .u8 1, .int .u8 2, .int .u8 3] 5)).trans (hE5.mono (by simp; omega))
  have hEw5 : Below w.heap.size w w5 := hEw3.trans (hE45.mono hEw3.size)
  clear hr1 hr2 hE4 hE5 hE45 hBt hBt4 hBf hcall6 h6' hT s1 s2 hD1 hD' hE1 hE2 hE3 hs4
  have hc10 := h10 w5
  go_upto_region 7 with (go_at_call 10; (with_reducible refine Calls.mono hc10 ?_); rintro e w6 ⟨a1, cp1, rfl, hB6, hE6⟩)
  have hEw6 : Below w.heap.size w w6 := hEw5.trans (hE6.mono hEw5.size)
  have hal6 : Below w6.heap.size w6 (w6.alloc (.cells #[.int .i64 c, .int .i64 ln, .int .i64 col] 29)) := (Below.refl _ _).alloc (Nat.le_refl _) _
  have hEa6 : Below w.heap.size w (w6.alloc (.cells #[.int .i64 c, .int .i64 ln, .int .i64 col] 29)) := hEw6.alloc hEw6.size _
  have hA6 : Has (w6.alloc (.cells #[.int .i64 c, .int .i64 ln, .int .i64 col] 29)) w6.heap.size #[.int .i64 c, .int .i64 ln, .int .i64 col] := Has.new _ _ _ rfl
  have hB6a := hB6.below hal6
  have hc7 := h7 (w6.alloc (.cells #[.int .i64 c, .int .i64 ln, .int .i64 col] 29))
  clear hc10 h10 h7 hB6 hE6 hEw5 hal6
  go_upto_region 8 with (go_at_call 7; (with_reducible refine Calls.mono hc7 ?_); rintro e w7 ⟨a2, cp2, rfl, hB7, hE7⟩)
  have hal7 : Below w7.heap.size w7 (w7.alloc (.cells #[.int .i64 c, .int .i64 ln, .int .i64 col] 29)) := (Below.refl _ _).alloc (Nat.le_refl _) _
  have hb1 : Has (w7.alloc (.cells #[.int .i64 c, .int .i64 ln, .int .i64 col] 29)) w6.heap.size #[.int .i64 c, .int .i64 ln, .int .i64 col] := (hA6.below hE7).alloc _
  have k0 := hb1.2.1 0
  have k1 := hb1.2.1 1
  have k2' := hb1.2.1 2
  have hr3 := romBytes_same L a2 a1 cp2 cp1 _ (hB7.below hal7) ((hB6a.below hE7).below hal7) hLl
  have hEw7 : Below w.heap.size w (w7.alloc (.cells #[.int .i64 c, .int .i64 ln, .int .i64 col] 29)) := (hEa6.trans (hE7.mono hEa6.size)).alloc (Nat.le_trans hEa6.size hE7.size) _
  go_wp2_with (go_at_call 8; (with_reducible refine Calls.mono hr3 ?_); rintro e w8 ⟨rfl, hE8⟩)
  go_ret
  exact ⟨rfl, hEw7.trans (hE8.mono hEw7.size)⟩
end Go.Proofs.Ytbgfeogigjjmdaa
