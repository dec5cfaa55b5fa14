import Derived.Test.YtjohnhaahpggkaaDoorSclW
namespace Go.Proofs.YtjohnhaahpggkaaDoor
open Go.RowKit
set_option linter.unusedVariables false

set_option maxRecDepth 100000 in
set_option maxHeartbeats 4000000 in
theorem scl_bad (s : ByteArray) (X Y Z : Int) (W : World)
    (hA : ∀ U, Below W.heap.size W U → Calls Tryd.prog 17 #[.string s] U fun e w' => e = .returned (.tuple #[.slice none 0 0, .agg #[.int .i64 X, .int .i64 Y, .int .i64 Z]]) ∧ Below U.heap.size U w')
    (hB : ∀ U, Below W.heap.size W U → Calls Tryd.prog 20 #[.string s] U fun e w' => e = .returned (.tuple #[.slice none 0 0, .agg #[.int .i64 X, .int .i64 Y, .int .i64 Z]]) ∧ Below U.heap.size U w') :
    Calls Tryd.prog 7 #[.string s] W fun e w' => e = .returned (.bool true) ∧ Below W.heap.size W w' := by
  have hL : ∀ U, Calls Tryd.prog 18 #[.slice none 0 0, .slice none 0 0] U fun e w' => e = .returned (.bool true) ∧ ∃ n, w' = U.drewN n := fun U => alike_same [] _ _ U ⟨none, 0, rfl, .inl rfl⟩ ⟨none, 0, rfl, .inl rfl⟩ (by simp)
  have hA1 := hA W (Below.refl _ _)
  go_enter Tryd.func7, Tryd.ntmps7
  go_wp2_with (first
    | (go_at_call 17; (with_reducible refine hA1.mono ?_); rintro e w1 ⟨rfl, hb1⟩; clear hA1)
    | (go_at_call 20; (with_reducible refine (hB _ (hb1.alloc (by have := hb1.size; omega) _)).mono ?_); rintro e w2 ⟨rfl, hb2⟩; have hF2 := (Has.new w1 #[.int .i64 X, .int .i64 Y, .int .i64 Z] 42 rfl).below hb2; obtain ⟨f0, F1, f2⟩ := id hF2)
    | (go_at_call 18; (with_reducible refine (hL _).mono ?_); rintro e w3 ⟨rfl, n3, hw3⟩; have hG3 : Has w3 w2.heap.size #[.int .i64 X, .int .i64 Y, .int .i64 Z] := by rw [hw3]; exact (Has.new w2 #[.int .i64 X, .int .i64 Y, .int .i64 Z] 42 rfl).drewN n3))
  have hB3 : Below W.heap.size W w3 := by
    rw [hw3]
    have h1 := hb1.size
    have h2 := hb2.size
    exact bel_drewN ((((hb1.alloc (by omega) _).trans (hb2.mono (by simp; omega)))).alloc (by simp at h2; omega) _)
  go_loopw [7] (fun ti wr => ti = .int .i64 0 ∧ wr = w3) (fun _ _ => 0)
  case atStart => exact ⟨rfl, hw3.symm⟩
  case round =>
    obtain ⟨rfl, rfl⟩ := hrel
    clear hw3
    obtain ⟨i0, hi, hi0, hi1, hi2⟩ := info_parts info36
    have hpost : ∀ w4 : World, (wr.alloc (.cells #[.int .i64 998, .int .i32 0, .string ⟨#[]⟩, .int .i64 0, .int .i64 0] 36)).grownBy w4 (Value.slice none 0 0).ownBlock → Below wr.heap.size wr w4 := fun w4 hg =>
      ((Below.refl _ _).alloc (Nat.le_refl _) _).trans ⟨hg.os, hg.tape, hg.output, hg.size, fun k hk => hg.block k (by simp; omega) (by intro h; cases h)⟩
    have hBw := hB3.size
    go_wp2_with (first
      | (at_builtin; refine wpList_append_own _ rfl _ _ 28 rfl wr.heap.size 36 i0 _ 5 48 Tryd.underlying28 hi hi0 hi1 hi2 rfl (by decide) _ _ _ rfl (World.ownsRow_nil _ _ _ _) ⟨wr.heap.size, 0, none⟩ 1 1 [.int .i64 998, .int .i32 0, .string ⟨#[]⟩, .int .i64 0, .int .i64 0] rfl rfl (cells_five _ _ _ _ _ _) (fun u hu => by simp at hu; rcases hu with rfl | rfl | rfl | rfl | rfl <;> rfl) (by unfold maxLen; omega) (by omega) (by simp) ?_; intro v' w4 hown' hgrow hnil; obtain ⟨g', cap', rfl⟩ := ownsRow_succ hown'; have hb4 := hpost w4 hgrow; have hB4 := hB3.trans (hb4.mono hBw))
      | (go_at_call 17; (with_reducible refine (hA _ hB4).mono ?_); rintro e w5 ⟨rfl, hb5⟩; have hG5 := (hG3.below hb4).below hb5; have hB5 := hB4.trans (hb5.mono hB4.size); obtain ⟨g0, G1, g2⟩ := id hG5)
      | (go_at_call 18; (with_reducible refine (hL _).mono ?_); rintro e w6 ⟨rfl, n6, hw6⟩))
    exact bodyPost_ret (v := .bool true) (by simp [results, Tryd.results7, go_sem]) rfl ⟨rfl, bel_drewN (hB5.alloc hB5.size _)⟩

set_option maxRecDepth 100000 in
set_option maxHeartbeats 4000000 in
theorem scl_good (s : ByteArray) (L : List Tok) (W : World) (hlen : L.length ≤ 65537)
    (hA : ∀ U, Below W.heap.size W U → Calls Tryd.prog 17 #[.string s] U fun e w' => (∃ g cap, e = .returned (.tuple #[.slice (some ⟨g, 0, none⟩) L.length cap, .agg #[.int .i64 0, .int .i64 0, .int .i64 0]]) ∧ w'.ownsRow U.heap.size 36 5 (.slice (some ⟨g, 0, none⟩) L.length cap) L.length (cellsOf L)) ∧ Below U.heap.size U w')
    (hB : ∀ U, Below W.heap.size W U → Calls Tryd.prog 20 #[.string s] U fun e w' => (∃ g cap, e = .returned (.tuple #[.slice (some ⟨g, 0, none⟩) L.length cap, .agg #[.int .i64 0, .int .i64 0, .int .i64 0]]) ∧ w'.ownsRow U.heap.size 36 5 (.slice (some ⟨g, 0, none⟩) L.length cap) L.length (cellsOf L)) ∧ Below U.heap.size U w') :
    Calls Tryd.prog 7 #[.string s] W fun e w' => e = .returned (.bool true) ∧ Below W.heap.size W w' := by
  have hL : ∀ v1 v2 U, Toks U v1 L → Toks U v2 L → Calls Tryd.prog 18 #[v1, v2] U fun e w' => e = .returned (.bool true) ∧ ∃ n, w' = U.drewN n := fun v1 v2 U h1 h2 => alike_same L v1 v2 U h1 h2 (by omega)
  have hA1 := hA W (Below.refl _ _)
  generalize hnL : L.length = N at *
  go_enter Tryd.func7, Tryd.ntmps7
  go_wp2_with (first
    | (go_at_call 17; (with_reducible refine hA1.mono ?_); rintro e w1 ⟨⟨g1, c1, rfl, hr1⟩, hb1⟩; clear hA1)
    | (go_at_call 20; (with_reducible refine (hB _ (hb1.alloc (by have := hb1.size; omega) _)).mono ?_); rintro e w2 ⟨⟨g2, c2, rfl, hr2⟩, hb2⟩; have hF2 := (Has.new w1 #[.int .i64 0, .int .i64 0, .int .i64 0] 42 rfl).below hb2; have hr3 := own_only (hr1.alloc (.cells #[.int .i64 0, .int .i64 0, .int .i64 0] 42)) (Only.of_below (S := fun _ => False) hb2) (fun _ _ h => h); have ht1 := toks_own (ts := L) (by rw [hnL]; exact hr3.alloc (.cells #[.int .i64 0, .int .i64 0, .int .i64 0] 42)); have ht2 := toks_own (ts := L) (by rw [hnL]; exact hr2.alloc (.cells #[.int .i64 0, .int .i64 0, .int .i64 0] 42)); have hL2 := hL _ _ _ ht1 ht2; obtain ⟨f0, F1, f2⟩ := id hF2)
    | (go_at_call 18; (with_reducible refine hL2.mono ?_); rintro e w3 ⟨rfl, n3, hw3⟩; have hG3 : Has w3 w2.heap.size #[.int .i64 0, .int .i64 0, .int .i64 0] := by rw [hw3]; exact (Has.new w2 #[.int .i64 0, .int .i64 0, .int .i64 0] 42 rfl).drewN n3))
  have hB3 : Below W.heap.size W w3 := by
    rw [hw3]
    have h1 := hb1.size
    have h2 := hb2.size
    exact bel_drewN ((((hb1.alloc (by omega) _).trans (hb2.mono (by simp; omega)))).alloc (by simp at h2; omega) _)
  have hb3 : Below (w2.alloc (.cells #[.int .i64 0, .int .i64 0, .int .i64 0] 42)).heap.size (w2.alloc (.cells #[.int .i64 0, .int .i64 0, .int .i64 0] 42)) w3 := by rw [hw3]; exact bel_drewN (Below.refl _ _)
  have hrow1 := own_only (hr3.alloc (.cells #[.int .i64 0, .int .i64 0, .int .i64 0] 42)) (Only.of_below (S := fun _ => False) hb3) (fun _ _ h => h)
  have hrow2 := own_only (hr2.alloc (.cells #[.int .i64 0, .int .i64 0, .int .i64 0] 42)) (Only.of_below (S := fun _ => False) hb3) (fun _ _ h => h)
  have hg1 := own_lt hr1 g1 rfl
  have hg2 := own_lt hr2 g2 rfl
  have hg2' : w1.heap.size + 1 ≤ g2 ∧ g2 < w2.heap.size := by simpa using hg2
  clear hr1 hr2 hr3 ht1 ht2 hL2 hF2 F1 f2 f0 hb3
  have hcl1 : (cellsOf L).length = N * 5 := by rw [cellsOf_len, hnL]
  go_loopw [7] (fun ti wr => ∃ (i : Nat) (xs : List Value), i ≤ N ∧ ti = .int .i64 i ∧ wr.ownsRow W.heap.size 36 5 (.slice (some ⟨g1, 0, none⟩) N c1) N xs ∧ Only (fun b => b = g1) w3 wr) (fun ti _ => N - (intOf ti).toNat)
  case atStart => exact ⟨0, _, by omega, rfl, by rw [← hw3]; exact hrow1, by rw [← hw3]; exact Only.refl _ _⟩
  case round =>
    clear hw3
    obtain ⟨i, xs, hi, rfl, hro, hon⟩ := hrel
    by_cases hlt : i < N
    · have hlt' : (i : Int) < (N : Int) := by omega
      have hex : ∀ j, j < N * 5 → ∃ u, wr.cell? ⟨g1, j, none⟩ = some u := fun j hj => by
        rw [hro.cellAt j hj]; exact ⟨_, List.getElem?_eq_getElem (by rw [hro.1]; exact hj)⟩
      obtain ⟨y0, e0⟩ := hex (i * 5) (by omega)
      obtain ⟨y1, e1⟩ := hex (i * 5 + 1) (by omega)
      obtain ⟨y2, e2⟩ := hex (i * 5 + 2) (by omega)
      obtain ⟨y3, e3⟩ := hex (i * 5 + 3) (by omega)
      obtain ⟨y4, e4⟩ := hex (i * 5 + 4) (by omega)
      have hfz := hro.frozenAt
      clear hex
      go_wp2
      go_roundw
      case rel =>
        have q1 := (hro.stored (i * 5) (.int .i64 999)).1
        have q2 := (q1.stored (i * 5 + 1) (.int .i32 0)).1
        have q3 := (q2.stored (i * 5 + 2) (.string ⟨#[]⟩)).1
        have q4 := (q3.stored (i * 5 + 3) (.int .i64 0)).1
        have q5 := (q4.stored (i * 5 + 4) (.int .i64 0)).1
        exact ⟨i + 1, _, by omega, by go_num, q5, ((((hon.set (b := g1) (i := i * 5) rfl _).set (b := g1) (i := i * 5 + 1) rfl _).set (b := g1) (i := i * 5 + 2) rfl _).set (b := g1) (i := i * 5 + 3) rfl _).set (b := g1) (i := i * 5 + 4) rfl _⟩
      case measure => simp [intOf]; omega
    · obtain rfl : i = N := by omega
      have hlt' : ¬ (i : Int) < (i : Int) := by omega
      obtain ⟨i0, hi', hi0, hi1, hi2⟩ := info_parts info36
      have hws := hon.size
      have hw3s := hB3.size
      have hpost : ∀ w4 : World, (wr.alloc (.cells #[.int .i64 998, .int .i32 0, .string ⟨#[]⟩, .int .i64 0, .int .i64 0] 36)).grownBy w4 (some g1) → Only (fun b => b = g1) w3 w4 := fun w4 hg =>
        (hon.alloc _).trans ⟨hg.os, hg.tape, hg.output, hg.size, fun k hk hn => hg.block k hk (by intro h; exact hn (by cases h; rfl))⟩
      go_wp2_with (first
        | (at_builtin; refine wpList_append_own _ rfl _ _ 28 rfl W.heap.size 36 i0 _ 5 48 Tryd.underlying28 hi' hi0 hi1 hi2 rfl (by decide) _ _ _ rfl (hro.alloc _) ⟨wr.heap.size, 0, none⟩ 1 1 [.int .i64 998, .int .i32 0, .string ⟨#[]⟩, .int .i64 0, .int .i64 0] rfl rfl (cells_five _ _ _ _ _ _) (fun u hu => by simp at hu; rcases hu with rfl | rfl | rfl | rfl | rfl <;> rfl) (by unfold maxLen; omega) (by omega) (by simp; omega) ?_; intro v' w4 hown' hgrow hnil; obtain ⟨g', cap', rfl⟩ := ownsRow_succ hown'; have ho4 := hpost w4 hgrow; have hB4 : Below W.heap.size W w4 := hB3.trans ⟨ho4.os, ho4.tape, ho4.output, ho4.size, fun k hk => ho4.block k (by omega) (by omega)⟩; have hG4 := hG3.only ho4 (by omega); have hr4 := own_only hrow2 ho4 (fun k hk => by simp at hk; omega))
        | (go_at_call 17; (with_reducible refine (hA _ hB4).mono ?_); rintro e w5 ⟨⟨g5, c5, rfl, hr5⟩, hb5⟩; have hG5 := hG4.below hb5; have hB5 := hB4.trans (hb5.mono hB4.size); have hr6 := own_only hr4 (Only.of_below (S := fun _ => False) hb5) (fun _ _ h => h); have ht5 := toks_own (ts := L) (by rw [hnL]; exact hr5.alloc (.cells #[.int .i64 0, .int .i64 0, .int .i64 0] 42)); have ht6 := toks_own (ts := L) (by rw [hnL]; exact hr6.alloc (.cells #[.int .i64 0, .int .i64 0, .int .i64 0] 42)); have hL5 := hL _ _ _ ht5 ht6; obtain ⟨g0, G1, g2⟩ := id hG5)
        | (go_at_call 18; (with_reducible refine hL5.mono ?_); rintro e w6 ⟨rfl, n6, hw6⟩))
      exact bodyPost_ret (v := .bool true) (by simp [results, Tryd.results7, go_sem]) rfl ⟨rfl, bel_drewN (hB5.alloc hB5.size _)⟩
end Go.Proofs.YtjohnhaahpggkaaDoor
