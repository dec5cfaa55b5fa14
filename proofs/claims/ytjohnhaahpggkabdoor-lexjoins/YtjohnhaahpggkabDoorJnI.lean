import Derived.Test.YtjohnhaahpggkabDoorJnH
namespace Go.Proofs.YtjohnhaahpggkabDoor
open Go.RowKit
set_option linter.unusedVariables false
set_option linter.unusedSimpArgs false

/-- The mark behind the list. -/
def mkQ : Tq := ⟨999, 0, ⟨#[]⟩, 0, 0⟩
theorem below_drewN (W : World) (q : Nat) : Below W.heap.size W (W.drewN q) := by
  obtain ⟨h1, h2, h3, h4⟩ := drewN_heap W q
  exact ⟨h2, h3, h4, by rw [h1]; exact Nat.le_refl _, fun k _ => by rw [h1]⟩

set_option maxRecDepth 100000 in
set_option maxHeartbeats 8000000 in
theorem joins_law (L : List Tq) (v : Value) (w : World) (hT : Tqs w v L) (hnil : v = .slice none 0 0 ∨ ∃ ad c, v = .slice (some ad) L.length c) (hok : ∀ t ∈ L, t.Ok) (hlen : L.length ≤ 2932031007317) (hW : Wt w) (hK : Kt w) (hS : St w) (hP : ∀ W, Below w.heap.size w W → Pw W) :
    Calls Tryd.prog 4 #[v] w fun e w' => e = .returned (.bool true) ∧ Below w.heap.size w w' := by
  obtain ⟨i27, h27, h27z, h27s, h27b⟩ := info_parts info27
  go_enter Tryd.func4, Tryd.ntmps4
  go_wp2
  rename_i K hKK
  obtain ⟨n, hn⟩ : ∃ n, L.length = n := ⟨_, rfl⟩
  have tail : ∀ (g cp : Nat) (u10 u11 u12 u13 u14 u15 : Value) (W : World), W.ownsRow w.heap.size 27 5 (.slice (some ⟨g, 0, none⟩) (n + 2) cp) (n + 2) (cellsQ (L ++ [mkQ, mkQ])) → Has W w.heap.size #[.int .i64 999, .int .i32 0, .string ⟨#[]⟩, .int .i64 0, .int .i64 0] → Below w.heap.size w W → K { tmps := #[v, undef, .bool false, .pointer (some ⟨w.heap.size, 0, none⟩), .slice (some ⟨g, 0, none⟩) (n + 2) cp, undef, undef, undef, undef, .agg #[.int .i64 999, .int .i32 0, .string ⟨#[]⟩, .int .i64 0, .int .i64 0], u10, u11, u12, u13, u14, u15, undef, undef, undef, undef, undef, undef, undef, undef, undef, undef, undef, undef, undef, undef, undef, undef, undef, undef, undef, undef, undef, undef, undef, undef, undef, undef, undef, undef, undef, undef, undef, undef, undef, undef, undef, undef, undef, undef, undef, undef, undef, undef, undef, undef, undef, undef, undef, undef], defers := [] } W := by
    intro g cp u10 u11 u12 u13 u14 u15 W hrow hM hB
    refine hKK _ _ ?_
    have hBz := hB.size
    have hcp : n + 2 ≤ cp := by
      rcases hrow.2 with ⟨h, _⟩ | ⟨g', c', cur, h, _, _, h2, _⟩
      · cases h
      · cases h; exact h2
    have hJ := join_any L (.slice (some ⟨g, 0, none⟩) L.length cp) W (tqs_own hrow (by simp; omega)) hok (by omega) (hW.below hB hW.1) (fun X hx => hP X (hB.trans (hx.mono hBz))) (fun t ht b hb => (sp_facts t b (hok t ht) hb).1)
    have hgz := hrow.lt g rfl
    have key : ∀ i j u, j < 5 → (h : i < 2) → mkQ.cs[j]? = some u → W.cell? ⟨g, (n + i) * 5 + j, none⟩ = some u := by
      intro i j u hj hi hu
      have h1 := hrow.cells (g := g) rfl ((n + i) * 5 + j) u (by
        rw [cellsQ_get _ (n + i) j (by simp; omega) hj, List.getElem_append_right (by omega)]
        have e : n + i - L.length = i := by omega
        have h2 : i = 0 ∨ i = 1 := by omega
        rcases h2 with rfl | rfl
        · simp [hn]; exact hu
        · simp [hn]; exact hu)
      rw [Go.WideShapes.add_plain, Nat.zero_add] at h1; exact h1
    have hRow := hid_of hrow
    have hvs : ∃ a c, v = .slice a n c := by
      rcases hnil with h | ⟨ad, c, h⟩
      · obtain ⟨a, c, e, _⟩ := hT
        rw [hn] at e; exact ⟨a, c, e⟩
      · rw [hn] at h; exact ⟨_, _, h⟩
    obtain ⟨va, vc, rfl⟩ := hvs
    rw [hn] at hJ
    have n0 : (0 : Int) ≤ (n : Int) := by omega
    have n1 : (n : Int) ≤ (cp : Int) := by omega
    have n2 : (n : Int) < (n : Int) + 2 := by omega
    have n3 : (n : Int) + 1 < (n : Int) + 2 := by omega
    have hwr : IntKind.i64.wrap ((n : Int) + 1) = (n : Int) + 1 := by rw [IntKind.wrap_i64]; omega
    have HN := hid_of hn
    clear hn hrow
    go_wp2_with (first
      | (go_at_call 6; (with_reducible refine hJ.mono ?_); rintro e w1 ⟨⟨B, er, rfl, hj1⟩, hb1⟩; have hB1 := hB.trans (hb1.mono hBz); have hR := refJoin_any L (.slice va n vc) w1 (hT.below (hB1.mono (Nat.le_refl _))) hok (by omega) (hK.below hB1 hK.1) (hS.below hB1 hS.1))
      | (go_at_call 9; (with_reducible refine hR.mono ?_); rintro e w2 ⟨⟨B', er', rfl, hj2⟩, hb2⟩; obtain ⟨e1, e2⟩ := hj1.one hj2; subst e1 e2))
    have hB2 : Below w.heap.size w w2 := hB1.trans (hb2.mono hB1.size)
    have hbW2 : Below W.heap.size W w2 := hb1.trans (hb2.mono hb1.size)
    have hM2 := hM.below hbW2
    have hT1 : Tqs w2 (.slice (some ⟨g, 0, none⟩) n cp) L := by
      have := (tqs_own (c' := cp) hRow.out (by simp; exact HN.out.symm)).below hbW2
      rw [HN.out] at this; exact this
    have hT2 : Tqs w2 (.slice va n vc) L := hT.below hB2
    have hAl := fun q => alike_same L (.slice (some ⟨g, 0, none⟩) n cp) (.slice va n vc) (w2.drewN q) (hT1.below (below_drewN w2 q)) (hT2.below (below_drewN w2 q)) (by omega)
    have key2 : ∀ i j u, j < 5 → i < 2 → mkQ.cs[j]? = some u → w2.cell? ⟨g, (n + i) * 5 + j, none⟩ = some u := fun i j u hj hi hu => (hbW2.cell (p := ⟨g, _, none⟩) hgz.2).trans (key i j u hj hi hu)
    have q0 : w2.cell? ⟨g, n * 5, none⟩ = some (.int .i64 999) := key2 0 0 _ (by omega) (by omega) rfl
    have q1 : w2.cell? ⟨g, n * 5 + 1, none⟩ = some (.int .i32 0) := key2 0 1 _ (by omega) (by omega) rfl
    have q2 : w2.cell? ⟨g, n * 5 + 2, none⟩ = some (.string ⟨#[]⟩) := key2 0 2 _ (by omega) (by omega) rfl
    have q3 : w2.cell? ⟨g, n * 5 + 3, none⟩ = some (.int .i64 0) := key2 0 3 _ (by omega) (by omega) rfl
    have q4 : w2.cell? ⟨g, n * 5 + 4, none⟩ = some (.int .i64 0) := key2 0 4 _ (by omega) (by omega) rfl
    have r0 : w2.cell? ⟨g, (n + 1) * 5, none⟩ = some (.int .i64 999) := key2 1 0 _ (by omega) (by omega) rfl
    have r1 : w2.cell? ⟨g, (n + 1) * 5 + 1, none⟩ = some (.int .i32 0) := key2 1 1 _ (by omega) (by omega) rfl
    have r2 : w2.cell? ⟨g, (n + 1) * 5 + 2, none⟩ = some (.string ⟨#[]⟩) := key2 1 2 _ (by omega) (by omega) rfl
    have r3 : w2.cell? ⟨g, (n + 1) * 5 + 3, none⟩ = some (.int .i64 0) := key2 1 3 _ (by omega) (by omega) rfl
    have r4 : w2.cell? ⟨g, (n + 1) * 5 + 4, none⟩ = some (.int .i64 0) := key2 1 4 _ (by omega) (by omega) rfl
    obtain ⟨m0, M1, m2⟩ := id hM2
    clear key key2 hJ hR hj1 hj2 hT1 hT2 hT hnil hM hM2 hok
    go_quiet ((go_at_call 10; exact Calls.quiet_of (hAl _)))
    go_wp2
    go_ret
    exact ⟨rfl, bel_drewN hB2⟩
  have hXB : Below w.heap.size w (w.alloc (.cells #[.int .i64 999, .int .i32 0, .string ⟨#[]⟩, .int .i64 0, .int .i64 0] 27)) := (Below.refl _ _).alloc (Nat.le_refl _) _
  have hXM : Has (w.alloc (.cells #[.int .i64 999, .int .i32 0, .string ⟨#[]⟩, .int .i64 0, .int .i64 0] 27)) w.heap.size #[.int .i64 999, .int .i32 0, .string ⟨#[]⟩, .int .i64 0, .int .i64 0] := Has.new _ _ _ rfl
  have hXz : (w.alloc (.cells #[.int .i64 999, .int .i32 0, .string ⟨#[]⟩, .int .i64 0, .int .i64 0] 27)).heap.size = w.heap.size + 1 := by simp
  have hcl : Hid (cellsQ (L ++ [mkQ, mkQ]) = cellsQ L ++ [.int .i64 999, .int .i32 0, .string ⟨#[]⟩, .int .i64 0, .int .i64 0, .int .i64 999, .int .i32 0, .string ⟨#[]⟩, .int .i64 0, .int .i64 0]) := by show _ = _; rw [cellsQ_app]; rfl
  have hone : Hid (∀ u ∈ [.int .i64 999, .int .i32 0, .string ⟨#[]⟩, .int .i64 0, .int .i64 0, .int .i64 999, .int .i32 0, .string ⟨#[]⟩, .int .i64 0, .int .i64 0], Value.oneCell' u = true) := by
    show ∀ u ∈ _, _
    intro u hu
    simp only [List.mem_cons, List.not_mem_nil, or_false] at hu
    rcases hu with rfl | rfl | rfl | rfl | rfl | rfl | rfl | rfl | rfl | rfl <;> rfl
  generalize (w.alloc (.cells #[.int .i64 999, .int .i32 0, .string ⟨#[]⟩, .int .i64 0, .int .i64 0] 27)) = X at *
  obtain ⟨x0, X1, x2⟩ := id hXM
  clear hKK
  by_cases hn0 : n = 0
  · have hL : L = [] := List.eq_nil_of_length_eq_zero (by omega)
    subst hL
    obtain ⟨va, vc, hv, _⟩ := hT
    have hv2 : v = .slice va 0 vc := hv
    subst hv2
    subst hn0
    clear hn
    have hfin : ∀ (g2 c2 : Nat) (w5 : World), w5.ownsRow w.heap.size 27 5 (.slice (some ⟨g2, 0, none⟩) (0 + 2) c2) (0 + 2) ([] ++ [.int .i64 999, .int .i32 0, .string ⟨#[]⟩, .int .i64 0, .int .i64 0, .int .i64 999, .int .i32 0, .string ⟨#[]⟩, .int .i64 0, .int .i64 0]) → (X.drew.alloc (.cells #[.int .i64 999, .int .i32 0, .string ⟨#[]⟩, .int .i64 0, .int .i64 0, .int .i64 999, .int .i32 0, .string ⟨#[]⟩, .int .i64 0, .int .i64 0] 27)).grownBy w5 (Value.slice none 0 0).ownBlock → Has w5 w.heap.size #[.int .i64 999, .int .i32 0, .string ⟨#[]⟩, .int .i64 0, .int .i64 0] ∧ Below w.heap.size w w5 := fun g2 c2 w5 ho hg => by
      refine ⟨((show Has X.drew w.heap.size #[.int .i64 999, .int .i32 0, .string ⟨#[]⟩, .int .i64 0, .int .i64 0] from hXM).alloc _).blk hg.size (hg.block _ (by simp; have := hXz; omega) (by intro h; cases h)), ?_⟩
      exact ((hXB.drew.alloc (by show w.heap.size ≤ X.heap.size; omega) (.cells #[.int .i64 999, .int .i32 0, .string ⟨#[]⟩, .int .i64 0, .int .i64 0, .int .i64 999, .int .i32 0, .string ⟨#[]⟩, .int .i64 0, .int .i64 0] 27)).grown hg (by show w.heap.size ≤ (X.drew.alloc _).heap.size; simp; have := hXz; omega) (fun k hk => by cases hk))
    go_region_law (first | (refine step_append_none rfl _ _ 23 rfl 27 i27 Tryd.underlying23 h27 va vc rfl rfl ?_) | (refine step_append_lies _ rfl _ _ 23 rfl w.heap.size 27 i27 _ 5 48 Tryd.underlying23 h27 h27z h27s h27b rfl (by decide) (.slice none 0 0) 0 [] rfl (World.ownsRow_nil _ _ _ _) ⟨w.heap.size + 1, 0, none⟩ 2 2 [.int .i64 999, .int .i32 0, .string ⟨#[]⟩, .int .i64 0, .int .i64 0, .int .i64 999, .int .i32 0, .string ⟨#[]⟩, .int .i64 0, .int .i64 0] rfl rfl (by first | exact cells_ten_at (W := X) hXz.symm _ _ | exact cells_ten_at (W := X.drew) hXz.symm _ _) hone.out (by decide) (by decide) (by decide) (by first | (show w.heap.size ≤ (X.drew.alloc _).heap.size; simp; omega) | (simp; omega)) _ rfl ?_; intro g2 c2 w5 hown2 hgrow2 hat2 hlt2))
    all_goals
      have hF := hfin g2 c2 w5 hown2 hgrow2
      exact tail g2 c2 _ _ _ _ _ _ w5 (by rw [hcl.out]; exact hown2) hF.1 hF.2
  · rw [hn] at hnil
    obtain ⟨ad, vc, rfl⟩ := hnil.resolve_left (by
      intro h
      obtain ⟨a, c, e, _⟩ := hT
      rw [h] at e
      injection e with _ e _
      omega)
    have hcn : (cellsQ L).length = n * 5 := by rw [cellsQ_len, hn]
    have hnews : ∀ (W : World), Below w.heap.size w W → ∀ j u, (cellsQ L)[j]? = some u → W.cell? (ad.add j) = some u := fun W hb => tqs_news (cap := vc) (by rw [hn]; exact hT.below hb)
    have hXD : Below w.heap.size w X.drew := hXB.drew
    have hXT : Below w.heap.size w (X.drew.alloc (.cells #[.int .i64 999, .int .i32 0, .string ⟨#[]⟩, .int .i64 0, .int .i64 0, .int .i64 999, .int .i32 0, .string ⟨#[]⟩, .int .i64 0, .int .i64 0] 27)) := hXD.alloc (by show w.heap.size ≤ X.heap.size; omega) _
    have hMT : Has (X.drew.alloc (.cells #[.int .i64 999, .int .i32 0, .string ⟨#[]⟩, .int .i64 0, .int .i64 0, .int .i64 999, .int .i32 0, .string ⟨#[]⟩, .int .i64 0, .int .i64 0] 27)) w.heap.size #[.int .i64 999, .int .i32 0, .string ⟨#[]⟩, .int .i64 0, .int .i64 0] := (show Has X.drew w.heap.size #[.int .i64 999, .int .i32 0, .string ⟨#[]⟩, .int .i64 0, .int .i64 0] from hXM).alloc _
    have hlN : Hid (0 + n ≤ maxLen) := by show _ ≤ _; unfold maxLen; omega
    have hlB : Hid ((0 + n) * 48 ≤ 140737488355328) := by show _ ≤ _; omega
    have hl2 : Hid (n + 2 ≤ maxLen) := by show _ ≤ _; unfold maxLen; omega
    have hlB2 : Hid ((n + 2) * 48 ≤ 140737488355328) := by show _ ≤ _; omega
    have hn1 : 0 < n := by omega
    have HN := hid_of hn
    clear hn hn0 hnil
    go_region_law (first
      | (refine step_append_lies _ rfl _ _ 23 rfl w.heap.size 27 i27 _ 5 48 Tryd.underlying23 h27 h27z h27s h27b rfl (by decide) (.slice none 0 0) 0 [] rfl (World.ownsRow_nil _ _ _ _) ad n vc (cellsQ L) rfl hcn (by first | exact hnews _ hXD | exact hnews _ hXT) (cellsQ_one L) hn1 hlN.out hlB.out (by first | exact hXD.size | exact hXT.size) _ rfl ?_; intro g1 c1 w4 hown1 hgrow1 hat1 hlt1; rw [Nat.zero_add] at hown1 ⊢; have hg1 : w.heap.size + 1 ≤ g1 := (by rcases hat1 with h | h; (cases h); (rw [h]; first | (show w.heap.size + 1 ≤ X.heap.size; omega) | (show w.heap.size + 1 ≤ (X.drew.alloc _).heap.size; simp; omega))); have hM4 : Has w4 w.heap.size #[.int .i64 999, .int .i32 0, .string ⟨#[]⟩, .int .i64 0, .int .i64 0] := (by first | exact (show Has X.drew w.heap.size #[.int .i64 999, .int .i32 0, .string ⟨#[]⟩, .int .i64 0, .int .i64 0] from hXM).blk hgrow1.size (hgrow1.block _ x0 (by intro h; cases h)) | exact hMT.blk hgrow1.size (hgrow1.block _ hMT.1 (by intro h; cases h))); have hB4 : Below w.heap.size w w4 := (by first | exact hXD.grown hgrow1 hXD.size (fun k hk => by cases hk) | exact hXT.grown hgrow1 hXT.size (fun k hk => by cases hk)); have hz4 := hB4.size; obtain ⟨y0, Y1, y2⟩ := id hM4)
      | (refine step_append_lies _ rfl _ _ 23 rfl w.heap.size 27 i27 _ 5 48 Tryd.underlying23 h27 h27z h27s h27b rfl (by decide) (.slice (some ⟨g1, 0, none⟩) n c1) n (cellsQ L) rfl (hown1.alloc _) ⟨w4.heap.size, 0, none⟩ 2 2 [.int .i64 999, .int .i32 0, .string ⟨#[]⟩, .int .i64 0, .int .i64 0, .int .i64 999, .int .i32 0, .string ⟨#[]⟩, .int .i64 0, .int .i64 0] rfl rfl (cells_ten (W := w4) _ _) hone.out (by decide) hl2.out hlB2.out (by simp; omega) _ rfl ?_; intro g2 c2 w5 hown2 hgrow2 hat2 hlt2; have hM5 : Has w5 w.heap.size #[.int .i64 999, .int .i32 0, .string ⟨#[]⟩, .int .i64 0, .int .i64 0] := (hM4.alloc _).blk hgrow2.size (hgrow2.block _ (by simp; omega) (by intro h; have h' : w.heap.size = g1 := Option.some.inj h; omega)); have hB5 : Below w.heap.size w w5 := (hB4.alloc hz4 _).grown hgrow2 (by simp; omega) (fun k hk => by have hk' : g1 = k := Option.some.inj hk; omega))
      | (refine step_append_lies _ rfl _ _ 23 rfl w.heap.size 27 i27 _ 5 48 Tryd.underlying23 h27 h27z h27s h27b rfl (by decide) (.slice (some ⟨g1, 0, none⟩) n c1) n (cellsQ L) rfl hown1 ⟨w.heap.size + 1, 0, none⟩ 2 2 [.int .i64 999, .int .i32 0, .string ⟨#[]⟩, .int .i64 0, .int .i64 0, .int .i64 999, .int .i32 0, .string ⟨#[]⟩, .int .i64 0, .int .i64 0] rfl rfl (fun j u hu => by rw [Go.WideShapes.add_plain, Nat.zero_add]; have h9 := cells_ten_at (W := X.drew) hXz.symm [.int .i64 999, .int .i32 0, .string ⟨#[]⟩, .int .i64 0, .int .i64 0, .int .i64 999, .int .i32 0, .string ⟨#[]⟩, .int .i64 0, .int .i64 0] 27 j u hu; rw [Go.WideShapes.add_plain, Nat.zero_add] at h9; exact (World.cell?_of_block (w := X.drew.alloc (.cells #[.int .i64 999, .int .i32 0, .string ⟨#[]⟩, .int .i64 0, .int .i64 0, .int .i64 999, .int .i32 0, .string ⟨#[]⟩, .int .i64 0, .int .i64 0] 27)) (hgrow1.block (w.heap.size + 1) (by show w.heap.size + 1 < (X.drew.alloc _).heap.size; simp; omega) (by intro h; cases h))).trans h9) hone.out (by decide) hl2.out hlB2.out hz4 _ rfl ?_; intro g2 c2 w5 hown2 hgrow2 hat2 hlt2; have hM5 : Has w5 w.heap.size #[.int .i64 999, .int .i32 0, .string ⟨#[]⟩, .int .i64 0, .int .i64 0] := hM4.blk hgrow2.size (hgrow2.block _ y0 (by intro h; have h' : w.heap.size = g1 := Option.some.inj h; omega)); have hB5 : Below w.heap.size w w5 := hB4.grown hgrow2 hz4 (fun k hk => by have hk' : g1 = k := Option.some.inj hk; omega)))
    all_goals exact tail g2 c2 _ _ _ _ _ _ w5 (by rw [hcl.out]; exact hown2) hM5 hB5
end Go.Proofs.YtjohnhaahpggkabDoor
