import Derived.Test.YtfmdlcfkfglnhaaDoorTyQ
namespace Go.Proofs.YtfmdlcfkfglnhaaDoor
open Go.RowKit
set_option linter.unusedVariables false


def Sy.cs (s : Sy) : List Value := [.string s.name, .int .i64 s.kind, .int .i64 s.ix, .int .i64 s.line, .int .i64 s.col]
theorem sy_len (x : Sy) : (Sy.cs x).length = 5 := rfl
theorem nd_len (x : Nd) : (Nd.cs x).length = 5 := rfl
theorem sy_one (x : Sy) : ∀ u ∈ Sy.cs x, u.oneCell' = true := all_one rfl
theorem nd_one (x : Nd) : ∀ u ∈ Nd.cs x, u.oneCell' = true := all_one rfl
theorem info58 : (Tryd.prog.info? 58).map (fun i => (i.zero, i.size, i.bytes)) = some (some (.agg #[.string ⟨#[]⟩, .int .i64 0, .int .i64 0, .int .i64 0, .int .i64 0]), 5, 48) := by kernel_rfl
theorem info60 : (Tryd.prog.info? 60).map (fun i => (i.zero, i.size, i.bytes)) = some (some (.agg #[.int .i64 0, .int .i32 0, .string ⟨#[]⟩, .int .i64 0, .int .i64 0]), 5, 48) := by kernel_rfl
theorem info22 : (Tryd.prog.info? 22).map (fun i => (i.zero, i.size, i.bytes)) = some (some (.slice none 0 0), 1, 24) := by kernel_rfl
theorem info23 : (Tryd.prog.info? 23).map (fun i => (i.zero, i.size, i.bytes)) = some (some (.slice none 0 0), 1, 24) := by kernel_rfl
def mkS : Sy := ⟨⟨#[]⟩, 4444, 0, 0, 0⟩
def mkN : Nd := ⟨4444, 0, ⟨#[]⟩, 0, 0⟩
theorem fl_none {α : Type} {sz : Nat} {cs : α → List Value} {w : World} {va : Option Addr} {c : Nat} {L : List α} (h : Fl sz cs w (.slice va L.length c) L) : va = none → L.length = 0 := by
  intro e
  subst e
  rcases h with ⟨_, h⟩ | ⟨ad, cap, h, _⟩
  · rw [h]; rfl
  · cases h
set_option maxRecDepth 100000 in
set_option maxHeartbeats 8000000 in
theorem roomS_any (L : List Sy) (va : Option Addr) (c R : Nat) (w : World) (hF : Fl 5 Sy.cs w (.slice va L.length c) L) (hlen : L.length ≤ 1048576) (hR : Has w R #[.slice none 0 0, .slice none 0 0, .slice none 0 0, .slice none 0 0, .slice none 0 0, .slice none 0 0, .slice none 0 0, .slice none 0 0, .slice none 0 0, .slice none 0 0, .slice none 0 0, .slice none 0 0, .slice none 0 0, .slice none 0 0, .slice none 0 0, .slice none 0 0, .slice none 0 0]) :
    Calls Tryd.prog 4 #[.pointer (some ⟨R, 0, none⟩), .slice va L.length c] w fun e w' => ∃ gf cf g1 c1, e = .returned (.slice (some ⟨gf, 0, none⟩) L.length cf) ∧ w'.ownsRow (w.heap.size + 1) 58 5 (.slice (some ⟨gf, 0, none⟩) (L.length + 2) cf) (L.length + 2) (cellsF Sy.cs (L ++ [mkS, mkS])) ∧ Has w' R #[.slice none 0 0, .slice none 0 0, .slice none 0 0, .slice none 0 0, .slice none 0 0, .slice none 0 0, .slice none 0 0, .slice none 0 0, .slice none 0 0, .slice none 0 0, (.slice (some ⟨g1, 0, none⟩) 1 c1), .slice none 0 0, .slice none 0 0, .slice none 0 0, .slice none 0 0, .slice none 0 0, .slice none 0 0] ∧ w'.cell? ⟨g1, 0, none⟩ = some (.slice (some ⟨gf, 0, none⟩) (L.length + 2) cf) ∧ w.heap.size ≤ g1 ∧ g1 < w'.heap.size ∧ gf ≠ g1 ∧ Only (fun q => q = R) w w' ∧ L.length + 2 ≤ cf := by
  obtain ⟨ti, hi, hi0, hi1, hi2⟩ := info_parts info58
  obtain ⟨tj, hj, hj0, hj1, hj2⟩ := info_parts info22
  have hva := fl_none hF
  have hNw : ∀ X : World, Below w.heap.size w X → ∀ ad, va = some ad → ∀ j u, (cellsF Sy.cs L)[j]? = some u → X.cell? (ad.add j) = some u := fun X hX ad e => by subst e; exact Fl.news sy_len (by decide) (hF.below hX)
  have K1 : Has (w.alloc (.cells #[.string ⟨#[]⟩, .int .i64 4444, .int .i64 0, .int .i64 0, .int .i64 0] 58)) w.heap.size #[.string ⟨#[]⟩, .int .i64 4444, .int .i64 0, .int .i64 0, .int .i64 0] := Has.new _ _ _ rfl
  have hb1 : Below w.heap.size w (w.alloc (.cells #[.string ⟨#[]⟩, .int .i64 4444, .int .i64 0, .int .i64 0, .int .i64 0] 58)) := bel1 _
  have hz1 : w.heap.size + 1 ≤ (w.alloc (.cells #[.string ⟨#[]⟩, .int .i64 4444, .int .i64 0, .int .i64 0, .int .i64 0] 58)).heap.size := by simp
  clear hF
  go_enter Tryd.func4, Tryd.ntmps4
  go_wp2_with fail
  refine wp_region_noPanic ?_
  refine wp_region_held_drew (S := fun w' => w'.cell? ⟨w.heap.size, 0, none⟩ = some (.string ⟨#[]⟩) ∧ w'.cell? ⟨w.heap.size, 1, none⟩ = some (.int .i64 4444) ∧ w'.cell? ⟨w.heap.size, 2, none⟩ = some (.int .i64 0) ∧ w'.cell? ⟨w.heap.size, 3, none⟩ = some (.int .i64 0) ∧ w'.cell? ⟨w.heap.size, 4, none⟩ = some (.int .i64 0)) (by kernel_rfl) ?_ (fun hHeld => ?_)
  · (try dsimp only)
    exact ⟨K1.drew.2.1 0, K1.drew.2.1 1, K1.drew.2.1 2, K1.drew.2.1 3, K1.drew.2.1 4⟩
  refine wpAnyH_take (i := 0) (oi := { dst := some 8, op := Op.move (Operand.tmp 1), type := 22, pos := "room.go:83", after := #[], guard := none }) (v := ?_) rfl (by kernel_rfl) (by kernel_rfl) (by kernel_rfl) (fun _ _ _ h => h) (Or.inl ⟨by rfl, ?_⟩) (by assumption) ?_
  rotate_left
  · intro wz hSz; (try dsimp only at hSz); go_simp; all_goals (with_reducible rfl)
  (try simp only [Act.put, List.setIfInBounds_toArray, List.set_cons_zero, List.set_cons_succ])
  refine wpAnyH_take (i := 2) (oi := { dst := some 10, op := Op.load 58 (Operand.tmp 5), type := 58, pos := "room.go:83", after := #[], guard := none }) (v := ?_) rfl (by kernel_rfl) (by kernel_rfl) (by kernel_rfl) (fun _ _ _ h => h) (Or.inl ⟨by rfl, ?_⟩) (by assumption) ?_
  rotate_left
  · intro wz hSz; (try dsimp only at hSz); go_simp; all_goals (with_reducible rfl)
  (try simp only [Act.put, List.setIfInBounds_toArray, List.set_cons_zero, List.set_cons_succ])
  refine wpAnyH_take (i := 3) (oi := { dst := some 11, op := Op.load 58 (Operand.tmp 5), type := 58, pos := "room.go:83", after := #[], guard := none }) (v := ?_) rfl (by kernel_rfl) (by kernel_rfl) (by kernel_rfl) (fun _ _ _ h => h) (Or.inl ⟨by rfl, ?_⟩) (by assumption) ?_
  rotate_left
  · intro wz hSz; (try dsimp only at hSz); go_simp; all_goals (with_reducible rfl)
  (try simp only [Act.put, List.setIfInBounds_toArray, List.set_cons_zero, List.set_cons_succ])
  refine wpAnyH_ready (rs := [1, 4]) (by kernel_rfl) (by simp) ?_
  refine AllReadyH.cons (o := { dst := some 9, op := Op.call { callee := Callee.builtin Builtin.append, args := #[Operand.const (Value.slice none 0 0), Operand.tmp 8], argTypes := #[22, 22] }, type := 22, pos := "room.go:83", after := #[{ on := 0, ground := Ground.data }], guard := none }) rfl (fun K hK => ?_) (AllReadyH.cons (o := { dst := some 12, op := Op.buildSlice 22 2 #[(0, Operand.tmp 10), (1, Operand.tmp 11)], type := 22, pos := "room.go:83", after := #[{ on := 2, ground := Ground.data }, { on := 3, ground := Ground.data }], guard := none }) rfl (fun K hK => ?_) AllReadyH.nil)
  · refine step_copy rfl _ _ 22 rfl 58 ti _ 5 48 Tryd.underlying22 hi hi0 hi1 hi2 rfl (by decide) va L.length c (cellsF Sy.cs L) rfl rfl (cellsF_len sy_len L) (hNw _ (by exact hb1.drew)) (cellsF_one sy_one L) hva (by unfold maxLen; omega) (by omega) ?_
    intro a1 k1 w2 o2 b2
    have bb2 : Below w.heap.size w w2 := bel_after hb1.drew hb1.size b2
    have K2 := K1.drew.below b2
    have o2 := own_mono o2 hz1
    refine hK.out _ _ ?_ (fun hHeld => ?_)
    · (try dsimp only)
      exact ⟨K2.2.1 0, K2.2.1 1, K2.2.1 2, K2.2.1 3, K2.2.1 4⟩
    clear hK K
    (try simp only [Act.put, List.setIfInBounds_toArray, List.set_cons_zero, List.set_cons_succ])
    refine wpAnyH_ready (rs := [4]) (by kernel_rfl) (by simp) ?_
    refine AllReadyH.cons (o := { dst := some 12, op := Op.buildSlice 22 2 #[(0, Operand.tmp 10), (1, Operand.tmp 11)], type := 22, pos := "room.go:83", after := #[{ on := 2, ground := Ground.data }, { on := 3, ground := Ground.data }], guard := none }) rfl (fun K hK => ?_) AllReadyH.nil
    go_simp
    refine hK.out _ _ ?_ (fun hHeld => ?_)
    · (try dsimp only)
      exact ⟨(K2.alloc (.cells #[.string ⟨#[]⟩, .int .i64 4444, .int .i64 0, .int .i64 0, .int .i64 0, .string ⟨#[]⟩, .int .i64 4444, .int .i64 0, .int .i64 0, .int .i64 0] 58)).2.1 0, (K2.alloc (.cells #[.string ⟨#[]⟩, .int .i64 4444, .int .i64 0, .int .i64 0, .int .i64 0, .string ⟨#[]⟩, .int .i64 4444, .int .i64 0, .int .i64 0, .int .i64 0] 58)).2.1 1, (K2.alloc (.cells #[.string ⟨#[]⟩, .int .i64 4444, .int .i64 0, .int .i64 0, .int .i64 0, .string ⟨#[]⟩, .int .i64 4444, .int .i64 0, .int .i64 0, .int .i64 0] 58)).2.1 2, (K2.alloc (.cells #[.string ⟨#[]⟩, .int .i64 4444, .int .i64 0, .int .i64 0, .int .i64 0, .string ⟨#[]⟩, .int .i64 4444, .int .i64 0, .int .i64 0, .int .i64 0] 58)).2.1 3, (K2.alloc (.cells #[.string ⟨#[]⟩, .int .i64 4444, .int .i64 0, .int .i64 0, .int .i64 0, .string ⟨#[]⟩, .int .i64 4444, .int .i64 0, .int .i64 0, .int .i64 0] 58)).2.1 4⟩
    clear hK K
    (try simp only [Act.put, List.setIfInBounds_toArray, List.set_cons_zero, List.set_cons_succ])
    have K5 := K2.alloc (.cells #[.string ⟨#[]⟩, .int .i64 4444, .int .i64 0, .int .i64 0, .int .i64 0, .string ⟨#[]⟩, .int .i64 4444, .int .i64 0, .int .i64 0, .int .i64 0] 58)
    have o5 := own_bel o2 (bel1 (.cells #[.string ⟨#[]⟩, .int .i64 4444, .int .i64 0, .int .i64 0, .int .i64 0, .string ⟨#[]⟩, .int .i64 4444, .int .i64 0, .int .i64 0, .int .i64 0] 58))
    have b5 := bb2.alloc bb2.size (.cells #[.string ⟨#[]⟩, .int .i64 4444, .int .i64 0, .int .i64 0, .int .i64 0, .string ⟨#[]⟩, .int .i64 4444, .int .i64 0, .int .i64 0, .int .i64 0] 58)
    have hc5 := cells_at (W := w2) (b := w2.heap.size) rfl [.string ⟨#[]⟩, .int .i64 4444, .int .i64 0, .int .i64 0, .int .i64 0, .string ⟨#[]⟩, .int .i64 4444, .int .i64 0, .int .i64 0, .int .i64 0] 58
    have hz5 : w.heap.size + 1 ≤ _ := K5.1
    refine wpAnyH_ready (rs := [5]) (by kernel_rfl) (by simp) ?_
    refine AllReadyH.cons (o := { dst := some 13, op := Op.call { callee := Callee.builtin Builtin.append, args := #[Operand.tmp 9, Operand.tmp 12], argTypes := #[22, 22] }, type := 22, pos := "room.go:83", after := #[{ on := 1, ground := Ground.data }, { on := 4, ground := Ground.data }, { on := 1, ground := Ground.chain }], guard := none }) rfl (fun K hK => ?_) AllReadyH.nil
    refine step_append_lies _ rfl _ _ 22 rfl (w.heap.size + 1) 58 ti _ 5 48 Tryd.underlying22 hi hi0 hi1 hi2 rfl (by decide) (.slice a1 L.length k1) L.length (cellsF Sy.cs L) rfl o5 ⟨w2.heap.size, 0, none⟩ 2 2 [.string ⟨#[]⟩, .int .i64 4444, .int .i64 0, .int .i64 0, .int .i64 0, .string ⟨#[]⟩, .int .i64 4444, .int .i64 0, .int .i64 0, .int .i64 0] rfl rfl hc5 (all_one rfl) (by decide) (by unfold maxLen; omega) (by omega) hz5 _ rfl ?_
    intro g6 k6 w6 o6 gr6 hl6 hz6
    have b6 : Below w.heap.size w w6 := grown_bel b5 gr6 (Nat.le_refl _) (fun q hq => by have := (own_lt o5 q hq).1; omega)
    have hne6 : some w.heap.size ≠ (Value.slice a1 L.length k1).ownBlock := by intro e; have := (own_lt o5 _ e.symm).1; omega
    have K6 := K5.blk gr6.size (gr6.block _ K5.1 hne6)
    refine hK.out _ _ ?_ (fun hHeld => ?_)
    · (try dsimp only)
      exact ⟨K6.2.1 0, K6.2.1 1, K6.2.1 2, K6.2.1 3, K6.2.1 4⟩
    clear hK K
    (try simp only [Act.put, List.setIfInBounds_toArray, List.set_cons_zero, List.set_cons_succ])
    refine wpAnyH_take (i := 6) (oi := { dst := some 6, op := Op.assign (Operand.tmp 13), type := 22, pos := "room.go:83", after := #[{ on := 5, ground := Ground.data }, { on := 5, ground := Ground.chain }, { on := 0, ground := Ground.phase }, { on := 1, ground := Ground.phase }, { on := 2, ground := Ground.phase }, { on := 3, ground := Ground.phase }, { on := 4, ground := Ground.phase }, { on := 5, ground := Ground.phase }], guard := none }) (v := ?_) rfl (by kernel_rfl) (by kernel_rfl) (by kernel_rfl) (fun _ _ _ h => h) (Or.inl ⟨by rfl, ?_⟩) (by assumption) ?_
    rotate_left
    · intro wz hSz; (try dsimp only at hSz); go_simp; all_goals (with_reducible rfl)
    (try simp only [Act.put, List.setIfInBounds_toArray, List.set_cons_zero, List.set_cons_succ])
    refine wpAnyH_done (by kernel_rfl) ?_ _
    refine NoPanic.normal ?_
    have R6 := hR.below b6
    obtain ⟨_, r1, r2⟩ := id R6
    have hg6 := (own_lt o6 g6 rfl).1
    have hcap : L.length + 2 ≤ k6 := by obtain ⟨g', c', e, hc, -⟩ := own_block o6 (by omega); injection e with _ _ e; omega
    have i1 : (L.length : Int) ≤ (k6 : Int) := by omega
    have i2 : (0 : Int) ≤ (L.length : Int) := by omega
    have i3 : L.length ≤ k6 := by omega
    clear K5 K6 o5 b5 gr6 hc5 hl6 hNw
    go_wp2_with (at_builtin; (refine wpList_append_mine _ rfl _ _ 35 rfl (w.heap.size + 1) 22 tj _ 1 24 Tryd.underlying35 hj hj0 hj1 hj2 rfl (by decide) (.slice none 0 0) 0 [] rfl (World.ownsRow_nil _ _ _ _) ⟨w6.heap.size, 0, none⟩ 1 1 [.slice (some ⟨g6, 0, none⟩) (L.length + 2) k6] rfl rfl (cells_at (W := w6) rfl _ _) (all_one rfl) (by decide) (by decide) (by decide) (by have := R6.1; have := hz6; simp; omega) ?_); intro g7 k7 w7 o7 gr7 hl7 _ _; have b7' := bel_after (bel1 (w := w6) (.cells #[.slice (some ⟨g6, 0, none⟩) (L.length + 2) k6] 22)) (by simp) (grown_none gr7); have b7 := bel_after b6 b6.size b7'; have R7 := hR.below b7; obtain ⟨_, s1, s2⟩ := id R7)
    have hO : Only (fun q => q = R) w7 (w7.setCell ⟨R, 10, none⟩ (.slice (some ⟨g7, 0, none⟩) 1 k7)) := (Only.refl (fun q => q = R) w7).set (b := R) rfl _
    have R8 : Has (w7.setCell ⟨R, 10, none⟩ (.slice (some ⟨g7, 0, none⟩) 1 k7)) R #[.slice none 0 0, .slice none 0 0, .slice none 0 0, .slice none 0 0, .slice none 0 0, .slice none 0 0, .slice none 0 0, .slice none 0 0, .slice none 0 0, .slice none 0 0, (.slice (some ⟨g7, 0, none⟩) 1 k7), .slice none 0 0, .slice none 0 0, .slice none 0 0, .slice none 0 0, .slice none 0 0, .slice none 0 0] := by simpa using R7.set 10 (by simp) (.slice (some ⟨g7, 0, none⟩) 1 k7)
    have o8 := own_only (own_bel o6 b7') hO (fun k hk e => by have := hR.1; omega)
    have h77 : w6.heap.size < g7 := by
      rcases hl7 with h | h
      · cases h
      · simp at h; omega
    have c8 : (w7.setCell ⟨R, 10, none⟩ (.slice (some ⟨g7, 0, none⟩) 1 k7)).cell? ⟨g7, 0, none⟩ = some (.slice (some ⟨g6, 0, none⟩) (L.length + 2) k6) := (World.cell?_setCell_other w7 ⟨R, 10, none⟩ ⟨g7, 0, none⟩ _ (by intro e; have e' := congrArg Addr.block e; simp at e'; have := hR.1; have := b6.size; omega)).trans (o7.cellAt 0 (by decide))
    have hg7 := (own_lt o7 g7 rfl).2
    have ee : cellsF Sy.cs L ++ [.string ⟨#[]⟩, .int .i64 4444, .int .i64 0, .int .i64 0, .int .i64 0, .string ⟨#[]⟩, .int .i64 4444, .int .i64 0, .int .i64 0, .int .i64 0] = cellsF Sy.cs (L ++ [mkS, mkS]) := by rw [cellsF_append]; rfl
    rw [ee] at o8
    go_ret
    exact ⟨g6, k6, g7, k7, rfl, o8, R8, c8, by have := b6.size; omega, by simpa [World.setCell] using hg7, by have := (own_lt o6 g6 rfl).2; omega, (Only.of_below b7).trans hO, by omega⟩
  · go_simp
    refine hK.out _ _ ?_ (fun hHeld => ?_)
    · (try dsimp only)
      exact ⟨(K1.drew.alloc (.cells #[.string ⟨#[]⟩, .int .i64 4444, .int .i64 0, .int .i64 0, .int .i64 0, .string ⟨#[]⟩, .int .i64 4444, .int .i64 0, .int .i64 0, .int .i64 0] 58)).2.1 0, (K1.drew.alloc (.cells #[.string ⟨#[]⟩, .int .i64 4444, .int .i64 0, .int .i64 0, .int .i64 0, .string ⟨#[]⟩, .int .i64 4444, .int .i64 0, .int .i64 0, .int .i64 0] 58)).2.1 1, (K1.drew.alloc (.cells #[.string ⟨#[]⟩, .int .i64 4444, .int .i64 0, .int .i64 0, .int .i64 0, .string ⟨#[]⟩, .int .i64 4444, .int .i64 0, .int .i64 0, .int .i64 0] 58)).2.1 2, (K1.drew.alloc (.cells #[.string ⟨#[]⟩, .int .i64 4444, .int .i64 0, .int .i64 0, .int .i64 0, .string ⟨#[]⟩, .int .i64 4444, .int .i64 0, .int .i64 0, .int .i64 0] 58)).2.1 3, (K1.drew.alloc (.cells #[.string ⟨#[]⟩, .int .i64 4444, .int .i64 0, .int .i64 0, .int .i64 0, .string ⟨#[]⟩, .int .i64 4444, .int .i64 0, .int .i64 0, .int .i64 0] 58)).2.1 4⟩
    clear hK K
    (try simp only [Act.put, List.setIfInBounds_toArray, List.set_cons_zero, List.set_cons_succ])
    have K1b := K1.drew.alloc (.cells #[.string ⟨#[]⟩, .int .i64 4444, .int .i64 0, .int .i64 0, .int .i64 0, .string ⟨#[]⟩, .int .i64 4444, .int .i64 0, .int .i64 0, .int .i64 0] 58)
    have hb1b := hb1.drew.alloc hb1.size (.cells #[.string ⟨#[]⟩, .int .i64 4444, .int .i64 0, .int .i64 0, .int .i64 0, .string ⟨#[]⟩, .int .i64 4444, .int .i64 0, .int .i64 0, .int .i64 0] 58)
    have hcb := cells_at (W := (w.alloc (.cells #[.string ⟨#[]⟩, .int .i64 4444, .int .i64 0, .int .i64 0, .int .i64 0] 58)).drew) (b := w.heap.size + 1) (by show w.heap.size + 1 = (w.alloc (.cells #[.string ⟨#[]⟩, .int .i64 4444, .int .i64 0, .int .i64 0, .int .i64 0] 58)).heap.size; simp) [.string ⟨#[]⟩, .int .i64 4444, .int .i64 0, .int .i64 0, .int .i64 0, .string ⟨#[]⟩, .int .i64 4444, .int .i64 0, .int .i64 0, .int .i64 0] 58
    have hz1b : w.heap.size + 1 ≤ ((w.alloc (.cells #[.string ⟨#[]⟩, .int .i64 4444, .int .i64 0, .int .i64 0, .int .i64 0] 58)).drew.alloc (.cells #[.string ⟨#[]⟩, .int .i64 4444, .int .i64 0, .int .i64 0, .int .i64 0, .string ⟨#[]⟩, .int .i64 4444, .int .i64 0, .int .i64 0, .int .i64 0] 58)).heap.size := by rw [World.size_alloc]; exact Nat.le_succ_of_le hz1
    have hzb : w.heap.size + 1 < ((w.alloc (.cells #[.string ⟨#[]⟩, .int .i64 4444, .int .i64 0, .int .i64 0, .int .i64 0] 58)).drew.alloc (.cells #[.string ⟨#[]⟩, .int .i64 4444, .int .i64 0, .int .i64 0, .int .i64 0, .string ⟨#[]⟩, .int .i64 4444, .int .i64 0, .int .i64 0, .int .i64 0] 58)).heap.size := by rw [World.size_alloc]; show w.heap.size + 1 < (w.alloc (.cells #[.string ⟨#[]⟩, .int .i64 4444, .int .i64 0, .int .i64 0, .int .i64 0] 58)).heap.size + 1; omega
    refine wpAnyH_ready (rs := [1]) (by kernel_rfl) (by simp) ?_
    refine AllReadyH.cons (o := { dst := some 9, op := Op.call { callee := Callee.builtin Builtin.append, args := #[Operand.const (Value.slice none 0 0), Operand.tmp 8], argTypes := #[22, 22] }, type := 22, pos := "room.go:83", after := #[{ on := 0, ground := Ground.data }], guard := none }) rfl (fun K hK => ?_) AllReadyH.nil
    refine step_copy rfl _ _ 22 rfl 58 ti _ 5 48 Tryd.underlying22 hi hi0 hi1 hi2 rfl (by decide) va L.length c (cellsF Sy.cs L) rfl rfl (cellsF_len sy_len L) (hNw _ (by exact hb1b)) (cellsF_one sy_one L) hva (by unfold maxLen; omega) (by omega) ?_
    intro a1 k1 w2 o2 b2
    have b5 : Below w.heap.size w w2 := bel_after hb1b hb1b.size b2
    have K5 := K1b.below b2
    have o5 := own_mono o2 hz1b
    refine hK.out _ _ ?_ (fun hHeld => ?_)
    · (try dsimp only)
      exact ⟨K5.2.1 0, K5.2.1 1, K5.2.1 2, K5.2.1 3, K5.2.1 4⟩
    clear hK K
    (try simp only [Act.put, List.setIfInBounds_toArray, List.set_cons_zero, List.set_cons_succ])
    have hc5 : ∀ j u, ([.string ⟨#[]⟩, .int .i64 4444, .int .i64 0, .int .i64 0, .int .i64 0, .string ⟨#[]⟩, .int .i64 4444, .int .i64 0, .int .i64 0, .int .i64 0] : List Value)[j]? = some u → w2.cell? ((⟨w.heap.size + 1, 0, none⟩ : Addr).add j) = some u := by
      intro j u hu
      have h := hcb j u hu
      rw [Go.WideShapes.add_plain] at h ⊢
      exact (b2.cell (p := ⟨w.heap.size + 1, _, none⟩) hzb).trans h
    have hz5 : w.heap.size + 1 ≤ _ := K5.1
    refine wpAnyH_ready (rs := [5]) (by kernel_rfl) (by simp) ?_
    refine AllReadyH.cons (o := { dst := some 13, op := Op.call { callee := Callee.builtin Builtin.append, args := #[Operand.tmp 9, Operand.tmp 12], argTypes := #[22, 22] }, type := 22, pos := "room.go:83", after := #[{ on := 1, ground := Ground.data }, { on := 4, ground := Ground.data }, { on := 1, ground := Ground.chain }], guard := none }) rfl (fun K hK => ?_) AllReadyH.nil
    refine step_append_lies _ rfl _ _ 22 rfl (w.heap.size + 1) 58 ti _ 5 48 Tryd.underlying22 hi hi0 hi1 hi2 rfl (by decide) (.slice a1 L.length k1) L.length (cellsF Sy.cs L) rfl o5 ⟨w.heap.size + 1, 0, none⟩ 2 2 [.string ⟨#[]⟩, .int .i64 4444, .int .i64 0, .int .i64 0, .int .i64 0, .string ⟨#[]⟩, .int .i64 4444, .int .i64 0, .int .i64 0, .int .i64 0] rfl rfl hc5 (all_one rfl) (by decide) (by unfold maxLen; omega) (by omega) hz5 _ rfl ?_
    intro g6 k6 w6 o6 gr6 hl6 hz6
    have b6 : Below w.heap.size w w6 := grown_bel b5 gr6 (Nat.le_refl _) (fun q hq => by have := (own_lt o5 q hq).1; omega)
    have hne6 : some w.heap.size ≠ (Value.slice a1 L.length k1).ownBlock := by intro e; have := (own_lt o5 _ e.symm).1; omega
    have K6 := K5.blk gr6.size (gr6.block _ K5.1 hne6)
    refine hK.out _ _ ?_ (fun hHeld => ?_)
    · (try dsimp only)
      exact ⟨K6.2.1 0, K6.2.1 1, K6.2.1 2, K6.2.1 3, K6.2.1 4⟩
    clear hK K
    (try simp only [Act.put, List.setIfInBounds_toArray, List.set_cons_zero, List.set_cons_succ])
    refine wpAnyH_take (i := 6) (oi := { dst := some 6, op := Op.assign (Operand.tmp 13), type := 22, pos := "room.go:83", after := #[{ on := 5, ground := Ground.data }, { on := 5, ground := Ground.chain }, { on := 0, ground := Ground.phase }, { on := 1, ground := Ground.phase }, { on := 2, ground := Ground.phase }, { on := 3, ground := Ground.phase }, { on := 4, ground := Ground.phase }, { on := 5, ground := Ground.phase }], guard := none }) (v := ?_) rfl (by kernel_rfl) (by kernel_rfl) (by kernel_rfl) (fun _ _ _ h => h) (Or.inl ⟨by rfl, ?_⟩) (by assumption) ?_
    rotate_left
    · intro wz hSz; (try dsimp only at hSz); go_simp; all_goals (with_reducible rfl)
    (try simp only [Act.put, List.setIfInBounds_toArray, List.set_cons_zero, List.set_cons_succ])
    refine wpAnyH_done (by kernel_rfl) ?_ _
    refine NoPanic.normal ?_
    have R6 := hR.below b6
    obtain ⟨_, r1, r2⟩ := id R6
    have hg6 := (own_lt o6 g6 rfl).1
    have hcap : L.length + 2 ≤ k6 := by obtain ⟨g', c', e, hc, -⟩ := own_block o6 (by omega); injection e with _ _ e; omega
    have i1 : (L.length : Int) ≤ (k6 : Int) := by omega
    have i2 : (0 : Int) ≤ (L.length : Int) := by omega
    have i3 : L.length ≤ k6 := by omega
    clear K5 K6 o5 b5 gr6 hc5 hl6 hNw
    go_wp2_with (at_builtin; (refine wpList_append_mine _ rfl _ _ 35 rfl (w.heap.size + 1) 22 tj _ 1 24 Tryd.underlying35 hj hj0 hj1 hj2 rfl (by decide) (.slice none 0 0) 0 [] rfl (World.ownsRow_nil _ _ _ _) ⟨w6.heap.size, 0, none⟩ 1 1 [.slice (some ⟨g6, 0, none⟩) (L.length + 2) k6] rfl rfl (cells_at (W := w6) rfl _ _) (all_one rfl) (by decide) (by decide) (by decide) (by have := R6.1; have := hz6; simp; omega) ?_); intro g7 k7 w7 o7 gr7 hl7 _ _; have b7' := bel_after (bel1 (w := w6) (.cells #[.slice (some ⟨g6, 0, none⟩) (L.length + 2) k6] 22)) (by simp) (grown_none gr7); have b7 := bel_after b6 b6.size b7'; have R7 := hR.below b7; obtain ⟨_, s1, s2⟩ := id R7)
    have hO : Only (fun q => q = R) w7 (w7.setCell ⟨R, 10, none⟩ (.slice (some ⟨g7, 0, none⟩) 1 k7)) := (Only.refl (fun q => q = R) w7).set (b := R) rfl _
    have R8 : Has (w7.setCell ⟨R, 10, none⟩ (.slice (some ⟨g7, 0, none⟩) 1 k7)) R #[.slice none 0 0, .slice none 0 0, .slice none 0 0, .slice none 0 0, .slice none 0 0, .slice none 0 0, .slice none 0 0, .slice none 0 0, .slice none 0 0, .slice none 0 0, (.slice (some ⟨g7, 0, none⟩) 1 k7), .slice none 0 0, .slice none 0 0, .slice none 0 0, .slice none 0 0, .slice none 0 0, .slice none 0 0] := by simpa using R7.set 10 (by simp) (.slice (some ⟨g7, 0, none⟩) 1 k7)
    have o8 := own_only (own_bel o6 b7') hO (fun k hk e => by have := hR.1; omega)
    have h77 : w6.heap.size < g7 := by
      rcases hl7 with h | h
      · cases h
      · simp at h; omega
    have c8 : (w7.setCell ⟨R, 10, none⟩ (.slice (some ⟨g7, 0, none⟩) 1 k7)).cell? ⟨g7, 0, none⟩ = some (.slice (some ⟨g6, 0, none⟩) (L.length + 2) k6) := (World.cell?_setCell_other w7 ⟨R, 10, none⟩ ⟨g7, 0, none⟩ _ (by intro e; have e' := congrArg Addr.block e; simp at e'; have := hR.1; have := b6.size; omega)).trans (o7.cellAt 0 (by decide))
    have hg7 := (own_lt o7 g7 rfl).2
    have ee : cellsF Sy.cs L ++ [.string ⟨#[]⟩, .int .i64 4444, .int .i64 0, .int .i64 0, .int .i64 0, .string ⟨#[]⟩, .int .i64 4444, .int .i64 0, .int .i64 0, .int .i64 0] = cellsF Sy.cs (L ++ [mkS, mkS]) := by rw [cellsF_append]; rfl
    rw [ee] at o8
    go_ret
    exact ⟨g6, k6, g7, k7, rfl, o8, R8, c8, by have := b6.size; omega, by simpa [World.setCell] using hg7, by have := (own_lt o6 g6 rfl).2; omega, (Only.of_below b7).trans hO, by omega⟩
set_option maxRecDepth 100000 in
set_option maxHeartbeats 8000000 in
theorem roomN_any (L : List Nd) (va : Option Addr) (c R : Nat) (ga gc : Nat) (w : World) (hF : Fl 5 Nd.cs w (.slice va L.length c) L) (hlen : L.length ≤ 1048576) (hR : Has w R #[.slice none 0 0, .slice none 0 0, .slice none 0 0, .slice none 0 0, .slice none 0 0, .slice none 0 0, .slice none 0 0, .slice none 0 0, .slice none 0 0, .slice none 0 0, .slice (some ⟨ga, 0, none⟩) 1 gc, .slice none 0 0, .slice none 0 0, .slice none 0 0, .slice none 0 0, .slice none 0 0, .slice none 0 0]) :
    Calls Tryd.prog 5 #[.pointer (some ⟨R, 0, none⟩), .slice va L.length c] w fun e w' => ∃ gf cf g1 c1, e = .returned (.slice (some ⟨gf, 0, none⟩) L.length cf) ∧ w'.ownsRow (w.heap.size + 1) 60 5 (.slice (some ⟨gf, 0, none⟩) (L.length + 2) cf) (L.length + 2) (cellsF Nd.cs (L ++ [mkN, mkN])) ∧ Has w' R #[(.slice (some ⟨g1, 0, none⟩) 1 c1), .slice none 0 0, .slice none 0 0, .slice none 0 0, .slice none 0 0, .slice none 0 0, .slice none 0 0, .slice none 0 0, .slice none 0 0, .slice none 0 0, .slice (some ⟨ga, 0, none⟩) 1 gc, .slice none 0 0, .slice none 0 0, .slice none 0 0, .slice none 0 0, .slice none 0 0, .slice none 0 0] ∧ w'.cell? ⟨g1, 0, none⟩ = some (.slice (some ⟨gf, 0, none⟩) (L.length + 2) cf) ∧ w.heap.size ≤ g1 ∧ g1 < w'.heap.size ∧ gf ≠ g1 ∧ Only (fun q => q = R) w w' ∧ L.length + 2 ≤ cf := by
  obtain ⟨ti, hi, hi0, hi1, hi2⟩ := info_parts info60
  obtain ⟨tj, hj, hj0, hj1, hj2⟩ := info_parts info23
  have hva := fl_none hF
  have hNw : ∀ X : World, Below w.heap.size w X → ∀ ad, va = some ad → ∀ j u, (cellsF Nd.cs L)[j]? = some u → X.cell? (ad.add j) = some u := fun X hX ad e => by subst e; exact Fl.news nd_len (by decide) (hF.below hX)
  have K1 : Has (w.alloc (.cells #[.int .i64 4444, .int .i32 0, .string ⟨#[]⟩, .int .i64 0, .int .i64 0] 60)) w.heap.size #[.int .i64 4444, .int .i32 0, .string ⟨#[]⟩, .int .i64 0, .int .i64 0] := Has.new _ _ _ rfl
  have hb1 : Below w.heap.size w (w.alloc (.cells #[.int .i64 4444, .int .i32 0, .string ⟨#[]⟩, .int .i64 0, .int .i64 0] 60)) := bel1 _
  have hz1 : w.heap.size + 1 ≤ (w.alloc (.cells #[.int .i64 4444, .int .i32 0, .string ⟨#[]⟩, .int .i64 0, .int .i64 0] 60)).heap.size := by simp
  clear hF
  go_enter Tryd.func5, Tryd.ntmps5
  go_wp2_with fail
  refine wp_region_noPanic ?_
  refine wp_region_held_drew (S := fun w' => w'.cell? ⟨w.heap.size, 0, none⟩ = some (.int .i64 4444) ∧ w'.cell? ⟨w.heap.size, 1, none⟩ = some (.int .i32 0) ∧ w'.cell? ⟨w.heap.size, 2, none⟩ = some (.string ⟨#[]⟩) ∧ w'.cell? ⟨w.heap.size, 3, none⟩ = some (.int .i64 0) ∧ w'.cell? ⟨w.heap.size, 4, none⟩ = some (.int .i64 0)) (by kernel_rfl) ?_ (fun hHeld => ?_)
  · (try dsimp only)
    exact ⟨K1.drew.2.1 0, K1.drew.2.1 1, K1.drew.2.1 2, K1.drew.2.1 3, K1.drew.2.1 4⟩
  refine wpAnyH_take (i := 0) (oi := { dst := some 8, op := Op.move (Operand.tmp 1), type := 23, pos := "room.go:33", after := #[], guard := none }) (v := ?_) rfl (by kernel_rfl) (by kernel_rfl) (by kernel_rfl) (fun _ _ _ h => h) (Or.inl ⟨by rfl, ?_⟩) (by assumption) ?_
  rotate_left
  · intro wz hSz; (try dsimp only at hSz); go_simp; all_goals (with_reducible rfl)
  (try simp only [Act.put, List.setIfInBounds_toArray, List.set_cons_zero, List.set_cons_succ])
  refine wpAnyH_take (i := 2) (oi := { dst := some 10, op := Op.load 60 (Operand.tmp 5), type := 60, pos := "room.go:33", after := #[], guard := none }) (v := ?_) rfl (by kernel_rfl) (by kernel_rfl) (by kernel_rfl) (fun _ _ _ h => h) (Or.inl ⟨by rfl, ?_⟩) (by assumption) ?_
  rotate_left
  · intro wz hSz; (try dsimp only at hSz); go_simp; all_goals (with_reducible rfl)
  (try simp only [Act.put, List.setIfInBounds_toArray, List.set_cons_zero, List.set_cons_succ])
  refine wpAnyH_take (i := 3) (oi := { dst := some 11, op := Op.load 60 (Operand.tmp 5), type := 60, pos := "room.go:33", after := #[], guard := none }) (v := ?_) rfl (by kernel_rfl) (by kernel_rfl) (by kernel_rfl) (fun _ _ _ h => h) (Or.inl ⟨by rfl, ?_⟩) (by assumption) ?_
  rotate_left
  · intro wz hSz; (try dsimp only at hSz); go_simp; all_goals (with_reducible rfl)
  (try simp only [Act.put, List.setIfInBounds_toArray, List.set_cons_zero, List.set_cons_succ])
  refine wpAnyH_ready (rs := [1, 4]) (by kernel_rfl) (by simp) ?_
  refine AllReadyH.cons (o := { dst := some 9, op := Op.call { callee := Callee.builtin Builtin.append, args := #[Operand.const (Value.slice none 0 0), Operand.tmp 8], argTypes := #[23, 23] }, type := 23, pos := "room.go:33", after := #[{ on := 0, ground := Ground.data }], guard := none }) rfl (fun K hK => ?_) (AllReadyH.cons (o := { dst := some 12, op := Op.buildSlice 23 2 #[(0, Operand.tmp 10), (1, Operand.tmp 11)], type := 23, pos := "room.go:33", after := #[{ on := 2, ground := Ground.data }, { on := 3, ground := Ground.data }], guard := none }) rfl (fun K hK => ?_) AllReadyH.nil)
  · refine step_copy rfl _ _ 23 rfl 60 ti _ 5 48 Tryd.underlying23 hi hi0 hi1 hi2 rfl (by decide) va L.length c (cellsF Nd.cs L) rfl rfl (cellsF_len nd_len L) (hNw _ (by exact hb1.drew)) (cellsF_one nd_one L) hva (by unfold maxLen; omega) (by omega) ?_
    intro a1 k1 w2 o2 b2
    have bb2 : Below w.heap.size w w2 := bel_after hb1.drew hb1.size b2
    have K2 := K1.drew.below b2
    have o2 := own_mono o2 hz1
    refine hK.out _ _ ?_ (fun hHeld => ?_)
    · (try dsimp only)
      exact ⟨K2.2.1 0, K2.2.1 1, K2.2.1 2, K2.2.1 3, K2.2.1 4⟩
    clear hK K
    (try simp only [Act.put, List.setIfInBounds_toArray, List.set_cons_zero, List.set_cons_succ])
    refine wpAnyH_ready (rs := [4]) (by kernel_rfl) (by simp) ?_
    refine AllReadyH.cons (o := { dst := some 12, op := Op.buildSlice 23 2 #[(0, Operand.tmp 10), (1, Operand.tmp 11)], type := 23, pos := "room.go:33", after := #[{ on := 2, ground := Ground.data }, { on := 3, ground := Ground.data }], guard := none }) rfl (fun K hK => ?_) AllReadyH.nil
    go_simp
    refine hK.out _ _ ?_ (fun hHeld => ?_)
    · (try dsimp only)
      exact ⟨(K2.alloc (.cells #[.int .i64 4444, .int .i32 0, .string ⟨#[]⟩, .int .i64 0, .int .i64 0, .int .i64 4444, .int .i32 0, .string ⟨#[]⟩, .int .i64 0, .int .i64 0] 60)).2.1 0, (K2.alloc (.cells #[.int .i64 4444, .int .i32 0, .string ⟨#[]⟩, .int .i64 0, .int .i64 0, .int .i64 4444, .int .i32 0, .string ⟨#[]⟩, .int .i64 0, .int .i64 0] 60)).2.1 1, (K2.alloc (.cells #[.int .i64 4444, .int .i32 0, .string ⟨#[]⟩, .int .i64 0, .int .i64 0, .int .i64 4444, .int .i32 0, .string ⟨#[]⟩, .int .i64 0, .int .i64 0] 60)).2.1 2, (K2.alloc (.cells #[.int .i64 4444, .int .i32 0, .string ⟨#[]⟩, .int .i64 0, .int .i64 0, .int .i64 4444, .int .i32 0, .string ⟨#[]⟩, .int .i64 0, .int .i64 0] 60)).2.1 3, (K2.alloc (.cells #[.int .i64 4444, .int .i32 0, .string ⟨#[]⟩, .int .i64 0, .int .i64 0, .int .i64 4444, .int .i32 0, .string ⟨#[]⟩, .int .i64 0, .int .i64 0] 60)).2.1 4⟩
    clear hK K
    (try simp only [Act.put, List.setIfInBounds_toArray, List.set_cons_zero, List.set_cons_succ])
    have K5 := K2.alloc (.cells #[.int .i64 4444, .int .i32 0, .string ⟨#[]⟩, .int .i64 0, .int .i64 0, .int .i64 4444, .int .i32 0, .string ⟨#[]⟩, .int .i64 0, .int .i64 0] 60)
    have o5 := own_bel o2 (bel1 (.cells #[.int .i64 4444, .int .i32 0, .string ⟨#[]⟩, .int .i64 0, .int .i64 0, .int .i64 4444, .int .i32 0, .string ⟨#[]⟩, .int .i64 0, .int .i64 0] 60))
    have b5 := bb2.alloc bb2.size (.cells #[.int .i64 4444, .int .i32 0, .string ⟨#[]⟩, .int .i64 0, .int .i64 0, .int .i64 4444, .int .i32 0, .string ⟨#[]⟩, .int .i64 0, .int .i64 0] 60)
    have hc5 := cells_at (W := w2) (b := w2.heap.size) rfl [.int .i64 4444, .int .i32 0, .string ⟨#[]⟩, .int .i64 0, .int .i64 0, .int .i64 4444, .int .i32 0, .string ⟨#[]⟩, .int .i64 0, .int .i64 0] 60
    have hz5 : w.heap.size + 1 ≤ _ := K5.1
    refine wpAnyH_ready (rs := [5]) (by kernel_rfl) (by simp) ?_
    refine AllReadyH.cons (o := { dst := some 13, op := Op.call { callee := Callee.builtin Builtin.append, args := #[Operand.tmp 9, Operand.tmp 12], argTypes := #[23, 23] }, type := 23, pos := "room.go:33", after := #[{ on := 1, ground := Ground.data }, { on := 4, ground := Ground.data }, { on := 1, ground := Ground.chain }], guard := none }) rfl (fun K hK => ?_) AllReadyH.nil
    refine step_append_lies _ rfl _ _ 23 rfl (w.heap.size + 1) 60 ti _ 5 48 Tryd.underlying23 hi hi0 hi1 hi2 rfl (by decide) (.slice a1 L.length k1) L.length (cellsF Nd.cs L) rfl o5 ⟨w2.heap.size, 0, none⟩ 2 2 [.int .i64 4444, .int .i32 0, .string ⟨#[]⟩, .int .i64 0, .int .i64 0, .int .i64 4444, .int .i32 0, .string ⟨#[]⟩, .int .i64 0, .int .i64 0] rfl rfl hc5 (all_one rfl) (by decide) (by unfold maxLen; omega) (by omega) hz5 _ rfl ?_
    intro g6 k6 w6 o6 gr6 hl6 hz6
    have b6 : Below w.heap.size w w6 := grown_bel b5 gr6 (Nat.le_refl _) (fun q hq => by have := (own_lt o5 q hq).1; omega)
    have hne6 : some w.heap.size ≠ (Value.slice a1 L.length k1).ownBlock := by intro e; have := (own_lt o5 _ e.symm).1; omega
    have K6 := K5.blk gr6.size (gr6.block _ K5.1 hne6)
    refine hK.out _ _ ?_ (fun hHeld => ?_)
    · (try dsimp only)
      exact ⟨K6.2.1 0, K6.2.1 1, K6.2.1 2, K6.2.1 3, K6.2.1 4⟩
    clear hK K
    (try simp only [Act.put, List.setIfInBounds_toArray, List.set_cons_zero, List.set_cons_succ])
    refine wpAnyH_take (i := 6) (oi := { dst := some 6, op := Op.assign (Operand.tmp 13), type := 23, pos := "room.go:33", after := #[{ on := 5, ground := Ground.data }, { on := 5, ground := Ground.chain }, { on := 0, ground := Ground.phase }, { on := 1, ground := Ground.phase }, { on := 2, ground := Ground.phase }, { on := 3, ground := Ground.phase }, { on := 4, ground := Ground.phase }, { on := 5, ground := Ground.phase }], guard := none }) (v := ?_) rfl (by kernel_rfl) (by kernel_rfl) (by kernel_rfl) (fun _ _ _ h => h) (Or.inl ⟨by rfl, ?_⟩) (by assumption) ?_
    rotate_left
    · intro wz hSz; (try dsimp only at hSz); go_simp; all_goals (with_reducible rfl)
    (try simp only [Act.put, List.setIfInBounds_toArray, List.set_cons_zero, List.set_cons_succ])
    refine wpAnyH_done (by kernel_rfl) ?_ _
    refine NoPanic.normal ?_
    have R6 := hR.below b6
    obtain ⟨_, r1, r2⟩ := id R6
    have hg6 := (own_lt o6 g6 rfl).1
    have hcap : L.length + 2 ≤ k6 := by obtain ⟨g', c', e, hc, -⟩ := own_block o6 (by omega); injection e with _ _ e; omega
    have i1 : (L.length : Int) ≤ (k6 : Int) := by omega
    have i2 : (0 : Int) ≤ (L.length : Int) := by omega
    have i3 : L.length ≤ k6 := by omega
    clear K5 K6 o5 b5 gr6 hc5 hl6 hNw
    go_wp2_with (at_builtin; (refine wpList_append_mine _ rfl _ _ 25 rfl (w.heap.size + 1) 23 tj _ 1 24 Tryd.underlying25 hj hj0 hj1 hj2 rfl (by decide) (.slice none 0 0) 0 [] rfl (World.ownsRow_nil _ _ _ _) ⟨w6.heap.size, 0, none⟩ 1 1 [.slice (some ⟨g6, 0, none⟩) (L.length + 2) k6] rfl rfl (cells_at (W := w6) rfl _ _) (all_one rfl) (by decide) (by decide) (by decide) (by have := R6.1; have := hz6; simp; omega) ?_); intro g7 k7 w7 o7 gr7 hl7 _ _; have b7' := bel_after (bel1 (w := w6) (.cells #[.slice (some ⟨g6, 0, none⟩) (L.length + 2) k6] 23)) (by simp) (grown_none gr7); have b7 := bel_after b6 b6.size b7'; have R7 := hR.below b7; obtain ⟨_, s1, s2⟩ := id R7)
    have hO : Only (fun q => q = R) w7 (w7.setCell ⟨R, 0, none⟩ (.slice (some ⟨g7, 0, none⟩) 1 k7)) := (Only.refl (fun q => q = R) w7).set (b := R) rfl _
    have R8 : Has (w7.setCell ⟨R, 0, none⟩ (.slice (some ⟨g7, 0, none⟩) 1 k7)) R #[(.slice (some ⟨g7, 0, none⟩) 1 k7), .slice none 0 0, .slice none 0 0, .slice none 0 0, .slice none 0 0, .slice none 0 0, .slice none 0 0, .slice none 0 0, .slice none 0 0, .slice none 0 0, .slice (some ⟨ga, 0, none⟩) 1 gc, .slice none 0 0, .slice none 0 0, .slice none 0 0, .slice none 0 0, .slice none 0 0, .slice none 0 0] := by simpa using R7.set 0 (by simp) (.slice (some ⟨g7, 0, none⟩) 1 k7)
    have o8 := own_only (own_bel o6 b7') hO (fun k hk e => by have := hR.1; omega)
    have h77 : w6.heap.size < g7 := by
      rcases hl7 with h | h
      · cases h
      · simp at h; omega
    have c8 : (w7.setCell ⟨R, 0, none⟩ (.slice (some ⟨g7, 0, none⟩) 1 k7)).cell? ⟨g7, 0, none⟩ = some (.slice (some ⟨g6, 0, none⟩) (L.length + 2) k6) := (World.cell?_setCell_other w7 ⟨R, 0, none⟩ ⟨g7, 0, none⟩ _ (by intro e; have e' := congrArg Addr.block e; simp at e'; have := hR.1; have := b6.size; omega)).trans (o7.cellAt 0 (by decide))
    have hg7 := (own_lt o7 g7 rfl).2
    have ee : cellsF Nd.cs L ++ [.int .i64 4444, .int .i32 0, .string ⟨#[]⟩, .int .i64 0, .int .i64 0, .int .i64 4444, .int .i32 0, .string ⟨#[]⟩, .int .i64 0, .int .i64 0] = cellsF Nd.cs (L ++ [mkN, mkN]) := by rw [cellsF_append]; rfl
    rw [ee] at o8
    go_ret
    exact ⟨g6, k6, g7, k7, rfl, o8, R8, c8, by have := b6.size; omega, by simpa [World.setCell] using hg7, by have := (own_lt o6 g6 rfl).2; omega, (Only.of_below b7).trans hO, by omega⟩
  · go_simp
    refine hK.out _ _ ?_ (fun hHeld => ?_)
    · (try dsimp only)
      exact ⟨(K1.drew.alloc (.cells #[.int .i64 4444, .int .i32 0, .string ⟨#[]⟩, .int .i64 0, .int .i64 0, .int .i64 4444, .int .i32 0, .string ⟨#[]⟩, .int .i64 0, .int .i64 0] 60)).2.1 0, (K1.drew.alloc (.cells #[.int .i64 4444, .int .i32 0, .string ⟨#[]⟩, .int .i64 0, .int .i64 0, .int .i64 4444, .int .i32 0, .string ⟨#[]⟩, .int .i64 0, .int .i64 0] 60)).2.1 1, (K1.drew.alloc (.cells #[.int .i64 4444, .int .i32 0, .string ⟨#[]⟩, .int .i64 0, .int .i64 0, .int .i64 4444, .int .i32 0, .string ⟨#[]⟩, .int .i64 0, .int .i64 0] 60)).2.1 2, (K1.drew.alloc (.cells #[.int .i64 4444, .int .i32 0, .string ⟨#[]⟩, .int .i64 0, .int .i64 0, .int .i64 4444, .int .i32 0, .string ⟨#[]⟩, .int .i64 0, .int .i64 0] 60)).2.1 3, (K1.drew.alloc (.cells #[.int .i64 4444, .int .i32 0, .string ⟨#[]⟩, .int .i64 0, .int .i64 0, .int .i64 4444, .int .i32 0, .string ⟨#[]⟩, .int .i64 0, .int .i64 0] 60)).2.1 4⟩
    clear hK K
    (try simp only [Act.put, List.setIfInBounds_toArray, List.set_cons_zero, List.set_cons_succ])
    have K1b := K1.drew.alloc (.cells #[.int .i64 4444, .int .i32 0, .string ⟨#[]⟩, .int .i64 0, .int .i64 0, .int .i64 4444, .int .i32 0, .string ⟨#[]⟩, .int .i64 0, .int .i64 0] 60)
    have hb1b := hb1.drew.alloc hb1.size (.cells #[.int .i64 4444, .int .i32 0, .string ⟨#[]⟩, .int .i64 0, .int .i64 0, .int .i64 4444, .int .i32 0, .string ⟨#[]⟩, .int .i64 0, .int .i64 0] 60)
    have hcb := cells_at (W := (w.alloc (.cells #[.int .i64 4444, .int .i32 0, .string ⟨#[]⟩, .int .i64 0, .int .i64 0] 60)).drew) (b := w.heap.size + 1) (by show w.heap.size + 1 = (w.alloc (.cells #[.int .i64 4444, .int .i32 0, .string ⟨#[]⟩, .int .i64 0, .int .i64 0] 60)).heap.size; simp) [.int .i64 4444, .int .i32 0, .string ⟨#[]⟩, .int .i64 0, .int .i64 0, .int .i64 4444, .int .i32 0, .string ⟨#[]⟩, .int .i64 0, .int .i64 0] 60
    have hz1b : w.heap.size + 1 ≤ ((w.alloc (.cells #[.int .i64 4444, .int .i32 0, .string ⟨#[]⟩, .int .i64 0, .int .i64 0] 60)).drew.alloc (.cells #[.int .i64 4444, .int .i32 0, .string ⟨#[]⟩, .int .i64 0, .int .i64 0, .int .i64 4444, .int .i32 0, .string ⟨#[]⟩, .int .i64 0, .int .i64 0] 60)).heap.size := by rw [World.size_alloc]; exact Nat.le_succ_of_le hz1
    have hzb : w.heap.size + 1 < ((w.alloc (.cells #[.int .i64 4444, .int .i32 0, .string ⟨#[]⟩, .int .i64 0, .int .i64 0] 60)).drew.alloc (.cells #[.int .i64 4444, .int .i32 0, .string ⟨#[]⟩, .int .i64 0, .int .i64 0, .int .i64 4444, .int .i32 0, .string ⟨#[]⟩, .int .i64 0, .int .i64 0] 60)).heap.size := by rw [World.size_alloc]; show w.heap.size + 1 < (w.alloc (.cells #[.int .i64 4444, .int .i32 0, .string ⟨#[]⟩, .int .i64 0, .int .i64 0] 60)).heap.size + 1; omega
    refine wpAnyH_ready (rs := [1]) (by kernel_rfl) (by simp) ?_
    refine AllReadyH.cons (o := { dst := some 9, op := Op.call { callee := Callee.builtin Builtin.append, args := #[Operand.const (Value.slice none 0 0), Operand.tmp 8], argTypes := #[23, 23] }, type := 23, pos := "room.go:33", after := #[{ on := 0, ground := Ground.data }], guard := none }) rfl (fun K hK => ?_) AllReadyH.nil
    refine step_copy rfl _ _ 23 rfl 60 ti _ 5 48 Tryd.underlying23 hi hi0 hi1 hi2 rfl (by decide) va L.length c (cellsF Nd.cs L) rfl rfl (cellsF_len nd_len L) (hNw _ (by exact hb1b)) (cellsF_one nd_one L) hva (by unfold maxLen; omega) (by omega) ?_
    intro a1 k1 w2 o2 b2
    have b5 : Below w.heap.size w w2 := bel_after hb1b hb1b.size b2
    have K5 := K1b.below b2
    have o5 := own_mono o2 hz1b
    refine hK.out _ _ ?_ (fun hHeld => ?_)
    · (try dsimp only)
      exact ⟨K5.2.1 0, K5.2.1 1, K5.2.1 2, K5.2.1 3, K5.2.1 4⟩
    clear hK K
    (try simp only [Act.put, List.setIfInBounds_toArray, List.set_cons_zero, List.set_cons_succ])
    have hc5 : ∀ j u, ([.int .i64 4444, .int .i32 0, .string ⟨#[]⟩, .int .i64 0, .int .i64 0, .int .i64 4444, .int .i32 0, .string ⟨#[]⟩, .int .i64 0, .int .i64 0] : List Value)[j]? = some u → w2.cell? ((⟨w.heap.size + 1, 0, none⟩ : Addr).add j) = some u := by
      intro j u hu
      have h := hcb j u hu
      rw [Go.WideShapes.add_plain] at h ⊢
      exact (b2.cell (p := ⟨w.heap.size + 1, _, none⟩) hzb).trans h
    have hz5 : w.heap.size + 1 ≤ _ := K5.1
    refine wpAnyH_ready (rs := [5]) (by kernel_rfl) (by simp) ?_
    refine AllReadyH.cons (o := { dst := some 13, op := Op.call { callee := Callee.builtin Builtin.append, args := #[Operand.tmp 9, Operand.tmp 12], argTypes := #[23, 23] }, type := 23, pos := "room.go:33", after := #[{ on := 1, ground := Ground.data }, { on := 4, ground := Ground.data }, { on := 1, ground := Ground.chain }], guard := none }) rfl (fun K hK => ?_) AllReadyH.nil
    refine step_append_lies _ rfl _ _ 23 rfl (w.heap.size + 1) 60 ti _ 5 48 Tryd.underlying23 hi hi0 hi1 hi2 rfl (by decide) (.slice a1 L.length k1) L.length (cellsF Nd.cs L) rfl o5 ⟨w.heap.size + 1, 0, none⟩ 2 2 [.int .i64 4444, .int .i32 0, .string ⟨#[]⟩, .int .i64 0, .int .i64 0, .int .i64 4444, .int .i32 0, .string ⟨#[]⟩, .int .i64 0, .int .i64 0] rfl rfl hc5 (all_one rfl) (by decide) (by unfold maxLen; omega) (by omega) hz5 _ rfl ?_
    intro g6 k6 w6 o6 gr6 hl6 hz6
    have b6 : Below w.heap.size w w6 := grown_bel b5 gr6 (Nat.le_refl _) (fun q hq => by have := (own_lt o5 q hq).1; omega)
    have hne6 : some w.heap.size ≠ (Value.slice a1 L.length k1).ownBlock := by intro e; have := (own_lt o5 _ e.symm).1; omega
    have K6 := K5.blk gr6.size (gr6.block _ K5.1 hne6)
    refine hK.out _ _ ?_ (fun hHeld => ?_)
    · (try dsimp only)
      exact ⟨K6.2.1 0, K6.2.1 1, K6.2.1 2, K6.2.1 3, K6.2.1 4⟩
    clear hK K
    (try simp only [Act.put, List.setIfInBounds_toArray, List.set_cons_zero, List.set_cons_succ])
    refine wpAnyH_take (i := 6) (oi := { dst := some 6, op := Op.assign (Operand.tmp 13), type := 23, pos := "room.go:33", after := #[{ on := 5, ground := Ground.data }, { on := 5, ground := Ground.chain }, { on := 0, ground := Ground.phase }, { on := 1, ground := Ground.phase }, { on := 2, ground := Ground.phase }, { on := 3, ground := Ground.phase }, { on := 4, ground := Ground.phase }, { on := 5, ground := Ground.phase }], guard := none }) (v := ?_) rfl (by kernel_rfl) (by kernel_rfl) (by kernel_rfl) (fun _ _ _ h => h) (Or.inl ⟨by rfl, ?_⟩) (by assumption) ?_
    rotate_left
    · intro wz hSz; (try dsimp only at hSz); go_simp; all_goals (with_reducible rfl)
    (try simp only [Act.put, List.setIfInBounds_toArray, List.set_cons_zero, List.set_cons_succ])
    refine wpAnyH_done (by kernel_rfl) ?_ _
    refine NoPanic.normal ?_
    have R6 := hR.below b6
    obtain ⟨_, r1, r2⟩ := id R6
    have hg6 := (own_lt o6 g6 rfl).1
    have hcap : L.length + 2 ≤ k6 := by obtain ⟨g', c', e, hc, -⟩ := own_block o6 (by omega); injection e with _ _ e; omega
    have i1 : (L.length : Int) ≤ (k6 : Int) := by omega
    have i2 : (0 : Int) ≤ (L.length : Int) := by omega
    have i3 : L.length ≤ k6 := by omega
    clear K5 K6 o5 b5 gr6 hc5 hl6 hNw
    go_wp2_with (at_builtin; (refine wpList_append_mine _ rfl _ _ 25 rfl (w.heap.size + 1) 23 tj _ 1 24 Tryd.underlying25 hj hj0 hj1 hj2 rfl (by decide) (.slice none 0 0) 0 [] rfl (World.ownsRow_nil _ _ _ _) ⟨w6.heap.size, 0, none⟩ 1 1 [.slice (some ⟨g6, 0, none⟩) (L.length + 2) k6] rfl rfl (cells_at (W := w6) rfl _ _) (all_one rfl) (by decide) (by decide) (by decide) (by have := R6.1; have := hz6; simp; omega) ?_); intro g7 k7 w7 o7 gr7 hl7 _ _; have b7' := bel_after (bel1 (w := w6) (.cells #[.slice (some ⟨g6, 0, none⟩) (L.length + 2) k6] 23)) (by simp) (grown_none gr7); have b7 := bel_after b6 b6.size b7'; have R7 := hR.below b7; obtain ⟨_, s1, s2⟩ := id R7)
    have hO : Only (fun q => q = R) w7 (w7.setCell ⟨R, 0, none⟩ (.slice (some ⟨g7, 0, none⟩) 1 k7)) := (Only.refl (fun q => q = R) w7).set (b := R) rfl _
    have R8 : Has (w7.setCell ⟨R, 0, none⟩ (.slice (some ⟨g7, 0, none⟩) 1 k7)) R #[(.slice (some ⟨g7, 0, none⟩) 1 k7), .slice none 0 0, .slice none 0 0, .slice none 0 0, .slice none 0 0, .slice none 0 0, .slice none 0 0, .slice none 0 0, .slice none 0 0, .slice none 0 0, .slice (some ⟨ga, 0, none⟩) 1 gc, .slice none 0 0, .slice none 0 0, .slice none 0 0, .slice none 0 0, .slice none 0 0, .slice none 0 0] := by simpa using R7.set 0 (by simp) (.slice (some ⟨g7, 0, none⟩) 1 k7)
    have o8 := own_only (own_bel o6 b7') hO (fun k hk e => by have := hR.1; omega)
    have h77 : w6.heap.size < g7 := by
      rcases hl7 with h | h
      · cases h
      · simp at h; omega
    have c8 : (w7.setCell ⟨R, 0, none⟩ (.slice (some ⟨g7, 0, none⟩) 1 k7)).cell? ⟨g7, 0, none⟩ = some (.slice (some ⟨g6, 0, none⟩) (L.length + 2) k6) := (World.cell?_setCell_other w7 ⟨R, 0, none⟩ ⟨g7, 0, none⟩ _ (by intro e; have e' := congrArg Addr.block e; simp at e'; have := hR.1; have := b6.size; omega)).trans (o7.cellAt 0 (by decide))
    have hg7 := (own_lt o7 g7 rfl).2
    have ee : cellsF Nd.cs L ++ [.int .i64 4444, .int .i32 0, .string ⟨#[]⟩, .int .i64 0, .int .i64 0, .int .i64 4444, .int .i32 0, .string ⟨#[]⟩, .int .i64 0, .int .i64 0] = cellsF Nd.cs (L ++ [mkN, mkN]) := by rw [cellsF_append]; rfl
    rw [ee] at o8
    go_ret
    exact ⟨g6, k6, g7, k7, rfl, o8, R8, c8, by have := b6.size; omega, by simpa [World.setCell] using hg7, by have := (own_lt o6 g6 rfl).2; omega, (Only.of_below b7).trans hO, by omega⟩
end Go.Proofs.YtfmdlcfkfglnhaaDoor
