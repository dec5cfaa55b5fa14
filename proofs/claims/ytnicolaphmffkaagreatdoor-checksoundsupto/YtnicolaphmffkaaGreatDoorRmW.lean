import Derived.Test.YtnicolaphmffkaaGreatDoorTkk
import Derived.Test.YtnicolaphmffkaaGreatDoorRmA
set_option linter.unusedVariables false
set_option linter.unusedSimpArgs false
namespace Go.Proofs.YtnicolaphmffkaaGreatDoor
open Go.RowKit
theorem vr_lenR (x : Vr) : x.cs.length = 2 := rfl
theorem vr_oneR (x : Vr) : ∀ u ∈ x.cs, u.oneCell' = true := all_one rfl
theorem infoR76 : (Tryz.prog.info? 76).map (fun i => (i.zero, i.size, i.bytes)) = some (some (.agg #[.string ⟨#[]⟩, .int .i32 0]), 2, 24) := by kernel_rfl
set_option maxRecDepth 100000 in
set_option maxHeartbeats 8000000 in
/-- Room.Typed's variables: copied, with two marks. -/
theorem typedR3 (G : List Gp) (C : List Cf) (D : List Dt) (TM CT : List ByteArray) (pn : ByteArray) (ga ca da ta ka va sa : Option Addr) (gc cc dc tc kc vc nS sc rb N N1 : Nat) (stt : Int) (VR : List Vr) (g1 c1 g2 c2 g3 c3 g4 c4 g5 c5 b5 b6 : Nat) (X : World)
    (hN : ∀ Y, Below X.heap.size X Y → (∀ ad, va = some ad → ∀ j u, (cellsF Vr.cs VR)[j]? = some u → Y.cell? (ad.add j) = some u) ∧ (va = none → VR.length = 0)) (lV : VR.length ≤ 1048576)
    (kN : Has X N #[.string pn, .slice ga G.length gc, .slice ca C.length cc, .slice da D.length dc, .slice ta TM.length tc, .slice ka CT.length kc, .slice va VR.length vc, .slice sa nS sc, .int .i64 stt]) (k6 : Has X b6 #[.string ⟨#[]⟩, .int .i32 4444]) :
    (Code.region 3 #[⟨some 37, .fieldAddr 31 (.tmp 3) 5, 0, "room.go:111", #[], none⟩,
  ⟨some 38, .load 28 (.tmp 37), 28, "room.go:111", #[⟨0, .data⟩], none⟩,
  ⟨some 39, .call { callee := Callee.builtin Builtin.append, args := #[.const (Value.slice none 0 0), .tmp 38], argTypes := #[28, 28] }, 28, "room.go:111", #[⟨1, .data⟩], none⟩,
  ⟨some 40, .load 76 (.tmp 6), 76, "room.go:111", #[], none⟩,
  ⟨some 41, .load 76 (.tmp 6), 76, "room.go:111", #[], none⟩,
  ⟨some 42, .buildSlice 28 2 #[(0, .tmp 40), (1, .tmp 41)], 28, "room.go:111", #[⟨3, .data⟩, ⟨4, .data⟩], none⟩,
  ⟨some 43, .call { callee := Callee.builtin Builtin.append, args := #[.tmp 39, .tmp 42], argTypes := #[28, 28] }, 28, "room.go:111", #[⟨2, .data⟩, ⟨5, .data⟩, ⟨2, .chain⟩], none⟩,
  ⟨some 7, .assign (.tmp 43), 28, "room.go:111", #[⟨6, .data⟩, ⟨6, .chain⟩, ⟨0, .phase⟩, ⟨1, .phase⟩, ⟨2, .phase⟩, ⟨3, .phase⟩, ⟨4, .phase⟩, ⟨5, .phase⟩, ⟨6, .phase⟩], none⟩] true).wp Tryz.prog (fun c a' w' => c = .normal ∧ ∃ (gv cv : Nat) (t39 t42 : Value), Below X.heap.size X w' ∧ w'.ownsRow X.heap.size 76 2 (.slice (some ⟨gv, 0, none⟩) (VR.length + 2) cv) (VR.length + 2) (cellsF Vr.cs VR ++ [.string ⟨#[]⟩, .int .i32 4444, .string ⟨#[]⟩, .int .i32 4444]) ∧ VR.length + 2 ≤ cv ∧ a' = { tmps := #[.pointer (some ⟨rb, 0, none⟩), .agg #[.string pn, .slice ga G.length gc, .slice ca C.length cc, .slice da D.length dc, .slice ta TM.length tc, .slice ka CT.length kc, .slice va VR.length vc, .slice sa nS sc, .int .i64 stt], undef, .pointer (some ⟨N, 0, none⟩), .pointer (some ⟨N1, 0, none⟩), .pointer (some ⟨b5, 0, none⟩), .pointer (some ⟨b6, 0, none⟩), .slice (some ⟨gv, 0, none⟩) (VR.length + 2) cv, undef, undef, undef, undef, undef, undef, undef, .pointer (some ⟨N, 0, none⟩), .string pn, .pointer (some ⟨N, 8, none⟩), .int .i64 stt, .pointer (some ⟨rb, 0, none⟩), .pointer (some ⟨N, 1, none⟩), .agg #[.slice ga G.length gc, .slice ca C.length cc], .agg #[.slice (some ⟨g1, 0, none⟩) G.length c1, .slice (some ⟨g2, 0, none⟩) C.length c2], .pointer (some ⟨rb, 0, none⟩), .pointer (some ⟨N, 3, none⟩), .slice da D.length dc, .slice (some ⟨g3, 0, none⟩) D.length c3, .pointer (some ⟨rb, 0, none⟩), .pointer (some ⟨N, 4, none⟩), .slice ta TM.length tc, .slice (some ⟨g4, 0, none⟩) TM.length c4, .pointer (some ⟨rb, 0, none⟩), .pointer (some ⟨N, 5, none⟩), .slice ka CT.length kc, .slice (some ⟨g5, 0, none⟩) CT.length c5, .agg #[.string pn, .slice (some ⟨g1, 0, none⟩) G.length c1, .slice (some ⟨g2, 0, none⟩) C.length c2, .slice (some ⟨g3, 0, none⟩) D.length c3, .slice (some ⟨g4, 0, none⟩) TM.length c4, .slice (some ⟨g5, 0, none⟩) CT.length c5, .slice none 0 0, .slice none 0 0, .int .i64 stt], .agg #[.string ⟨#[]⟩, .int .i32 4444], .pointer (some ⟨N, 6, none⟩), .slice va VR.length vc, t39, .agg #[.string ⟨#[]⟩, .int .i32 4444], .agg #[.string ⟨#[]⟩, .int .i32 4444], t42, .slice (some ⟨gv, 0, none⟩) (VR.length + 2) cv, undef, undef, undef, undef, undef, undef, undef, undef, undef, undef, undef, undef, undef, undef, undef, undef, undef, undef, undef, undef, undef, undef, undef, undef, undef, undef, undef, undef, undef, undef, undef, undef, undef, undef, undef, undef, undef, undef, undef, undef, undef, undef, undef, undef, undef, undef, undef, undef, undef, undef, undef, undef, undef, undef, undef, undef, undef, undef, undef, undef, undef, undef, undef, undef, undef, undef, undef, undef, undef, undef, undef, undef, undef, undef, undef, undef, undef, undef, undef, undef, undef, undef, undef, undef, undef, undef, undef, undef, undef, undef, undef, undef, undef, undef, undef, undef, undef, undef, undef, undef, undef, undef, undef, undef, undef, undef, undef, undef, undef, undef, undef, undef, undef, undef, undef, undef, undef], defers := [] })
      { tmps := #[.pointer (some ⟨rb, 0, none⟩), .agg #[.string pn, .slice ga G.length gc, .slice ca C.length cc, .slice da D.length dc, .slice ta TM.length tc, .slice ka CT.length kc, .slice va VR.length vc, .slice sa nS sc, .int .i64 stt], undef, .pointer (some ⟨N, 0, none⟩), .pointer (some ⟨N1, 0, none⟩), .pointer (some ⟨b5, 0, none⟩), .pointer (some ⟨b6, 0, none⟩), undef, undef, undef, undef, undef, undef, undef, undef, .pointer (some ⟨N, 0, none⟩), .string pn, .pointer (some ⟨N, 8, none⟩), .int .i64 stt, .pointer (some ⟨rb, 0, none⟩), .pointer (some ⟨N, 1, none⟩), .agg #[.slice ga G.length gc, .slice ca C.length cc], .agg #[.slice (some ⟨g1, 0, none⟩) G.length c1, .slice (some ⟨g2, 0, none⟩) C.length c2], .pointer (some ⟨rb, 0, none⟩), .pointer (some ⟨N, 3, none⟩), .slice da D.length dc, .slice (some ⟨g3, 0, none⟩) D.length c3, .pointer (some ⟨rb, 0, none⟩), .pointer (some ⟨N, 4, none⟩), .slice ta TM.length tc, .slice (some ⟨g4, 0, none⟩) TM.length c4, .pointer (some ⟨rb, 0, none⟩), .pointer (some ⟨N, 5, none⟩), .slice ka CT.length kc, .slice (some ⟨g5, 0, none⟩) CT.length c5, .agg #[.string pn, .slice (some ⟨g1, 0, none⟩) G.length c1, .slice (some ⟨g2, 0, none⟩) C.length c2, .slice (some ⟨g3, 0, none⟩) D.length c3, .slice (some ⟨g4, 0, none⟩) TM.length c4, .slice (some ⟨g5, 0, none⟩) CT.length c5, .slice none 0 0, .slice none 0 0, .int .i64 stt], .agg #[.string ⟨#[]⟩, .int .i32 4444], undef, undef, undef, undef, undef, undef, undef, undef, undef, undef, undef, undef, undef, undef, undef, undef, undef, undef, undef, undef, undef, undef, undef, undef, undef, undef, undef, undef, undef, undef, undef, undef, undef, undef, undef, undef, undef, undef, undef, undef, undef, undef, undef, undef, undef, undef, undef, undef, undef, undef, undef, undef, undef, undef, undef, undef, undef, undef, undef, undef, undef, undef, undef, undef, undef, undef, undef, undef, undef, undef, undef, undef, undef, undef, undef, undef, undef, undef, undef, undef, undef, undef, undef, undef, undef, undef, undef, undef, undef, undef, undef, undef, undef, undef, undef, undef, undef, undef, undef, undef, undef, undef, undef, undef, undef, undef, undef, undef, undef, undef, undef, undef, undef, undef, undef, undef, undef, undef, undef, undef, undef, undef, undef, undef], defers := [] } X := by
  obtain ⟨ti, hi, hi0, hi1, hi2⟩ := info_parts infoR76
  have b0 : Below X.heap.size X X.drew := (Below.refl _ _).drew
  refine wp_region_noPanic ?_
  refine wp_region_held_drew (S := fun w' => w'.cell? ⟨N, 6, none⟩ = some (.slice va VR.length vc) ∧ w'.cell? ⟨b6, 0, none⟩ = some (.string ⟨#[]⟩) ∧ w'.cell? ⟨b6, 1, none⟩ = some (.int .i32 4444)) (by kernel_rfl) ?_ (fun hHeld => ?_)
  · (try dsimp only)
    exact ⟨(kN.below b0).2.1 6, (k6.below b0).2.1 0, (k6.below b0).2.1 1⟩
  refine tkY 0 ⟨some 37, .fieldAddr 31 (.tmp 3) 5, 0, "room.go:111", #[], none⟩ ?_ rfl ⟨by rfl, ?_⟩ ?_
  rotate_left
  · intro wz hSz; (try dsimp only at hSz); go_simp; all_goals (with_reducible rfl)
  (try simp only [Act.put, List.setIfInBounds_toArray, List.set_cons_zero, List.set_cons_succ])
  refine tkY 1 ⟨some 38, .load 28 (.tmp 37), 28, "room.go:111", #[⟨0, .data⟩], none⟩ ?_ rfl ⟨by rfl, ?_⟩ ?_
  rotate_left
  · intro wz hSz; (try dsimp only at hSz); go_simp; all_goals (with_reducible rfl)
  (try simp only [Act.put, List.setIfInBounds_toArray, List.set_cons_zero, List.set_cons_succ])
  refine tkY 3 ⟨some 40, .load 76 (.tmp 6), 76, "room.go:111", #[], none⟩ ?_ rfl ⟨by rfl, ?_⟩ ?_
  rotate_left
  · intro wz hSz; (try dsimp only at hSz); go_simp; all_goals (with_reducible rfl)
  (try simp only [Act.put, List.setIfInBounds_toArray, List.set_cons_zero, List.set_cons_succ])
  refine tkY 4 ⟨some 41, .load 76 (.tmp 6), 76, "room.go:111", #[], none⟩ ?_ rfl ⟨by rfl, ?_⟩ ?_
  rotate_left
  · intro wz hSz; (try dsimp only at hSz); go_simp; all_goals (with_reducible rfl)
  (try simp only [Act.put, List.setIfInBounds_toArray, List.set_cons_zero, List.set_cons_succ])
  refine wpAnyH_ready (rs := [2, 5]) (by kernel_rfl) (by simp) ?_
  refine (AllReadyH.cons (o := ⟨some 39, .call { callee := Callee.builtin Builtin.append, args := #[.const (Value.slice none 0 0), .tmp 38], argTypes := #[28, 28] }, 28, "room.go:111", #[⟨1, .data⟩], none⟩) rfl (fun K hK => ?_) (AllReadyH.cons (o := ⟨some 42, .buildSlice 28 2 #[(0, .tmp 40), (1, .tmp 41)], 28, "room.go:111", #[⟨3, .data⟩, ⟨4, .data⟩], none⟩) rfl (fun K hK => ?_) AllReadyH.nil))
  · refine step_copy rfl _ _ 28 rfl 76 ti _ 2 24 Tryz.underlying28 hi hi0 hi1 hi2 rfl (by decide) va VR.length vc (cellsF Vr.cs VR) rfl rfl (cellsF_len vr_lenR VR) (hN _ b0).1 (cellsF_one vr_oneR VR) (hN _ b0).2 (by unfold maxLen; omega) (by omega) ?_
    intro a1 k1 w2 o2 b2
    have bb2 : Below X.heap.size X w2 := bel_after b0 b0.size b2
    refine hK.out _ _ ?_ (fun hHeld => ?_)
    · (try dsimp only)
      exact ⟨(kN.below bb2).2.1 6, (k6.below bb2).2.1 0, (k6.below bb2).2.1 1⟩
    clear hK K
    (try simp only [Act.put, List.setIfInBounds_toArray, List.set_cons_zero, List.set_cons_succ])
    refine wpAnyH_ready (rs := [5]) (by kernel_rfl) (by simp) ?_
    refine (AllReadyH.cons (o := ⟨some 42, .buildSlice 28 2 #[(0, .tmp 40), (1, .tmp 41)], 28, "room.go:111", #[⟨3, .data⟩, ⟨4, .data⟩], none⟩) rfl (fun K hK => ?_) AllReadyH.nil)
    go_simp
    have bb3 := bb2.alloc bb2.size (.cells #[.string ⟨#[]⟩, .int .i32 4444, .string ⟨#[]⟩, .int .i32 4444] 76)
    refine hK.out _ _ ?_ (fun hHeld => ?_)
    · (try dsimp only)
      exact ⟨(kN.below bb3).2.1 6, (k6.below bb3).2.1 0, (k6.below bb3).2.1 1⟩
    clear hK K
    (try simp only [Act.put, List.setIfInBounds_toArray, List.set_cons_zero, List.set_cons_succ])
    have o5 := own_bel o2 (bel1 (.cells #[.string ⟨#[]⟩, .int .i32 4444, .string ⟨#[]⟩, .int .i32 4444] 76))
    have hc5 := cells_at (W := w2) (b := w2.heap.size) rfl [.string ⟨#[]⟩, .int .i32 4444, .string ⟨#[]⟩, .int .i32 4444] 76
    refine wpAnyH_ready (rs := [6]) (by kernel_rfl) (by simp) ?_
    refine (AllReadyH.cons (o := ⟨some 43, .call { callee := Callee.builtin Builtin.append, args := #[.tmp 39, .tmp 42], argTypes := #[28, 28] }, 28, "room.go:111", #[⟨2, .data⟩, ⟨5, .data⟩, ⟨2, .chain⟩], none⟩) rfl (fun K hK => ?_) AllReadyH.nil)
    refine step_append_lies _ rfl _ _ 28 rfl X.heap.size 76 ti _ 2 24 Tryz.underlying28 hi hi0 hi1 hi2 rfl (by decide) (.slice a1 VR.length k1) VR.length (cellsF Vr.cs VR) rfl o5 ⟨w2.heap.size, 0, none⟩ 2 2 [.string ⟨#[]⟩, .int .i32 4444, .string ⟨#[]⟩, .int .i32 4444] rfl rfl hc5 (all_one rfl) (by decide) (by unfold maxLen; omega) (by omega) bb3.size _ rfl ?_
    intro gv cv w9 o9 gr6 hl6 hz6
    have b9 : Below X.heap.size X w9 := grown_bel bb3 gr6 (Nat.le_refl _) (fun q hq => (own_lt o5 q hq).1)
    refine hK.out _ _ ?_ (fun hHeld => ?_)
    · (try dsimp only)
      exact ⟨(kN.below b9).2.1 6, (k6.below b9).2.1 0, (k6.below b9).2.1 1⟩
    clear hK K
    (try simp only [Act.put, List.setIfInBounds_toArray, List.set_cons_zero, List.set_cons_succ])
    refine tkY 7 ⟨some 7, .assign (.tmp 43), 28, "room.go:111", #[⟨6, .data⟩, ⟨6, .chain⟩, ⟨0, .phase⟩, ⟨1, .phase⟩, ⟨2, .phase⟩, ⟨3, .phase⟩, ⟨4, .phase⟩, ⟨5, .phase⟩, ⟨6, .phase⟩], none⟩ ?_ rfl ⟨by rfl, ?_⟩ ?_
    rotate_left
    · intro wz hSz; (try dsimp only at hSz); go_simp; all_goals (with_reducible rfl)
    (try simp only [Act.put, List.setIfInBounds_toArray, List.set_cons_zero, List.set_cons_succ])
    refine wpAnyH_done (by kernel_rfl) ?_ _
    refine NoPanic.normal ?_
    exact ⟨rfl, gv, cv, _, _, b9, o9, own_capR o9 (by omega), rfl⟩
  · go_simp
    have bbB := b0.alloc b0.size (.cells #[.string ⟨#[]⟩, .int .i32 4444, .string ⟨#[]⟩, .int .i32 4444] 76)
    refine hK.out _ _ ?_ (fun hHeld => ?_)
    · (try dsimp only)
      exact ⟨(kN.below bbB).2.1 6, (k6.below bbB).2.1 0, (k6.below bbB).2.1 1⟩
    clear hK K
    (try simp only [Act.put, List.setIfInBounds_toArray, List.set_cons_zero, List.set_cons_succ])
    have hcb := cells_at (W := X.drew) (b := X.heap.size) rfl [.string ⟨#[]⟩, .int .i32 4444, .string ⟨#[]⟩, .int .i32 4444] 76
    have hzb : X.heap.size < (X.drew.alloc (.cells #[.string ⟨#[]⟩, .int .i32 4444, .string ⟨#[]⟩, .int .i32 4444] 76)).heap.size := by rw [World.size_alloc]; exact Nat.lt_succ_self _
    refine wpAnyH_ready (rs := [2]) (by kernel_rfl) (by simp) ?_
    refine (AllReadyH.cons (o := ⟨some 39, .call { callee := Callee.builtin Builtin.append, args := #[.const (Value.slice none 0 0), .tmp 38], argTypes := #[28, 28] }, 28, "room.go:111", #[⟨1, .data⟩], none⟩) rfl (fun K hK => ?_) AllReadyH.nil)
    refine step_copy rfl _ _ 28 rfl 76 ti _ 2 24 Tryz.underlying28 hi hi0 hi1 hi2 rfl (by decide) va VR.length vc (cellsF Vr.cs VR) rfl rfl (cellsF_len vr_lenR VR) (hN _ bbB).1 (cellsF_one vr_oneR VR) (hN _ bbB).2 (by unfold maxLen; omega) (by omega) ?_
    intro a1 k1 w2 o2 b2
    have bb5 : Below X.heap.size X w2 := bel_after bbB bbB.size b2
    have o5 := own_mono o2 bbB.size
    refine hK.out _ _ ?_ (fun hHeld => ?_)
    · (try dsimp only)
      exact ⟨(kN.below bb5).2.1 6, (k6.below bb5).2.1 0, (k6.below bb5).2.1 1⟩
    clear hK K
    (try simp only [Act.put, List.setIfInBounds_toArray, List.set_cons_zero, List.set_cons_succ])
    have hc5 : ∀ j u, ([.string ⟨#[]⟩, .int .i32 4444, .string ⟨#[]⟩, .int .i32 4444] : List Value)[j]? = some u → w2.cell? ((⟨X.heap.size, 0, none⟩ : Addr).add j) = some u := by
      intro j u hu
      have h := hcb j u hu
      rw [Go.WideShapes.add_plain] at h ⊢
      exact (b2.cell (p := ⟨X.heap.size, _, none⟩) hzb).trans h
    refine wpAnyH_ready (rs := [6]) (by kernel_rfl) (by simp) ?_
    refine (AllReadyH.cons (o := ⟨some 43, .call { callee := Callee.builtin Builtin.append, args := #[.tmp 39, .tmp 42], argTypes := #[28, 28] }, 28, "room.go:111", #[⟨2, .data⟩, ⟨5, .data⟩, ⟨2, .chain⟩], none⟩) rfl (fun K hK => ?_) AllReadyH.nil)
    refine step_append_lies _ rfl _ _ 28 rfl X.heap.size 76 ti _ 2 24 Tryz.underlying28 hi hi0 hi1 hi2 rfl (by decide) (.slice a1 VR.length k1) VR.length (cellsF Vr.cs VR) rfl o5 ⟨X.heap.size, 0, none⟩ 2 2 [.string ⟨#[]⟩, .int .i32 4444, .string ⟨#[]⟩, .int .i32 4444] rfl rfl hc5 (all_one rfl) (by decide) (by unfold maxLen; omega) (by omega) bb5.size _ rfl ?_
    intro gv cv w9 o9 gr6 hl6 hz6
    have b9 : Below X.heap.size X w9 := grown_bel bb5 gr6 (Nat.le_refl _) (fun q hq => (own_lt o5 q hq).1)
    refine hK.out _ _ ?_ (fun hHeld => ?_)
    · (try dsimp only)
      exact ⟨(kN.below b9).2.1 6, (k6.below b9).2.1 0, (k6.below b9).2.1 1⟩
    clear hK K
    (try simp only [Act.put, List.setIfInBounds_toArray, List.set_cons_zero, List.set_cons_succ])
    refine tkY 7 ⟨some 7, .assign (.tmp 43), 28, "room.go:111", #[⟨6, .data⟩, ⟨6, .chain⟩, ⟨0, .phase⟩, ⟨1, .phase⟩, ⟨2, .phase⟩, ⟨3, .phase⟩, ⟨4, .phase⟩, ⟨5, .phase⟩, ⟨6, .phase⟩], none⟩ ?_ rfl ⟨by rfl, ?_⟩ ?_
    rotate_left
    · intro wz hSz; (try dsimp only at hSz); go_simp; all_goals (with_reducible rfl)
    (try simp only [Act.put, List.setIfInBounds_toArray, List.set_cons_zero, List.set_cons_succ])
    refine wpAnyH_done (by kernel_rfl) ?_ _
    refine NoPanic.normal ?_
    exact ⟨rfl, gv, cv, _, _, b9, o9, own_capR o9 (by omega), rfl⟩
end Go.Proofs.YtnicolaphmffkaaGreatDoor
