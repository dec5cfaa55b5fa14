import Derived.Test.YtnicolaphmffkaaGreatDoorTkk
import Derived.Test.YtnicolaphmffkaaGreatDoorRmA
set_option linter.unusedVariables false
set_option linter.unusedSimpArgs false
namespace Go.Proofs.YtnicolaphmffkaaGreatDoor
open Go.RowKit
set_option maxRecDepth 100000 in
set_option maxHeartbeats 8000000 in
/-- Room.Nodes. -/
theorem roomNodes_any (L : List Nd) (va : Option Addr) (c rb : Nat) (o : Nat → Nat) (B : Nat) (F : Nat → List Lr) (V : Nat → Value) (W : World) (hF : Fl 5 Nd.cs W (.slice va L.length c) L) (hlen : L.length ≤ 1048576) (hR : Rm o B W rb F V) (hb : (F 0).length ≤ 5864062014000) :
    Calls Tryz.prog 7 #[.pointer (some ⟨rb, 0, none⟩), .slice va L.length c] W fun e W' => RmQ o B W rb F 0 L.length (cellsF Nd.cs L ++ [.int .i64 4444, .int .i32 0, .string ⟨#[]⟩, .int .i64 0, .int .i64 0, .int .i64 4444, .int .i32 0, .string ⟨#[]⟩, .int .i64 0, .int .i64 0]) e W' := by
  obtain ⟨ti, hi, hi0, hi1, hi2⟩ := info_parts info88
  obtain ⟨tj, hj, hj0, hj1, hj2⟩ := info_parts infoR32
  have hsr := fun (X : World) (hX : Below W.heap.size W X) => fl_src nd_len1 (by decide) (hF.below hX)
  have hNw := fun (X : World) (hX : Below W.heap.size W X) => (hsr X hX).1
  have hva := (hsr W (Below.refl _ _)).2
  have K1 : Has (W.alloc (.cells #[.int .i64 4444, .int .i32 0, .string ⟨#[]⟩, .int .i64 0, .int .i64 0] 88)) W.heap.size #[.int .i64 4444, .int .i32 0, .string ⟨#[]⟩, .int .i64 0, .int .i64 0] := Has.new _ _ _ rfl
  have hb1 : Below W.heap.size W (W.alloc (.cells #[.int .i64 4444, .int .i32 0, .string ⟨#[]⟩, .int .i64 0, .int .i64 0] 88)) := bel1 _
  have hz1 : W.heap.size + 1 ≤ (W.alloc (.cells #[.int .i64 4444, .int .i32 0, .string ⟨#[]⟩, .int .i64 0, .int .i64 0] 88)).heap.size := by simp
  clear hF hsr
  go_enter Tryz.func7, Tryz.ntmps7
  go_wp2_with fail
  refine wp_region_noPanic ?_
  refine wp_region_held_drew (S := fun w' => w'.cell? ⟨W.heap.size, 0, none⟩ = some (.int .i64 4444) ∧ w'.cell? ⟨W.heap.size, 1, none⟩ = some (.int .i32 0) ∧ w'.cell? ⟨W.heap.size, 2, none⟩ = some (.string ⟨#[]⟩) ∧ w'.cell? ⟨W.heap.size, 3, none⟩ = some (.int .i64 0) ∧ w'.cell? ⟨W.heap.size, 4, none⟩ = some (.int .i64 0)) (by kernel_rfl) ?_ (fun hHeld => ?_)
  · (try dsimp only)
    exact ⟨K1.drew.2.1 0, K1.drew.2.1 1, K1.drew.2.1 2, K1.drew.2.1 3, K1.drew.2.1 4⟩
  refine tkY 0 ⟨some 8, .move (.tmp 1), 32, "room.go:33", #[], none⟩ ?_ rfl ⟨by rfl, ?_⟩ ?_
  rotate_left
  · intro wz hSz; (try dsimp only at hSz); go_simp; all_goals (with_reducible rfl)
  (try simp only [Act.put, List.setIfInBounds_toArray, List.set_cons_zero, List.set_cons_succ])
  refine tkY 2 ⟨some 10, .load 88 (.tmp 5), 88, "room.go:33", #[], none⟩ ?_ rfl ⟨by rfl, ?_⟩ ?_
  rotate_left
  · intro wz hSz; (try dsimp only at hSz); go_simp; all_goals (with_reducible rfl)
  (try simp only [Act.put, List.setIfInBounds_toArray, List.set_cons_zero, List.set_cons_succ])
  refine tkY 3 ⟨some 11, .load 88 (.tmp 5), 88, "room.go:33", #[], none⟩ ?_ rfl ⟨by rfl, ?_⟩ ?_
  rotate_left
  · intro wz hSz; (try dsimp only at hSz); go_simp; all_goals (with_reducible rfl)
  (try simp only [Act.put, List.setIfInBounds_toArray, List.set_cons_zero, List.set_cons_succ])
  refine wpAnyH_ready (rs := [1, 4]) (by kernel_rfl) (by simp) ?_
  refine (AllReadyH.cons (o := ⟨some 9, .call { callee := Callee.builtin Builtin.append, args := #[.const (Value.slice none 0 0), .tmp 8], argTypes := #[32, 32] }, 32, "room.go:33", #[⟨0, .data⟩], none⟩) rfl (fun K hK => ?_) (AllReadyH.cons (o := ⟨some 12, .buildSlice 32 2 #[(0, .tmp 10), (1, .tmp 11)], 32, "room.go:33", #[⟨2, .data⟩, ⟨3, .data⟩], none⟩) rfl (fun K hK => ?_) AllReadyH.nil))
  · refine step_copy rfl _ _ 32 rfl 88 ti _ 5 48 Tryz.underlying32 hi hi0 hi1 hi2 rfl (by decide) va L.length c (cellsF Nd.cs L) rfl rfl (cellsF_len nd_len1 L) (hNw _ hb1.drew) (cellsF_one nd_one1 L) hva (by unfold maxLen; omega) (by omega) ?_
    intro a1 k1 w2 o2 b2
    have bb2 : Below W.heap.size W w2 := bel_after hb1.drew hb1.size b2
    have K2 := K1.drew.below b2
    have o2 := own_mono o2 hz1
    refine hK.out _ _ ?_ (fun hHeld => ?_)
    · (try dsimp only)
      exact ⟨K2.2.1 0, K2.2.1 1, K2.2.1 2, K2.2.1 3, K2.2.1 4⟩
    clear hK K
    (try simp only [Act.put, List.setIfInBounds_toArray, List.set_cons_zero, List.set_cons_succ])
    refine wpAnyH_ready (rs := [4]) (by kernel_rfl) (by simp) ?_
    refine (AllReadyH.cons (o := ⟨some 12, .buildSlice 32 2 #[(0, .tmp 10), (1, .tmp 11)], 32, "room.go:33", #[⟨2, .data⟩, ⟨3, .data⟩], none⟩) rfl (fun K hK => ?_) AllReadyH.nil)
    go_simp
    refine hK.out _ _ ?_ (fun hHeld => ?_)
    · (try dsimp only)
      exact ⟨(K2.alloc (.cells #[.int .i64 4444, .int .i32 0, .string ⟨#[]⟩, .int .i64 0, .int .i64 0, .int .i64 4444, .int .i32 0, .string ⟨#[]⟩, .int .i64 0, .int .i64 0] 88)).2.1 0, (K2.alloc (.cells #[.int .i64 4444, .int .i32 0, .string ⟨#[]⟩, .int .i64 0, .int .i64 0, .int .i64 4444, .int .i32 0, .string ⟨#[]⟩, .int .i64 0, .int .i64 0] 88)).2.1 1, (K2.alloc (.cells #[.int .i64 4444, .int .i32 0, .string ⟨#[]⟩, .int .i64 0, .int .i64 0, .int .i64 4444, .int .i32 0, .string ⟨#[]⟩, .int .i64 0, .int .i64 0] 88)).2.1 2, (K2.alloc (.cells #[.int .i64 4444, .int .i32 0, .string ⟨#[]⟩, .int .i64 0, .int .i64 0, .int .i64 4444, .int .i32 0, .string ⟨#[]⟩, .int .i64 0, .int .i64 0] 88)).2.1 3, (K2.alloc (.cells #[.int .i64 4444, .int .i32 0, .string ⟨#[]⟩, .int .i64 0, .int .i64 0, .int .i64 4444, .int .i32 0, .string ⟨#[]⟩, .int .i64 0, .int .i64 0] 88)).2.1 4⟩
    clear hK K
    (try simp only [Act.put, List.setIfInBounds_toArray, List.set_cons_zero, List.set_cons_succ])
    have K5 := K2.alloc (.cells #[.int .i64 4444, .int .i32 0, .string ⟨#[]⟩, .int .i64 0, .int .i64 0, .int .i64 4444, .int .i32 0, .string ⟨#[]⟩, .int .i64 0, .int .i64 0] 88)
    have o5 := own_bel o2 (bel1 (.cells #[.int .i64 4444, .int .i32 0, .string ⟨#[]⟩, .int .i64 0, .int .i64 0, .int .i64 4444, .int .i32 0, .string ⟨#[]⟩, .int .i64 0, .int .i64 0] 88))
    have b5 := bb2.alloc bb2.size (.cells #[.int .i64 4444, .int .i32 0, .string ⟨#[]⟩, .int .i64 0, .int .i64 0, .int .i64 4444, .int .i32 0, .string ⟨#[]⟩, .int .i64 0, .int .i64 0] 88)
    have hc5 := cells_at (W := w2) (b := w2.heap.size) rfl [.int .i64 4444, .int .i32 0, .string ⟨#[]⟩, .int .i64 0, .int .i64 0, .int .i64 4444, .int .i32 0, .string ⟨#[]⟩, .int .i64 0, .int .i64 0] 88
    refine wpAnyH_ready (rs := [5]) (by kernel_rfl) (by simp) ?_
    refine (AllReadyH.cons (o := ⟨some 13, .call { callee := Callee.builtin Builtin.append, args := #[.tmp 9, .tmp 12], argTypes := #[32, 32] }, 32, "room.go:33", #[⟨1, .data⟩, ⟨4, .data⟩, ⟨1, .chain⟩], none⟩) rfl (fun K hK => ?_) AllReadyH.nil)
    refine step_append_lies _ rfl _ _ 32 rfl (W.heap.size + 1) 88 ti _ 5 48 Tryz.underlying32 hi hi0 hi1 hi2 rfl (by decide) (.slice a1 L.length k1) L.length (cellsF Nd.cs L) rfl o5 ⟨w2.heap.size, 0, none⟩ 2 2 [.int .i64 4444, .int .i32 0, .string ⟨#[]⟩, .int .i64 0, .int .i64 0, .int .i64 4444, .int .i32 0, .string ⟨#[]⟩, .int .i64 0, .int .i64 0] rfl rfl hc5 (all_one rfl) (by decide) (by unfold maxLen; omega) (by omega) K5.1 _ rfl ?_
    intro g6 k6 w6 o6 gr6 hl6 hz6
    have b6 : Below W.heap.size W w6 := grown_bel b5 gr6 (Nat.le_refl _) (fun q hq => by have := (own_lt o5 q hq).1; omega)
    have hne6 : some W.heap.size ≠ (Value.slice a1 L.length k1).ownBlock := by intro e; have := (own_lt o5 _ e.symm).1; omega
    have K6 := K5.blk gr6.size (gr6.block _ K5.1 hne6)
    refine hK.out _ _ ?_ (fun hHeld => ?_)
    · (try dsimp only)
      exact ⟨K6.2.1 0, K6.2.1 1, K6.2.1 2, K6.2.1 3, K6.2.1 4⟩
    clear hK K
    (try simp only [Act.put, List.setIfInBounds_toArray, List.set_cons_zero, List.set_cons_succ])
    refine tkY 6 ⟨some 6, .assign (.tmp 13), 32, "room.go:33", #[⟨5, .data⟩, ⟨5, .chain⟩, ⟨0, .phase⟩, ⟨1, .phase⟩, ⟨2, .phase⟩, ⟨3, .phase⟩, ⟨4, .phase⟩, ⟨5, .phase⟩], none⟩ ?_ rfl ⟨by rfl, ?_⟩ ?_
    rotate_left
    · intro wz hSz; (try dsimp only at hSz); go_simp; all_goals (with_reducible rfl)
    (try simp only [Act.put, List.setIfInBounds_toArray, List.set_cons_zero, List.set_cons_succ])
    refine wpAnyH_done (by kernel_rfl) ?_ _
    refine NoPanic.normal ?_
    clear K6 o5 b5 gr6 hc5 hl6
    have hR6 := hR.below b6
    have hF6 := (hR6.fl 0 (by decide)).own.own
    have hm6 : MkP (rS 0) (rO 0) (rV 0) (nwO W.heap.size) w6 ⟨g6, L.length + 2, k6⟩ := rm_mark (n := L.length) o6 (cellsF_len nd_len1 L) hlen (by omega) (by rfl) (by rfl)
    have hcap : L.length + 2 ≤ k6 := own_capR o6 (by omega)
    have i1 : (L.length : Int) ≤ (k6 : Int) := by omega
    have i2 : (0 : Int) ≤ (L.length : Int) := by omega
    have i3 : L.length ≤ k6 := by omega
    have c6 := hR6.cl 0 (by decide)
    have f6 := hR6.fz 0
    have l6 := hR6.lt
    obtain ⟨fa, fc, hV⟩ := own_form hF6
    have hVh := hideQ hV
    rw [hV] at c6 hF6
    have hb7 := bel1 (w := w6) (.cells #[.slice (some ⟨g6, 0, none⟩) (L.length + 2) k6] 32)
    have hF7 := own_bel hF6 hb7
    have s7 : B ≤ (w6.alloc (.cells #[.slice (some ⟨g6, 0, none⟩) (L.length + 2) k6] 32)).heap.size := by have := hR6.bb; simp; omega
    have hFz := hideQ (fz_own o6)
    clear hR6 K5 hNw hV hF6
    go_wp2_with (at_builtin; (refine wpList_append_mine _ rfl _ _ 34 rfl B 32 tj _ 1 24 Tryz.underlying34 hj hj0 hj1 hj2 rfl (by decide) (.slice fa (F 0).length fc) (F 0).length (cellsF Lr.cs (F 0)) rfl hF7 ⟨w6.heap.size, 0, none⟩ 1 1 [.slice (some ⟨g6, 0, none⟩) (L.length + 2) k6] rfl rfl (cells_at (W := w6) rfl _ _) (all_one rfl) (by decide) (by unfold maxLen; omega) (by omega) s7 ?_); intro g7 k7 w7 o7 gr7 at7 _ hc7; have q7 := rm_gw hR (k := 0) (by decide) (bel_after b6 b6.size hb7) (by rw [hVh.out]; exact gr7) (by rw [hVh.out]; exact at7); have hP := hR.push (r := ⟨g6, L.length + 2, k6⟩) (by decide) q7 o7 ((hm6.mv (Mv.below hb7)).mv q7.mvI); have c7 := (cell_heap (j := 0) (q7.ky.block rb hR.lt (by rw [hR.ob]; decide))).trans (hR.cl 0 (by decide)); rw [hVh.out] at c7; have f7 := rm_fz hR q7 0; have l7 : rb < w7.heap.size := Nat.lt_of_lt_of_le hR.lt q7.ky.size)
    go_ret
    refine ⟨_, g6, k6, _, rfl, hP.1, hP.2, hcap, ?_⟩
    exact ((hFz.out.mv (Mv.below hb7)).mv q7.mvI).mv (hR.ksm _ _ _ _ _)
  · go_simp
    refine hK.out _ _ ?_ (fun hHeld => ?_)
    · (try dsimp only)
      exact ⟨(K1.drew.alloc (.cells #[.int .i64 4444, .int .i32 0, .string ⟨#[]⟩, .int .i64 0, .int .i64 0, .int .i64 4444, .int .i32 0, .string ⟨#[]⟩, .int .i64 0, .int .i64 0] 88)).2.1 0, (K1.drew.alloc (.cells #[.int .i64 4444, .int .i32 0, .string ⟨#[]⟩, .int .i64 0, .int .i64 0, .int .i64 4444, .int .i32 0, .string ⟨#[]⟩, .int .i64 0, .int .i64 0] 88)).2.1 1, (K1.drew.alloc (.cells #[.int .i64 4444, .int .i32 0, .string ⟨#[]⟩, .int .i64 0, .int .i64 0, .int .i64 4444, .int .i32 0, .string ⟨#[]⟩, .int .i64 0, .int .i64 0] 88)).2.1 2, (K1.drew.alloc (.cells #[.int .i64 4444, .int .i32 0, .string ⟨#[]⟩, .int .i64 0, .int .i64 0, .int .i64 4444, .int .i32 0, .string ⟨#[]⟩, .int .i64 0, .int .i64 0] 88)).2.1 3, (K1.drew.alloc (.cells #[.int .i64 4444, .int .i32 0, .string ⟨#[]⟩, .int .i64 0, .int .i64 0, .int .i64 4444, .int .i32 0, .string ⟨#[]⟩, .int .i64 0, .int .i64 0] 88)).2.1 4⟩
    clear hK K
    (try simp only [Act.put, List.setIfInBounds_toArray, List.set_cons_zero, List.set_cons_succ])
    have K1b := K1.drew.alloc (.cells #[.int .i64 4444, .int .i32 0, .string ⟨#[]⟩, .int .i64 0, .int .i64 0, .int .i64 4444, .int .i32 0, .string ⟨#[]⟩, .int .i64 0, .int .i64 0] 88)
    have hb1b := hb1.drew.alloc hb1.size (.cells #[.int .i64 4444, .int .i32 0, .string ⟨#[]⟩, .int .i64 0, .int .i64 0, .int .i64 4444, .int .i32 0, .string ⟨#[]⟩, .int .i64 0, .int .i64 0] 88)
    have hcb := cells_at (W := (W.alloc (.cells #[.int .i64 4444, .int .i32 0, .string ⟨#[]⟩, .int .i64 0, .int .i64 0] 88)).drew) (b := W.heap.size + 1) (by show W.heap.size + 1 = (W.alloc (.cells #[.int .i64 4444, .int .i32 0, .string ⟨#[]⟩, .int .i64 0, .int .i64 0] 88)).heap.size; simp) [.int .i64 4444, .int .i32 0, .string ⟨#[]⟩, .int .i64 0, .int .i64 0, .int .i64 4444, .int .i32 0, .string ⟨#[]⟩, .int .i64 0, .int .i64 0] 88
    have hz1b : W.heap.size + 1 ≤ ((W.alloc (.cells #[.int .i64 4444, .int .i32 0, .string ⟨#[]⟩, .int .i64 0, .int .i64 0] 88)).drew.alloc (.cells #[.int .i64 4444, .int .i32 0, .string ⟨#[]⟩, .int .i64 0, .int .i64 0, .int .i64 4444, .int .i32 0, .string ⟨#[]⟩, .int .i64 0, .int .i64 0] 88)).heap.size := by rw [World.size_alloc]; exact Nat.le_succ_of_le hz1
    have hzb : W.heap.size + 1 < ((W.alloc (.cells #[.int .i64 4444, .int .i32 0, .string ⟨#[]⟩, .int .i64 0, .int .i64 0] 88)).drew.alloc (.cells #[.int .i64 4444, .int .i32 0, .string ⟨#[]⟩, .int .i64 0, .int .i64 0, .int .i64 4444, .int .i32 0, .string ⟨#[]⟩, .int .i64 0, .int .i64 0] 88)).heap.size := by rw [World.size_alloc]; show W.heap.size + 1 < (W.alloc (.cells #[.int .i64 4444, .int .i32 0, .string ⟨#[]⟩, .int .i64 0, .int .i64 0] 88)).heap.size + 1; simp
    refine wpAnyH_ready (rs := [1]) (by kernel_rfl) (by simp) ?_
    refine (AllReadyH.cons (o := ⟨some 9, .call { callee := Callee.builtin Builtin.append, args := #[.const (Value.slice none 0 0), .tmp 8], argTypes := #[32, 32] }, 32, "room.go:33", #[⟨0, .data⟩], none⟩) rfl (fun K hK => ?_) AllReadyH.nil)
    refine step_copy rfl _ _ 32 rfl 88 ti _ 5 48 Tryz.underlying32 hi hi0 hi1 hi2 rfl (by decide) va L.length c (cellsF Nd.cs L) rfl rfl (cellsF_len nd_len1 L) (hNw _ hb1b) (cellsF_one nd_one1 L) hva (by unfold maxLen; omega) (by omega) ?_
    intro a1 k1 w2 o2 b2
    have b5 : Below W.heap.size W w2 := bel_after hb1b hb1b.size b2
    have K5 := K1b.below b2
    have o5 := own_mono o2 hz1b
    refine hK.out _ _ ?_ (fun hHeld => ?_)
    · (try dsimp only)
      exact ⟨K5.2.1 0, K5.2.1 1, K5.2.1 2, K5.2.1 3, K5.2.1 4⟩
    clear hK K
    (try simp only [Act.put, List.setIfInBounds_toArray, List.set_cons_zero, List.set_cons_succ])
    have hc5 : ∀ j u, ([.int .i64 4444, .int .i32 0, .string ⟨#[]⟩, .int .i64 0, .int .i64 0, .int .i64 4444, .int .i32 0, .string ⟨#[]⟩, .int .i64 0, .int .i64 0] : List Value)[j]? = some u → w2.cell? ((⟨W.heap.size + 1, 0, none⟩ : Addr).add j) = some u := by
      intro j u hu
      have h := hcb j u hu
      rw [Go.WideShapes.add_plain] at h ⊢
      exact (b2.cell (p := ⟨W.heap.size + 1, _, none⟩) hzb).trans h
    refine wpAnyH_ready (rs := [5]) (by kernel_rfl) (by simp) ?_
    refine (AllReadyH.cons (o := ⟨some 13, .call { callee := Callee.builtin Builtin.append, args := #[.tmp 9, .tmp 12], argTypes := #[32, 32] }, 32, "room.go:33", #[⟨1, .data⟩, ⟨4, .data⟩, ⟨1, .chain⟩], none⟩) rfl (fun K hK => ?_) AllReadyH.nil)
    refine step_append_lies _ rfl _ _ 32 rfl (W.heap.size + 1) 88 ti _ 5 48 Tryz.underlying32 hi hi0 hi1 hi2 rfl (by decide) (.slice a1 L.length k1) L.length (cellsF Nd.cs L) rfl o5 ⟨W.heap.size + 1, 0, none⟩ 2 2 [.int .i64 4444, .int .i32 0, .string ⟨#[]⟩, .int .i64 0, .int .i64 0, .int .i64 4444, .int .i32 0, .string ⟨#[]⟩, .int .i64 0, .int .i64 0] rfl rfl hc5 (all_one rfl) (by decide) (by unfold maxLen; omega) (by omega) K5.1 _ rfl ?_
    intro g6 k6 w6 o6 gr6 hl6 hz6
    have b6 : Below W.heap.size W w6 := grown_bel b5 gr6 (Nat.le_refl _) (fun q hq => by have := (own_lt o5 q hq).1; omega)
    have hne6 : some W.heap.size ≠ (Value.slice a1 L.length k1).ownBlock := by intro e; have := (own_lt o5 _ e.symm).1; omega
    have K6 := K5.blk gr6.size (gr6.block _ K5.1 hne6)
    refine hK.out _ _ ?_ (fun hHeld => ?_)
    · (try dsimp only)
      exact ⟨K6.2.1 0, K6.2.1 1, K6.2.1 2, K6.2.1 3, K6.2.1 4⟩
    clear hK K
    (try simp only [Act.put, List.setIfInBounds_toArray, List.set_cons_zero, List.set_cons_succ])
    refine tkY 6 ⟨some 6, .assign (.tmp 13), 32, "room.go:33", #[⟨5, .data⟩, ⟨5, .chain⟩, ⟨0, .phase⟩, ⟨1, .phase⟩, ⟨2, .phase⟩, ⟨3, .phase⟩, ⟨4, .phase⟩, ⟨5, .phase⟩], none⟩ ?_ rfl ⟨by rfl, ?_⟩ ?_
    rotate_left
    · intro wz hSz; (try dsimp only at hSz); go_simp; all_goals (with_reducible rfl)
    (try simp only [Act.put, List.setIfInBounds_toArray, List.set_cons_zero, List.set_cons_succ])
    refine wpAnyH_done (by kernel_rfl) ?_ _
    refine NoPanic.normal ?_
    clear K6 o5 b5 gr6 hc5 hl6
    have hR6 := hR.below b6
    have hF6 := (hR6.fl 0 (by decide)).own.own
    have hm6 : MkP (rS 0) (rO 0) (rV 0) (nwO W.heap.size) w6 ⟨g6, L.length + 2, k6⟩ := rm_mark (n := L.length) o6 (cellsF_len nd_len1 L) hlen (by omega) (by rfl) (by rfl)
    have hcap : L.length + 2 ≤ k6 := own_capR o6 (by omega)
    have i1 : (L.length : Int) ≤ (k6 : Int) := by omega
    have i2 : (0 : Int) ≤ (L.length : Int) := by omega
    have i3 : L.length ≤ k6 := by omega
    have c6 := hR6.cl 0 (by decide)
    have f6 := hR6.fz 0
    have l6 := hR6.lt
    obtain ⟨fa, fc, hV⟩ := own_form hF6
    have hVh := hideQ hV
    rw [hV] at c6 hF6
    have hb7 := bel1 (w := w6) (.cells #[.slice (some ⟨g6, 0, none⟩) (L.length + 2) k6] 32)
    have hF7 := own_bel hF6 hb7
    have s7 : B ≤ (w6.alloc (.cells #[.slice (some ⟨g6, 0, none⟩) (L.length + 2) k6] 32)).heap.size := by have := hR6.bb; simp; omega
    have hFz := hideQ (fz_own o6)
    clear hR6 K5 hNw hV hF6
    go_wp2_with (at_builtin; (refine wpList_append_mine _ rfl _ _ 34 rfl B 32 tj _ 1 24 Tryz.underlying34 hj hj0 hj1 hj2 rfl (by decide) (.slice fa (F 0).length fc) (F 0).length (cellsF Lr.cs (F 0)) rfl hF7 ⟨w6.heap.size, 0, none⟩ 1 1 [.slice (some ⟨g6, 0, none⟩) (L.length + 2) k6] rfl rfl (cells_at (W := w6) rfl _ _) (all_one rfl) (by decide) (by unfold maxLen; omega) (by omega) s7 ?_); intro g7 k7 w7 o7 gr7 at7 _ hc7; have q7 := rm_gw hR (k := 0) (by decide) (bel_after b6 b6.size hb7) (by rw [hVh.out]; exact gr7) (by rw [hVh.out]; exact at7); have hP := hR.push (r := ⟨g6, L.length + 2, k6⟩) (by decide) q7 o7 ((hm6.mv (Mv.below hb7)).mv q7.mvI); have c7 := (cell_heap (j := 0) (q7.ky.block rb hR.lt (by rw [hR.ob]; decide))).trans (hR.cl 0 (by decide)); rw [hVh.out] at c7; have f7 := rm_fz hR q7 0; have l7 : rb < w7.heap.size := Nat.lt_of_lt_of_le hR.lt q7.ky.size)
    go_ret
    refine ⟨_, g6, k6, _, rfl, hP.1, hP.2, hcap, ?_⟩
    exact ((hFz.out.mv (Mv.below hb7)).mv q7.mvI).mv (hR.ksm _ _ _ _ _)
end Go.Proofs.YtnicolaphmffkaaGreatDoor
