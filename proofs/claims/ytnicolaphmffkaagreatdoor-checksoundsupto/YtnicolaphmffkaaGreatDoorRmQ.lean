import Derived.Test.YtnicolaphmffkaaGreatDoorTkk
import Derived.Test.YtnicolaphmffkaaGreatDoorRmB
import Derived.Test.YtnicolaphmffkaaGreatDoorRgE
set_option linter.unusedVariables false
set_option linter.unusedSimpArgs false
namespace Go.Proofs.YtnicolaphmffkaaGreatDoor
open Go.RowKit
theorem infoT40 : (Tryz.prog.info? 22).map (fun i => (i.zero, i.size, i.bytes)) = some (some (.slice none 0 0), 1, 24) := by kernel_rfl
theorem infoT41 : (Tryz.prog.info? 23).map (fun i => (i.zero, i.size, i.bytes)) = some (some (.slice none 0 0), 1, 24) := by kernel_rfl
/-- What Room.Tables answers. -/
def RmT (o : Nat → Nat) (B : Nat) (W : World) (rb : Nat) (F : Nat → List Lr) (G : List Gp) (C : List Cf) (e : Ending) (W' : World) : Prop :=
  ∃ (o' : Nat → Nat) (g1 c1 g2 c2 : Nat) (V' : Nat → Value), e = .returned (.agg #[.slice (some ⟨g1, 0, none⟩) G.length c1, .slice (some ⟨g2, 0, none⟩) C.length c2]) ∧ Hid (Rm o' B W' rb (upd (upd F 6 (F 6 ++ [⟨g1, G.length + 2, c1⟩])) 7 (F 7 ++ [⟨g2, C.length + 2, c2⟩])) V') ∧ Hid (KyR o W o' W') ∧ G.length + 2 ≤ c1 ∧ C.length + 2 ≤ c2 ∧ Hid (Fz o' W' g1 (cellsF Gp.cs G ++ [.string ⟨#[]⟩, .int .i64 0, .int .i64 4444, .int .i64 0, .int .i64 0, .string ⟨#[]⟩, .int .i64 0, .int .i64 4444, .int .i64 0, .int .i64 0])) ∧ Hid (Fz o' W' g2 (cellsF Cf.cs C ++ [.int .i64 4444, .int .i64 0, .int .i64 0, .int .i64 0, .int .i64 4444, .int .i64 0, .int .i64 0, .int .i64 0]))
set_option maxRecDepth 100000 in
set_option maxHeartbeats 16000000 in
/-- Room.Tables. -/
theorem roomTables_any (G : List Gp) (C : List Cf) (ga ca : Option Addr) (gc cc rb : Nat) (o : Nat → Nat) (B : Nat) (F : Nat → List Lr) (V : Nat → Value) (W : World) (hG : Fl 5 Gp.cs W (.slice ga G.length gc) G) (hC : Fl 4 Cf.cs W (.slice ca C.length cc) C) (lG : G.length ≤ 1048576) (lC : C.length ≤ 1048576) (hR : Rm o B W rb F V) (hb6 : (F 6).length ≤ 5864062014000) (hb7' : (F 7).length ≤ 5864062014000) :
    Calls Tryz.prog 24 #[.pointer (some ⟨rb, 0, none⟩), .agg #[.slice ga G.length gc, .slice ca C.length cc]] W fun e W' => RmT o B W rb F G C e W' := by
  obtain ⟨ti, hi, hi0, hi1, hi2⟩ := info_parts info44
  obtain ⟨tj, hj, hj0, hj1, hj2⟩ := info_parts info47
  obtain ⟨tk, hk, hk0, hk1, hk2⟩ := info_parts infoT40
  obtain ⟨tl, hl, hl0, hl1, hl2⟩ := info_parts infoT41
  have hNG := fun (X : World) (hX : Below W.heap.size W X) => fl_src gp_len (by decide) (hG.below hX)
  have hNC := fun (X : World) (hX : Below W.heap.size W X) => fl_src cf_len (by decide) (hC.below hX)
  have KP : Has ((((W.alloc (.cells #[.slice ga G.length gc, .slice ca C.length cc] 25)).alloc (.cells #[.slice none 0 0, .slice none 0 0] 25)).alloc (.cells #[.string ⟨#[]⟩, .int .i64 0, .int .i64 4444, .int .i64 0, .int .i64 0] 90)).alloc (.cells #[.int .i64 4444, .int .i64 0, .int .i64 0, .int .i64 0] 93)) W.heap.size #[.slice ga G.length gc, .slice ca C.length cc] := (((Has.new W _ _ rfl).alloc _).alloc _).alloc _
  have KA : Has ((((W.alloc (.cells #[.slice ga G.length gc, .slice ca C.length cc] 25)).alloc (.cells #[.slice none 0 0, .slice none 0 0] 25)).alloc (.cells #[.string ⟨#[]⟩, .int .i64 0, .int .i64 4444, .int .i64 0, .int .i64 0] 90)).alloc (.cells #[.int .i64 4444, .int .i64 0, .int .i64 0, .int .i64 0] 93)) (W.heap.size + 1) #[.slice none 0 0, .slice none 0 0] := ((Has.new _ _ _ (by simp)).alloc _).alloc _
  have KG : Has ((((W.alloc (.cells #[.slice ga G.length gc, .slice ca C.length cc] 25)).alloc (.cells #[.slice none 0 0, .slice none 0 0] 25)).alloc (.cells #[.string ⟨#[]⟩, .int .i64 0, .int .i64 4444, .int .i64 0, .int .i64 0] 90)).alloc (.cells #[.int .i64 4444, .int .i64 0, .int .i64 0, .int .i64 0] 93)) (W.heap.size + 2) #[.string ⟨#[]⟩, .int .i64 0, .int .i64 4444, .int .i64 0, .int .i64 0] := (Has.new _ _ _ (by simp)).alloc _
  have KC : Has ((((W.alloc (.cells #[.slice ga G.length gc, .slice ca C.length cc] 25)).alloc (.cells #[.slice none 0 0, .slice none 0 0] 25)).alloc (.cells #[.string ⟨#[]⟩, .int .i64 0, .int .i64 4444, .int .i64 0, .int .i64 0] 90)).alloc (.cells #[.int .i64 4444, .int .i64 0, .int .i64 0, .int .i64 0] 93)) (W.heap.size + 3) #[.int .i64 4444, .int .i64 0, .int .i64 0, .int .i64 0] := Has.new _ _ _ (by simp)
  have hbW : Below W.heap.size W ((((W.alloc (.cells #[.slice ga G.length gc, .slice ca C.length cc] 25)).alloc (.cells #[.slice none 0 0, .slice none 0 0] 25)).alloc (.cells #[.string ⟨#[]⟩, .int .i64 0, .int .i64 4444, .int .i64 0, .int .i64 0] 90)).alloc (.cells #[.int .i64 4444, .int .i64 0, .int .i64 0, .int .i64 0] 93)) := (((bel1 _).alloc (by simp) _).alloc (by simp; omega) _).alloc (by simp; omega) _
  have z1 : Hid (((((W.alloc (.cells #[.slice ga G.length gc, .slice ca C.length cc] 25)).alloc (.cells #[.slice none 0 0, .slice none 0 0] 25)).alloc (.cells #[.string ⟨#[]⟩, .int .i64 0, .int .i64 4444, .int .i64 0, .int .i64 0] 90)).alloc (.cells #[.int .i64 4444, .int .i64 0, .int .i64 0, .int .i64 0] 93)).heap.size = W.heap.size + 4) := by show _ = _; simp
  have old1 : ∀ b, b < W.heap.size → nxO o W.heap.size 3 b = o b := fun b hb => nxO_old hb
  have hR1 : Rm (nxO o W.heap.size 3) B ((((W.alloc (.cells #[.slice ga G.length gc, .slice ca C.length cc] 25)).alloc (.cells #[.slice none 0 0, .slice none 0 0] 25)).alloc (.cells #[.string ⟨#[]⟩, .int .i64 0, .int .i64 4444, .int .i64 0, .int .i64 0] 90)).alloc (.cells #[.int .i64 4444, .int .i64 0, .int .i64 0, .int .i64 0] 93)) rb F V := (hR.re (fun b hb _ => old1 b hb)).below hbW
  have hK1 := hideQ ((KyR.refl o W).belw hbW old1)
  have m0 : nxO o W.heap.size 3 W.heap.size = 3 := nxO_new (Nat.le_refl _)
  have m1 : nxO o W.heap.size 3 (W.heap.size + 1) = 3 := nxO_new (by omega)
  clear hG hC old1
  go_enter Tryz.func24, Tryz.ntmps24
  go_wp2_with fail
  generalize ((((W.alloc (.cells #[.slice ga G.length gc, .slice ca C.length cc] 25)).alloc (.cells #[.slice none 0 0, .slice none 0 0] 25)).alloc (.cells #[.string ⟨#[]⟩, .int .i64 0, .int .i64 4444, .int .i64 0, .int .i64 0] 90)).alloc (.cells #[.int .i64 4444, .int .i64 0, .int .i64 0, .int .i64 0] 93)) = W1 at *
  generalize nxO o W.heap.size 3 = o1 at *
  have b0 : Below W1.heap.size W1 W1.drew := (Below.refl _ _).drew
  have bX0 : Below W.heap.size W W1.drew := hbW.drew
  refine wp_region_noPanic ?_
  refine wp_region_held_drew (S := fun w' => w'.cell? ⟨W.heap.size, 0, none⟩ = some (.slice ga G.length gc) ∧ w'.cell? ⟨W.heap.size + 2, 0, none⟩ = some (.string ⟨#[]⟩) ∧ w'.cell? ⟨W.heap.size + 2, 1, none⟩ = some (.int .i64 0) ∧ w'.cell? ⟨W.heap.size + 2, 2, none⟩ = some (.int .i64 4444) ∧ w'.cell? ⟨W.heap.size + 2, 3, none⟩ = some (.int .i64 0) ∧ w'.cell? ⟨W.heap.size + 2, 4, none⟩ = some (.int .i64 0)) (by kernel_rfl) ?_ (fun hHeld => ?_)
  · (try dsimp only)
    exact ⟨(KP.below b0).2.1 0, (KG.below b0).2.1 0, (KG.below b0).2.1 1, (KG.below b0).2.1 2, (KG.below b0).2.1 3, (KG.below b0).2.1 4⟩
  refine tkY 0 ⟨some 11, .fieldAddr 25 (.tmp 3) 0, 0, "room.go:100", #[], none⟩ ?_ rfl ⟨by rfl, ?_⟩ ?_
  rotate_left
  · intro wz hSz; (try dsimp only at hSz); go_simp; all_goals (with_reducible rfl)
  (try simp only [Act.put, List.setIfInBounds_toArray, List.set_cons_zero, List.set_cons_succ])
  refine tkY 1 ⟨some 12, .load 22 (.tmp 11), 22, "room.go:100", #[⟨0, .data⟩], none⟩ ?_ rfl ⟨by rfl, ?_⟩ ?_
  rotate_left
  · intro wz hSz; (try dsimp only at hSz); go_simp; all_goals (with_reducible rfl)
  (try simp only [Act.put, List.setIfInBounds_toArray, List.set_cons_zero, List.set_cons_succ])
  refine tkY 3 ⟨some 14, .load 90 (.tmp 5), 90, "room.go:100", #[], none⟩ ?_ rfl ⟨by rfl, ?_⟩ ?_
  rotate_left
  · intro wz hSz; (try dsimp only at hSz); go_simp; all_goals (with_reducible rfl)
  (try simp only [Act.put, List.setIfInBounds_toArray, List.set_cons_zero, List.set_cons_succ])
  refine tkY 4 ⟨some 15, .load 90 (.tmp 5), 90, "room.go:100", #[], none⟩ ?_ rfl ⟨by rfl, ?_⟩ ?_
  rotate_left
  · intro wz hSz; (try dsimp only at hSz); go_simp; all_goals (with_reducible rfl)
  (try simp only [Act.put, List.setIfInBounds_toArray, List.set_cons_zero, List.set_cons_succ])
  refine wpAnyH_ready (rs := [2, 5]) (by kernel_rfl) (by simp) ?_
  refine (AllReadyH.cons (o := ⟨some 13, .call { callee := Callee.builtin Builtin.append, args := #[.const (Value.slice none 0 0), .tmp 12], argTypes := #[22, 22] }, 22, "room.go:100", #[⟨1, .data⟩], none⟩) rfl (fun K hK => ?_) (AllReadyH.cons (o := ⟨some 16, .buildSlice 22 2 #[(0, .tmp 14), (1, .tmp 15)], 22, "room.go:100", #[⟨3, .data⟩, ⟨4, .data⟩], none⟩) rfl (fun K hK => ?_) AllReadyH.nil))
  · refine step_copy rfl _ _ 22 rfl 90 ti _ 5 48 Tryz.underlying22 hi hi0 hi1 hi2 rfl (by decide) ga G.length gc (cellsF Gp.cs G) rfl rfl (cellsF_len gp_len G) (hNG _ bX0).1 (cellsF_one gp_one G) (hNG _ bX0).2 (by unfold maxLen; omega) (by omega) ?_
    intro a1 k1 w2 o2 b2
    have bb2 : Below W1.heap.size W1 w2 := bel_after b0 b0.size b2
    refine hK.out _ _ ?_ (fun hHeld => ?_)
    · (try dsimp only)
      exact ⟨(KP.below bb2).2.1 0, (KG.below bb2).2.1 0, (KG.below bb2).2.1 1, (KG.below bb2).2.1 2, (KG.below bb2).2.1 3, (KG.below bb2).2.1 4⟩
    clear hK K
    (try simp only [Act.put, List.setIfInBounds_toArray, List.set_cons_zero, List.set_cons_succ])
    refine wpAnyH_ready (rs := [5]) (by kernel_rfl) (by simp) ?_
    refine (AllReadyH.cons (o := ⟨some 16, .buildSlice 22 2 #[(0, .tmp 14), (1, .tmp 15)], 22, "room.go:100", #[⟨3, .data⟩, ⟨4, .data⟩], none⟩) rfl (fun K hK => ?_) AllReadyH.nil)
    go_simp
    have bb3 := bb2.alloc bb2.size (.cells #[.string ⟨#[]⟩, .int .i64 0, .int .i64 4444, .int .i64 0, .int .i64 0, .string ⟨#[]⟩, .int .i64 0, .int .i64 4444, .int .i64 0, .int .i64 0] 90)
    refine hK.out _ _ ?_ (fun hHeld => ?_)
    · (try dsimp only)
      exact ⟨(KP.below bb3).2.1 0, (KG.below bb3).2.1 0, (KG.below bb3).2.1 1, (KG.below bb3).2.1 2, (KG.below bb3).2.1 3, (KG.below bb3).2.1 4⟩
    clear hK K
    (try simp only [Act.put, List.setIfInBounds_toArray, List.set_cons_zero, List.set_cons_succ])
    have o5 := own_bel o2 (bel1 (.cells #[.string ⟨#[]⟩, .int .i64 0, .int .i64 4444, .int .i64 0, .int .i64 0, .string ⟨#[]⟩, .int .i64 0, .int .i64 4444, .int .i64 0, .int .i64 0] 90))
    have hc5 := cells_at (W := w2) (b := w2.heap.size) rfl [.string ⟨#[]⟩, .int .i64 0, .int .i64 4444, .int .i64 0, .int .i64 0, .string ⟨#[]⟩, .int .i64 0, .int .i64 4444, .int .i64 0, .int .i64 0] 90
    refine wpAnyH_ready (rs := [6]) (by kernel_rfl) (by simp) ?_
    refine (AllReadyH.cons (o := ⟨some 17, .call { callee := Callee.builtin Builtin.append, args := #[.tmp 13, .tmp 16], argTypes := #[22, 22] }, 22, "room.go:100", #[⟨2, .data⟩, ⟨5, .data⟩, ⟨2, .chain⟩], none⟩) rfl (fun K hK => ?_) AllReadyH.nil)
    refine step_append_lies _ rfl _ _ 22 rfl W1.heap.size 90 ti _ 5 48 Tryz.underlying22 hi hi0 hi1 hi2 rfl (by decide) (.slice a1 G.length k1) G.length (cellsF Gp.cs G) rfl o5 ⟨w2.heap.size, 0, none⟩ 2 2 [.string ⟨#[]⟩, .int .i64 0, .int .i64 4444, .int .i64 0, .int .i64 0, .string ⟨#[]⟩, .int .i64 0, .int .i64 4444, .int .i64 0, .int .i64 0] rfl rfl hc5 (all_one rfl) (by decide) (by unfold maxLen; omega) (by omega) bb3.size _ rfl ?_
    intro gG kG wG oG gr6 hl6 hz6
    have bG : Below W1.heap.size W1 wG := grown_bel bb3 gr6 (Nat.le_refl _) (fun q hq => (own_lt o5 q hq).1)
    refine hK.out _ _ ?_ (fun hHeld => ?_)
    · (try dsimp only)
      exact ⟨(KP.below bG).2.1 0, (KG.below bG).2.1 0, (KG.below bG).2.1 1, (KG.below bG).2.1 2, (KG.below bG).2.1 3, (KG.below bG).2.1 4⟩
    clear hK K
    (try simp only [Act.put, List.setIfInBounds_toArray, List.set_cons_zero, List.set_cons_succ])
    refine tkY 7 ⟨some 7, .assign (.tmp 17), 22, "room.go:100", #[⟨6, .data⟩, ⟨6, .chain⟩, ⟨0, .phase⟩, ⟨1, .phase⟩, ⟨2, .phase⟩, ⟨3, .phase⟩, ⟨4, .phase⟩, ⟨5, .phase⟩, ⟨6, .phase⟩], none⟩ ?_ rfl ⟨by rfl, ?_⟩ ?_
    rotate_left
    · intro wz hSz; (try dsimp only at hSz); go_simp; all_goals (with_reducible rfl)
    (try simp only [Act.put, List.setIfInBounds_toArray, List.set_cons_zero, List.set_cons_succ])
    refine wpAnyH_done (by kernel_rfl) ?_ _
    refine NoPanic.normal ?_
    clear o5 gr6 hl6 hz6 o2 b2 hHeld bX0 b0 hc5
    clear bb2 bb3
    have hX2 : Below W.heap.size W wG := bel_after hbW hbW.size bG
    have KP2 := KP.below bG
    have KC2 := KC.below bG
    go_wp2_with fail
    have b0 : Below wG.heap.size wG wG.drew := (Below.refl _ _).drew
    have bX0 : Below W.heap.size W wG.drew := hX2.drew
    refine wp_region_noPanic ?_
    refine wp_region_held_drew (S := fun w' => w'.cell? ⟨W.heap.size, 1, none⟩ = some (.slice ca C.length cc) ∧ w'.cell? ⟨W.heap.size + 3, 0, none⟩ = some (.int .i64 4444) ∧ w'.cell? ⟨W.heap.size + 3, 1, none⟩ = some (.int .i64 0) ∧ w'.cell? ⟨W.heap.size + 3, 2, none⟩ = some (.int .i64 0) ∧ w'.cell? ⟨W.heap.size + 3, 3, none⟩ = some (.int .i64 0)) (by kernel_rfl) ?_ (fun hHeld => ?_)
    · (try dsimp only)
      exact ⟨(KP2.below b0).2.1 1, (KC2.below b0).2.1 0, (KC2.below b0).2.1 1, (KC2.below b0).2.1 2, (KC2.below b0).2.1 3⟩
    refine tkY 0 ⟨some 18, .fieldAddr 25 (.tmp 3) 1, 0, "room.go:101", #[], none⟩ ?_ rfl ⟨by rfl, ?_⟩ ?_
    rotate_left
    · intro wz hSz; (try dsimp only at hSz); go_simp; all_goals (with_reducible rfl)
    (try simp only [Act.put, List.setIfInBounds_toArray, List.set_cons_zero, List.set_cons_succ])
    refine tkY 1 ⟨some 19, .load 23 (.tmp 18), 23, "room.go:101", #[⟨0, .data⟩], none⟩ ?_ rfl ⟨by rfl, ?_⟩ ?_
    rotate_left
    · intro wz hSz; (try dsimp only at hSz); go_simp; all_goals (with_reducible rfl)
    (try simp only [Act.put, List.setIfInBounds_toArray, List.set_cons_zero, List.set_cons_succ])
    refine tkY 3 ⟨some 21, .load 93 (.tmp 6), 93, "room.go:101", #[], none⟩ ?_ rfl ⟨by rfl, ?_⟩ ?_
    rotate_left
    · intro wz hSz; (try dsimp only at hSz); go_simp; all_goals (with_reducible rfl)
    (try simp only [Act.put, List.setIfInBounds_toArray, List.set_cons_zero, List.set_cons_succ])
    refine tkY 4 ⟨some 22, .load 93 (.tmp 6), 93, "room.go:101", #[], none⟩ ?_ rfl ⟨by rfl, ?_⟩ ?_
    rotate_left
    · intro wz hSz; (try dsimp only at hSz); go_simp; all_goals (with_reducible rfl)
    (try simp only [Act.put, List.setIfInBounds_toArray, List.set_cons_zero, List.set_cons_succ])
    refine wpAnyH_ready (rs := [2, 5]) (by kernel_rfl) (by simp) ?_
    refine (AllReadyH.cons (o := ⟨some 20, .call { callee := Callee.builtin Builtin.append, args := #[.const (Value.slice none 0 0), .tmp 19], argTypes := #[23, 23] }, 23, "room.go:101", #[⟨1, .data⟩], none⟩) rfl (fun K hK => ?_) (AllReadyH.cons (o := ⟨some 23, .buildSlice 23 2 #[(0, .tmp 21), (1, .tmp 22)], 23, "room.go:101", #[⟨3, .data⟩, ⟨4, .data⟩], none⟩) rfl (fun K hK => ?_) AllReadyH.nil))
    · refine step_copy rfl _ _ 23 rfl 93 tj _ 4 32 Tryz.underlying23 hj hj0 hj1 hj2 rfl (by decide) ca C.length cc (cellsF Cf.cs C) rfl rfl (cellsF_len cf_len C) (hNC _ bX0).1 (cellsF_one cf_one C) (hNC _ bX0).2 (by unfold maxLen; omega) (by omega) ?_
      intro a1 k1 w2 o2 b2
      have bb2 : Below wG.heap.size wG w2 := bel_after b0 b0.size b2
      refine hK.out _ _ ?_ (fun hHeld => ?_)
      · (try dsimp only)
        exact ⟨(KP2.below bb2).2.1 1, (KC2.below bb2).2.1 0, (KC2.below bb2).2.1 1, (KC2.below bb2).2.1 2, (KC2.below bb2).2.1 3⟩
      clear hK K
      (try simp only [Act.put, List.setIfInBounds_toArray, List.set_cons_zero, List.set_cons_succ])
      refine wpAnyH_ready (rs := [5]) (by kernel_rfl) (by simp) ?_
      refine (AllReadyH.cons (o := ⟨some 23, .buildSlice 23 2 #[(0, .tmp 21), (1, .tmp 22)], 23, "room.go:101", #[⟨3, .data⟩, ⟨4, .data⟩], none⟩) rfl (fun K hK => ?_) AllReadyH.nil)
      go_simp
      have bb3 := bb2.alloc bb2.size (.cells #[.int .i64 4444, .int .i64 0, .int .i64 0, .int .i64 0, .int .i64 4444, .int .i64 0, .int .i64 0, .int .i64 0] 93)
      refine hK.out _ _ ?_ (fun hHeld => ?_)
      · (try dsimp only)
        exact ⟨(KP2.below bb3).2.1 1, (KC2.below bb3).2.1 0, (KC2.below bb3).2.1 1, (KC2.below bb3).2.1 2, (KC2.below bb3).2.1 3⟩
      clear hK K
      (try simp only [Act.put, List.setIfInBounds_toArray, List.set_cons_zero, List.set_cons_succ])
      have o5 := own_bel o2 (bel1 (.cells #[.int .i64 4444, .int .i64 0, .int .i64 0, .int .i64 0, .int .i64 4444, .int .i64 0, .int .i64 0, .int .i64 0] 93))
      have hc5 := cells_at (W := w2) (b := w2.heap.size) rfl [.int .i64 4444, .int .i64 0, .int .i64 0, .int .i64 0, .int .i64 4444, .int .i64 0, .int .i64 0, .int .i64 0] 93
      refine wpAnyH_ready (rs := [6]) (by kernel_rfl) (by simp) ?_
      refine (AllReadyH.cons (o := ⟨some 24, .call { callee := Callee.builtin Builtin.append, args := #[.tmp 20, .tmp 23], argTypes := #[23, 23] }, 23, "room.go:101", #[⟨2, .data⟩, ⟨5, .data⟩, ⟨2, .chain⟩], none⟩) rfl (fun K hK => ?_) AllReadyH.nil)
      refine step_append_lies _ rfl _ _ 23 rfl wG.heap.size 93 tj _ 4 32 Tryz.underlying23 hj hj0 hj1 hj2 rfl (by decide) (.slice a1 C.length k1) C.length (cellsF Cf.cs C) rfl o5 ⟨w2.heap.size, 0, none⟩ 2 2 [.int .i64 4444, .int .i64 0, .int .i64 0, .int .i64 0, .int .i64 4444, .int .i64 0, .int .i64 0, .int .i64 0] rfl rfl hc5 (all_one rfl) (by decide) (by unfold maxLen; omega) (by omega) bb3.size _ rfl ?_
      intro gC kC wC oC gr6 hl6 hz6
      have bC : Below wG.heap.size wG wC := grown_bel bb3 gr6 (Nat.le_refl _) (fun q hq => (own_lt o5 q hq).1)
      refine hK.out _ _ ?_ (fun hHeld => ?_)
      · (try dsimp only)
        exact ⟨(KP2.below bC).2.1 1, (KC2.below bC).2.1 0, (KC2.below bC).2.1 1, (KC2.below bC).2.1 2, (KC2.below bC).2.1 3⟩
      clear hK K
      (try simp only [Act.put, List.setIfInBounds_toArray, List.set_cons_zero, List.set_cons_succ])
      refine tkY 7 ⟨some 8, .assign (.tmp 24), 23, "room.go:101", #[⟨6, .data⟩, ⟨6, .chain⟩, ⟨0, .phase⟩, ⟨1, .phase⟩, ⟨2, .phase⟩, ⟨3, .phase⟩, ⟨4, .phase⟩, ⟨5, .phase⟩, ⟨6, .phase⟩], none⟩ ?_ rfl ⟨by rfl, ?_⟩ ?_
      rotate_left
      · intro wz hSz; (try dsimp only at hSz); go_simp; all_goals (with_reducible rfl)
      (try simp only [Act.put, List.setIfInBounds_toArray, List.set_cons_zero, List.set_cons_succ])
      refine wpAnyH_done (by kernel_rfl) ?_ _
      refine NoPanic.normal ?_
      clear o5 gr6 hl6 hz6 o2 b2 hHeld bX0 b0 hc5
      clear bb2 bb3
      have b9 : Below W1.heap.size W1 wC := bel_after bG bG.size bC
      have hmG : MkP (rS 6) (rO 6) (rV 6) (nwO W1.heap.size) wC ⟨gG, G.length + 2, kG⟩ := rm_mark (n := G.length) (own_bel oG bC) (cellsF_len gp_len G) lG (Nat.le_refl _) (by rfl) (by rfl)
      have hmC : MkP (rS 7) (rO 7) (rV 7) (nwO W1.heap.size) wC ⟨gC, C.length + 2, kC⟩ := rm_mark (n := C.length) oC (cellsF_len cf_len C) lC bG.size (by rfl) (by rfl)
      have hFG := hideQ (fz_own0 (own_bel oG bC) (Nat.le_refl _))
      have hFC := hideQ (fz_own0 oC bG.size)
      have capG : G.length + 2 ≤ kG := own_capR oG (by omega)
      have capC : C.length + 2 ≤ kC := own_capR oC (by omega)
      clear bC bG KP2 KC2 hX2 oG oC
      have hR6 := hR1.below b9
      have hF6 := (hR6.fl 6 (by decide)).own.own
      have c6 := hR6.cl 6 (by decide)
      have f6 := hR6.fz 6
      have l6 := hR6.lt
      obtain ⟨fa, fc, hV⟩ := own_form hF6
      have hVh := hideQ hV
      rw [hV] at c6 hF6
      have hb7 := bel1 (w := wC) (.cells #[.slice (some ⟨gG, 0, none⟩) (G.length + 2) kG] 22)
      have hF7 := own_bel hF6 hb7
      have s7 : B ≤ (wC.alloc (.cells #[.slice (some ⟨gG, 0, none⟩) (G.length + 2) kG] 22)).heap.size := by have := hR6.bb; simp; omega
      clear hR6 hV hF6
      go_upto_region 6 with (at_builtin; (refine wpList_append_mine _ rfl _ _ 40 rfl B 22 tk _ 1 24 Tryz.underlying40 hk hk0 hk1 hk2 rfl (by decide) (.slice fa (F 6).length fc) (F 6).length (cellsF Lr.cs (F 6)) rfl hF7 ⟨wC.heap.size, 0, none⟩ 1 1 [.slice (some ⟨gG, 0, none⟩) (G.length + 2) kG] rfl rfl (cells_at (W := wC) rfl _ _) (all_one rfl) (by decide) (by unfold maxLen; omega) (by omega) s7 ?_); intro g7 k7 w7 o7 gr7 at7 _ hc7; have q7 := rm_gw hR1 (k := 6) (by decide) (bel_after b9 b9.size hb7) (by rw [hVh.out]; exact gr7) (by rw [hVh.out]; exact at7); have c7 := (cell_heap (j := 6) (q7.ky.block rb hR1.lt (by rw [hR1.ob]; decide))).trans (hR1.cl 6 (by decide)); rw [hVh.out] at c7; have f7 := rm_fz hR1 q7 6; have l7 : rb < w7.heap.size := Nat.lt_of_lt_of_le hR1.lt q7.ky.size)
      have hP := hR1.push (r := ⟨gG, G.length + 2, kG⟩) (by decide) q7 o7 ((hmG.mv (Mv.below hb7)).mv q7.mvI)
      have hmC2 := ((hmC.mv (Mv.below hb7)).mv q7.mvI).mv (hR1.ksm 16 g7 6 (.slice (some ⟨g7, 0, none⟩) ((F 6).length + 1) k7) w7)
      have hFG2 := hideQ (((hFG.out.mv (Mv.below hb7)).mv q7.mvI).mv (hR1.ksm 16 g7 6 (.slice (some ⟨g7, 0, none⟩) ((F 6).length + 1) k7) w7))
      have hFC2 := hideQ (((hFC.out.mv (Mv.below hb7)).mv q7.mvI).mv (hR1.ksm 16 g7 6 (.slice (some ⟨g7, 0, none⟩) ((F 6).length + 1) k7) w7))
      obtain ⟨hRp, hKp⟩ := hP
      replace hKp := hideQ hKp
      have e7 : Hid (upd F 6 (F 6 ++ [(⟨gG, G.length + 2, kG⟩ : Lr)]) 7 = F 7) := upd_other _ _ (by decide)
      clear c6 f6 l6 c7 f7 l7 hF7 s7 hmG hmC hFG hFC hVh q7 o7 gr7 at7 hc7 hb7 b9
      generalize hF2 : upd F 6 (F 6 ++ [(⟨gG, G.length + 2, kG⟩ : Lr)]) = F2 at *
      generalize mkO o1 W1.heap.size (10 + 6) g7 = o2 at *
      generalize w7.setCell ⟨rb, 6, none⟩ (.slice (some ⟨g7, 0, none⟩) ((F 6).length + 1) k7) = Wp at *
      generalize upd V 6 (.slice (some ⟨g7, 0, none⟩) ((F 6).length + 1) k7) = V2 at *
      have bP : Below Wp.heap.size Wp Wp := Below.refl _ _
      have hb77 : (F2 7).length ≤ 5864062014000 := by rw [e7.out]; exact hb7'
      have hR6 := hRp.below bP
      have hF6 := (hR6.fl 7 (by decide)).own.own
      have c6 := hR6.cl 7 (by decide)
      have f6 := hR6.fz 7
      have l6 := hR6.lt
      obtain ⟨fa, fc, hV⟩ := own_form hF6
      have hVh := hideQ hV
      rw [hV] at c6 hF6
      have hb7 := bel1 (w := Wp) (.cells #[.slice (some ⟨gC, 0, none⟩) (C.length + 2) kC] 23)
      have hF7 := own_bel hF6 hb7
      have s7 : B ≤ (Wp.alloc (.cells #[.slice (some ⟨gC, 0, none⟩) (C.length + 2) kC] 23)).heap.size := by have := hR6.bb; simp; omega
      clear hR6 hV hF6
      go_upto_region 7 with (at_builtin; (refine wpList_append_mine _ rfl _ _ 41 rfl B 23 tl _ 1 24 Tryz.underlying41 hl hl0 hl1 hl2 rfl (by decide) (.slice fa (F2 7).length fc) (F2 7).length (cellsF Lr.cs (F2 7)) rfl hF7 ⟨Wp.heap.size, 0, none⟩ 1 1 [.slice (some ⟨gC, 0, none⟩) (C.length + 2) kC] rfl rfl (cells_at (W := Wp) rfl _ _) (all_one rfl) (by decide) (by unfold maxLen; omega) (by omega) s7 ?_); intro g8 k8 w8 o8 gr8 at8 _ hc8; have q8 := rm_gw hRp (k := 7) (by decide) (bel_after bP bP.size hb7) (by rw [hVh.out]; exact gr8) (by rw [hVh.out]; exact at8); have c7 := (cell_heap (j := 7) (q8.ky.block rb hRp.lt (by rw [hRp.ob]; decide))).trans (hRp.cl 7 (by decide)); rw [hVh.out] at c7; have f7 := rm_fz hRp q8 7; have l7 : rb < w8.heap.size := Nat.lt_of_lt_of_le hRp.lt q8.ky.size)
      have hP := hRp.push (r := ⟨gC, C.length + 2, kC⟩) (by decide) q8 o8 (hmC2.mv q8.mv)
      obtain ⟨hR3, hK3⟩ := hP
      replace hK3 := hideQ hK3
      have hFG3 := hideQ (hFG2.out.mv hK3.out.mv)
      have hFC3 := hideQ (hFC2.out.mv hK3.out.mv)
      clear c6 f6 l6 c7 f7 l7 hF7 s7 hVh q8 o8 gr8 at8 hc8 hb7 bP hmC2 hFG2 hFC2 hRp
      have hK13 := hideQ (hKp.out.trans hK3.out)
      have m13 : mkO o2 Wp.heap.size (10 + 7) g8 (W.heap.size + 1) = 3 := by rw [hK13.out.old _ (by have := z1.out; omega)]; exact m1
      have KP3 := hK13.out.has KP (by rw [m0]; decide) (by rw [m0]; decide)
      have KA3 := hK13.out.has KA (by rw [m1]; decide) (by rw [m1]; decide)
      clear KP KA hKp hK3
      generalize mkO o2 Wp.heap.size (10 + 7) g8 = o3 at *
      generalize w8.setCell ⟨rb, 7, none⟩ (.slice (some ⟨g8, 0, none⟩) ((F2 7).length + 1) k8) = W3 at *
      generalize upd V2 7 (.slice (some ⟨g8, 0, none⟩) ((F2 7).length + 1) k8) = V3 at *
      obtain ⟨_, p1, _⟩ := id KP3
      obtain ⟨_, d1, d2⟩ := id KA3
      have i1 : (G.length : Int) ≤ (kG : Int) := by omega
      have i2 : (C.length : Int) ≤ (kC : Int) := by omega
      have i3 : (0 : Int) ≤ (G.length : Int) := by omega
      have i4 : (0 : Int) ≤ (C.length : Int) := by omega
      have i5 : G.length ≤ kG := by omega
      have i6 : C.length ≤ kC := by omega
      go_wp2_with fail
      refine wp_region_noPanic ?_
      refine wp_region_E (S := fun w' => w'.cell? ⟨W.heap.size, 0, none⟩ = some (.slice ga G.length gc) ∧ w'.cell? ⟨W.heap.size, 1, none⟩ = some (.slice ca C.length cc)) (E := 11) (by kernel_rfl) ?_ (fun hHeld => ?_)
      · (try dsimp only)
        exact ⟨KP3.2.1 0, KP3.2.1 1⟩
      refine wpAnyE_take (i := 0) (oi := ⟨some 45, .move (.tmp 7), 22, "room.go:104", #[], none⟩) (v := ?_) rfl (by kernel_rfl) (by kernel_rfl) (by kernel_rfl) (by kernel_rfl) (fun _ _ _ h => h) (Or.inl ⟨by rfl, ?_⟩) (by assumption) ?_
      rotate_left
      · intro wz hSz; (try dsimp only at hSz); go_simp; all_goals (with_reducible rfl)
      (try simp only [Act.put, List.setIfInBounds_toArray, List.set_cons_zero, List.set_cons_succ])
      refine wpAnyE_take (i := 1) (oi := ⟨some 46, .fieldAddr 25 (.tmp 3) 0, 0, "room.go:104", #[], none⟩) (v := ?_) rfl (by kernel_rfl) (by kernel_rfl) (by kernel_rfl) (by kernel_rfl) (fun _ _ _ h => h) (Or.inl ⟨by rfl, ?_⟩) (by assumption) ?_
      rotate_left
      · intro wz hSz; (try dsimp only at hSz); go_simp; all_goals (with_reducible rfl)
      (try simp only [Act.put, List.setIfInBounds_toArray, List.set_cons_zero, List.set_cons_succ])
      refine wpAnyE_take (i := 2) (oi := ⟨some 47, .load 22 (.tmp 46), 22, "room.go:104", #[⟨1, .data⟩], none⟩) (v := ?_) rfl (by kernel_rfl) (by kernel_rfl) (by kernel_rfl) (by kernel_rfl) (fun _ _ _ h => h) (Or.inl ⟨by rfl, ?_⟩) (by assumption) ?_
      rotate_left
      · intro wz hSz; (try dsimp only at hSz); go_simp; all_goals (with_reducible rfl)
      (try simp only [Act.put, List.setIfInBounds_toArray, List.set_cons_zero, List.set_cons_succ])
      refine wpAnyE_take (i := 3) (oi := ⟨some 48, .call { callee := Callee.builtin Builtin.len, args := #[.tmp 47], argTypes := #[22] }, 3, "room.go:104", #[⟨2, .data⟩], none⟩) (v := ?_) rfl (by kernel_rfl) (by kernel_rfl) (by kernel_rfl) (by kernel_rfl) (fun _ _ _ h => h) (Or.inl ⟨by rfl, ?_⟩) (by assumption) ?_
      rotate_left
      · intro wz hSz; (try dsimp only at hSz); go_simp; all_goals (with_reducible rfl)
      (try simp only [Act.put, List.setIfInBounds_toArray, List.set_cons_zero, List.set_cons_succ])
      refine wpAnyE_take (i := 4) (oi := ⟨some 49, .slice 22 (.tmp 45) none (some (.tmp 48)) none, 22, "room.go:104", #[⟨0, .data⟩, ⟨3, .data⟩], none⟩) (v := ?_) rfl (by kernel_rfl) (by kernel_rfl) (by kernel_rfl) (by kernel_rfl) (fun _ _ _ h => h) (Or.inl ⟨by rfl, ?_⟩) (by assumption) ?_
      rotate_left
      · intro wz hSz; (try dsimp only at hSz); go_simp; all_goals (with_reducible rfl)
      (try simp only [Act.put, List.setIfInBounds_toArray, List.set_cons_zero, List.set_cons_succ])
      refine wpAnyE_take (i := 5) (oi := ⟨some 50, .move (.tmp 8), 23, "room.go:104", #[], none⟩) (v := ?_) rfl (by kernel_rfl) (by kernel_rfl) (by kernel_rfl) (by kernel_rfl) (fun _ _ _ h => h) (Or.inl ⟨by rfl, ?_⟩) (by assumption) ?_
      rotate_left
      · intro wz hSz; (try dsimp only at hSz); go_simp; all_goals (with_reducible rfl)
      (try simp only [Act.put, List.setIfInBounds_toArray, List.set_cons_zero, List.set_cons_succ])
      refine wpAnyE_take (i := 6) (oi := ⟨some 51, .fieldAddr 25 (.tmp 3) 1, 0, "room.go:104", #[], none⟩) (v := ?_) rfl (by kernel_rfl) (by kernel_rfl) (by kernel_rfl) (by kernel_rfl) (fun _ _ _ h => h) (Or.inl ⟨by rfl, ?_⟩) (by assumption) ?_
      rotate_left
      · intro wz hSz; (try dsimp only at hSz); go_simp; all_goals (with_reducible rfl)
      (try simp only [Act.put, List.setIfInBounds_toArray, List.set_cons_zero, List.set_cons_succ])
      refine wpAnyE_take (i := 7) (oi := ⟨some 52, .load 23 (.tmp 51), 23, "room.go:104", #[⟨6, .data⟩], none⟩) (v := ?_) rfl (by kernel_rfl) (by kernel_rfl) (by kernel_rfl) (by kernel_rfl) (fun _ _ _ h => h) (Or.inl ⟨by rfl, ?_⟩) (by assumption) ?_
      rotate_left
      · intro wz hSz; (try dsimp only at hSz); go_simp; all_goals (with_reducible rfl)
      (try simp only [Act.put, List.setIfInBounds_toArray, List.set_cons_zero, List.set_cons_succ])
      refine wpAnyE_take (i := 8) (oi := ⟨some 53, .call { callee := Callee.builtin Builtin.len, args := #[.tmp 52], argTypes := #[23] }, 3, "room.go:104", #[⟨7, .data⟩], none⟩) (v := ?_) rfl (by kernel_rfl) (by kernel_rfl) (by kernel_rfl) (by kernel_rfl) (fun _ _ _ h => h) (Or.inl ⟨by rfl, ?_⟩) (by assumption) ?_
      rotate_left
      · intro wz hSz; (try dsimp only at hSz); go_simp; all_goals (with_reducible rfl)
      (try simp only [Act.put, List.setIfInBounds_toArray, List.set_cons_zero, List.set_cons_succ])
      refine wpAnyE_take (i := 9) (oi := ⟨some 54, .slice 23 (.tmp 50) none (some (.tmp 53)) none, 23, "room.go:104", #[⟨5, .data⟩, ⟨8, .data⟩], none⟩) (v := ?_) rfl (by kernel_rfl) (by kernel_rfl) (by kernel_rfl) (by kernel_rfl) (fun _ _ _ h => h) (Or.inl ⟨by rfl, ?_⟩) (by assumption) ?_
      rotate_left
      · intro wz hSz; (try dsimp only at hSz); go_simp; all_goals (with_reducible rfl)
      (try simp only [Act.put, List.setIfInBounds_toArray, List.set_cons_zero, List.set_cons_succ])
      refine wpAnyE_take (i := 10) (oi := ⟨some 55, .build 25 #[(0, .tmp 49), (1, .tmp 54)], 25, "room.go:104", #[⟨4, .data⟩, ⟨9, .data⟩], none⟩) (v := ?_) rfl (by kernel_rfl) (by kernel_rfl) (by kernel_rfl) (by kernel_rfl) (fun _ _ _ h => h) (Or.inl ⟨by rfl, ?_⟩) (by assumption) ?_
      rotate_left
      · intro wz hSz; (try dsimp only at hSz); go_simp; all_goals (with_reducible rfl)
      (try simp only [Act.put, List.setIfInBounds_toArray, List.set_cons_zero, List.set_cons_succ])
      refine wpAnyE_last (o := ⟨none, .store 25 (.tmp 4) (.tmp 55), 0, "room.go:104", #[⟨10, .data⟩, ⟨0, .phase⟩, ⟨1, .phase⟩, ⟨2, .phase⟩, ⟨3, .phase⟩, ⟨4, .phase⟩, ⟨5, .phase⟩, ⟨6, .phase⟩, ⟨7, .phase⟩, ⟨8, .phase⟩, ⟨9, .phase⟩, ⟨10, .phase⟩], none⟩) (by kernel_rfl) rfl (by kernel_rfl) (by rfl) (fun K hK => ?_)
      go_simp
      refine hK _ _ ?_
      refine NoPanic.normal ?_
      clear hK K hHeld
      have ks : Ky o3 3 W3.drew ((W3.drew.setCell ⟨W.heap.size + 1, 0, none⟩ (.slice (some ⟨gG, 0, none⟩) G.length kG)).setCell ⟨W.heap.size + 1, 1, none⟩ (.slice (some ⟨gC, 0, none⟩) C.length kC)) := (Ky.set m13).trans (Ky.set m13)
      have bD : Below W3.heap.size W3 W3.drew := (Below.refl _ _).drew
      have bF : Below W.heap.size W3 ((W3.drew.setCell ⟨W.heap.size + 1, 0, none⟩ (.slice (some ⟨gG, 0, none⟩) G.length kG)).setCell ⟨W.heap.size + 1, 1, none⟩ (.slice (some ⟨gC, 0, none⟩) C.length kC)) := (((Below.refl _ _).drew).setCell (p := ⟨W.heap.size + 1, 0, none⟩) (Nat.le_succ _) _).setCell (p := ⟨W.heap.size + 1, 1, none⟩) (Nat.le_succ _) _
      have KF := (KA3.drew.set 0 (by simp) (.slice (some ⟨gG, 0, none⟩) G.length kG)).set 1 (by simp) (.slice (some ⟨gC, 0, none⟩) C.length kC)
      simp only [List.setIfInBounds_toArray, List.set_cons_succ, List.set_cons_zero] at KF
      obtain ⟨_, d4, _⟩ := KF
      go_wp2_with fail
      (try simp only [Exit.inBlock, Exit.then])
      refine bodyPost_ret (v := .agg #[.slice (some ⟨gG, 0, none⟩) G.length kG, .slice (some ⟨gC, 0, none⟩) C.length kC]) (by simp [results, Tryz.results24, go_sem, d1]) rfl ?_
      exact ⟨o3, gG, kG, gC, kC, V3, rfl, by have h := (hR3.below bD).ky ks (by decide) (by decide) (by decide); rw [e7.out] at h; subst hF2; exact h, (hK1.out.trans hK13.out).belw bF (fun _ _ => rfl), capG, capC, (hFG3.out.mv (Mv.below bD)).mv (ks.mv (by decide)), (hFC3.out.mv (Mv.below bD)).mv (ks.mv (by decide))⟩
    · go_simp
      have bbB := b0.alloc b0.size (.cells #[.int .i64 4444, .int .i64 0, .int .i64 0, .int .i64 0, .int .i64 4444, .int .i64 0, .int .i64 0, .int .i64 0] 93)
      refine hK.out _ _ ?_ (fun hHeld => ?_)
      · (try dsimp only)
        exact ⟨(KP2.below bbB).2.1 1, (KC2.below bbB).2.1 0, (KC2.below bbB).2.1 1, (KC2.below bbB).2.1 2, (KC2.below bbB).2.1 3⟩
      clear hK K
      (try simp only [Act.put, List.setIfInBounds_toArray, List.set_cons_zero, List.set_cons_succ])
      have bXB : Below W.heap.size W (wG.drew.alloc (.cells #[.int .i64 4444, .int .i64 0, .int .i64 0, .int .i64 0, .int .i64 4444, .int .i64 0, .int .i64 0, .int .i64 0] 93)) := bX0.alloc bX0.size (.cells #[.int .i64 4444, .int .i64 0, .int .i64 0, .int .i64 0, .int .i64 4444, .int .i64 0, .int .i64 0, .int .i64 0] 93)
      have hcb := cells_at (W := wG.drew) (b := wG.heap.size) rfl [.int .i64 4444, .int .i64 0, .int .i64 0, .int .i64 0, .int .i64 4444, .int .i64 0, .int .i64 0, .int .i64 0] 93
      have hzb : wG.heap.size < (wG.drew.alloc (.cells #[.int .i64 4444, .int .i64 0, .int .i64 0, .int .i64 0, .int .i64 4444, .int .i64 0, .int .i64 0, .int .i64 0] 93)).heap.size := by rw [World.size_alloc]; exact Nat.lt_succ_self _
      refine wpAnyH_ready (rs := [2]) (by kernel_rfl) (by simp) ?_
      refine (AllReadyH.cons (o := ⟨some 20, .call { callee := Callee.builtin Builtin.append, args := #[.const (Value.slice none 0 0), .tmp 19], argTypes := #[23, 23] }, 23, "room.go:101", #[⟨1, .data⟩], none⟩) rfl (fun K hK => ?_) AllReadyH.nil)
      refine step_copy rfl _ _ 23 rfl 93 tj _ 4 32 Tryz.underlying23 hj hj0 hj1 hj2 rfl (by decide) ca C.length cc (cellsF Cf.cs C) rfl rfl (cellsF_len cf_len C) (hNC _ bXB).1 (cellsF_one cf_one C) (hNC _ bXB).2 (by unfold maxLen; omega) (by omega) ?_
      intro a1 k1 w2 o2 b2
      have bb5 : Below wG.heap.size wG w2 := bel_after bbB bbB.size b2
      have o5 := own_mono o2 bbB.size
      refine hK.out _ _ ?_ (fun hHeld => ?_)
      · (try dsimp only)
        exact ⟨(KP2.below bb5).2.1 1, (KC2.below bb5).2.1 0, (KC2.below bb5).2.1 1, (KC2.below bb5).2.1 2, (KC2.below bb5).2.1 3⟩
      clear hK K
      (try simp only [Act.put, List.setIfInBounds_toArray, List.set_cons_zero, List.set_cons_succ])
      have hc5 : ∀ j u, ([.int .i64 4444, .int .i64 0, .int .i64 0, .int .i64 0, .int .i64 4444, .int .i64 0, .int .i64 0, .int .i64 0] : List Value)[j]? = some u → w2.cell? ((⟨wG.heap.size, 0, none⟩ : Addr).add j) = some u := by
        intro j u hu
        have h := hcb j u hu
        rw [Go.WideShapes.add_plain] at h ⊢
        exact (b2.cell (p := ⟨wG.heap.size, _, none⟩) hzb).trans h
      refine wpAnyH_ready (rs := [6]) (by kernel_rfl) (by simp) ?_
      refine (AllReadyH.cons (o := ⟨some 24, .call { callee := Callee.builtin Builtin.append, args := #[.tmp 20, .tmp 23], argTypes := #[23, 23] }, 23, "room.go:101", #[⟨2, .data⟩, ⟨5, .data⟩, ⟨2, .chain⟩], none⟩) rfl (fun K hK => ?_) AllReadyH.nil)
      refine step_append_lies _ rfl _ _ 23 rfl wG.heap.size 93 tj _ 4 32 Tryz.underlying23 hj hj0 hj1 hj2 rfl (by decide) (.slice a1 C.length k1) C.length (cellsF Cf.cs C) rfl o5 ⟨wG.heap.size, 0, none⟩ 2 2 [.int .i64 4444, .int .i64 0, .int .i64 0, .int .i64 0, .int .i64 4444, .int .i64 0, .int .i64 0, .int .i64 0] rfl rfl hc5 (all_one rfl) (by decide) (by unfold maxLen; omega) (by omega) bb5.size _ rfl ?_
      intro gC kC wC oC gr6 hl6 hz6
      have bC : Below wG.heap.size wG wC := grown_bel bb5 gr6 (Nat.le_refl _) (fun q hq => (own_lt o5 q hq).1)
      refine hK.out _ _ ?_ (fun hHeld => ?_)
      · (try dsimp only)
        exact ⟨(KP2.below bC).2.1 1, (KC2.below bC).2.1 0, (KC2.below bC).2.1 1, (KC2.below bC).2.1 2, (KC2.below bC).2.1 3⟩
      clear hK K
      (try simp only [Act.put, List.setIfInBounds_toArray, List.set_cons_zero, List.set_cons_succ])
      refine tkY 7 ⟨some 8, .assign (.tmp 24), 23, "room.go:101", #[⟨6, .data⟩, ⟨6, .chain⟩, ⟨0, .phase⟩, ⟨1, .phase⟩, ⟨2, .phase⟩, ⟨3, .phase⟩, ⟨4, .phase⟩, ⟨5, .phase⟩, ⟨6, .phase⟩], none⟩ ?_ rfl ⟨by rfl, ?_⟩ ?_
      rotate_left
      · intro wz hSz; (try dsimp only at hSz); go_simp; all_goals (with_reducible rfl)
      (try simp only [Act.put, List.setIfInBounds_toArray, List.set_cons_zero, List.set_cons_succ])
      refine wpAnyH_done (by kernel_rfl) ?_ _
      refine NoPanic.normal ?_
      clear o5 gr6 hl6 hz6 o2 b2 hHeld bX0 b0 hc5
      clear bb5 bbB bXB hcb hzb
      have b9 : Below W1.heap.size W1 wC := bel_after bG bG.size bC
      have hmG : MkP (rS 6) (rO 6) (rV 6) (nwO W1.heap.size) wC ⟨gG, G.length + 2, kG⟩ := rm_mark (n := G.length) (own_bel oG bC) (cellsF_len gp_len G) lG (Nat.le_refl _) (by rfl) (by rfl)
      have hmC : MkP (rS 7) (rO 7) (rV 7) (nwO W1.heap.size) wC ⟨gC, C.length + 2, kC⟩ := rm_mark (n := C.length) oC (cellsF_len cf_len C) lC bG.size (by rfl) (by rfl)
      have hFG := hideQ (fz_own0 (own_bel oG bC) (Nat.le_refl _))
      have hFC := hideQ (fz_own0 oC bG.size)
      have capG : G.length + 2 ≤ kG := own_capR oG (by omega)
      have capC : C.length + 2 ≤ kC := own_capR oC (by omega)
      clear bC bG KP2 KC2 hX2 oG oC
      have hR6 := hR1.below b9
      have hF6 := (hR6.fl 6 (by decide)).own.own
      have c6 := hR6.cl 6 (by decide)
      have f6 := hR6.fz 6
      have l6 := hR6.lt
      obtain ⟨fa, fc, hV⟩ := own_form hF6
      have hVh := hideQ hV
      rw [hV] at c6 hF6
      have hb7 := bel1 (w := wC) (.cells #[.slice (some ⟨gG, 0, none⟩) (G.length + 2) kG] 22)
      have hF7 := own_bel hF6 hb7
      have s7 : B ≤ (wC.alloc (.cells #[.slice (some ⟨gG, 0, none⟩) (G.length + 2) kG] 22)).heap.size := by have := hR6.bb; simp; omega
      clear hR6 hV hF6
      go_upto_region 6 with (at_builtin; (refine wpList_append_mine _ rfl _ _ 40 rfl B 22 tk _ 1 24 Tryz.underlying40 hk hk0 hk1 hk2 rfl (by decide) (.slice fa (F 6).length fc) (F 6).length (cellsF Lr.cs (F 6)) rfl hF7 ⟨wC.heap.size, 0, none⟩ 1 1 [.slice (some ⟨gG, 0, none⟩) (G.length + 2) kG] rfl rfl (cells_at (W := wC) rfl _ _) (all_one rfl) (by decide) (by unfold maxLen; omega) (by omega) s7 ?_); intro g7 k7 w7 o7 gr7 at7 _ hc7; have q7 := rm_gw hR1 (k := 6) (by decide) (bel_after b9 b9.size hb7) (by rw [hVh.out]; exact gr7) (by rw [hVh.out]; exact at7); have c7 := (cell_heap (j := 6) (q7.ky.block rb hR1.lt (by rw [hR1.ob]; decide))).trans (hR1.cl 6 (by decide)); rw [hVh.out] at c7; have f7 := rm_fz hR1 q7 6; have l7 : rb < w7.heap.size := Nat.lt_of_lt_of_le hR1.lt q7.ky.size)
      have hP := hR1.push (r := ⟨gG, G.length + 2, kG⟩) (by decide) q7 o7 ((hmG.mv (Mv.below hb7)).mv q7.mvI)
      have hmC2 := ((hmC.mv (Mv.below hb7)).mv q7.mvI).mv (hR1.ksm 16 g7 6 (.slice (some ⟨g7, 0, none⟩) ((F 6).length + 1) k7) w7)
      have hFG2 := hideQ (((hFG.out.mv (Mv.below hb7)).mv q7.mvI).mv (hR1.ksm 16 g7 6 (.slice (some ⟨g7, 0, none⟩) ((F 6).length + 1) k7) w7))
      have hFC2 := hideQ (((hFC.out.mv (Mv.below hb7)).mv q7.mvI).mv (hR1.ksm 16 g7 6 (.slice (some ⟨g7, 0, none⟩) ((F 6).length + 1) k7) w7))
      obtain ⟨hRp, hKp⟩ := hP
      replace hKp := hideQ hKp
      have e7 : Hid (upd F 6 (F 6 ++ [(⟨gG, G.length + 2, kG⟩ : Lr)]) 7 = F 7) := upd_other _ _ (by decide)
      clear c6 f6 l6 c7 f7 l7 hF7 s7 hmG hmC hFG hFC hVh q7 o7 gr7 at7 hc7 hb7 b9
      generalize hF2 : upd F 6 (F 6 ++ [(⟨gG, G.length + 2, kG⟩ : Lr)]) = F2 at *
      generalize mkO o1 W1.heap.size (10 + 6) g7 = o2 at *
      generalize w7.setCell ⟨rb, 6, none⟩ (.slice (some ⟨g7, 0, none⟩) ((F 6).length + 1) k7) = Wp at *
      generalize upd V 6 (.slice (some ⟨g7, 0, none⟩) ((F 6).length + 1) k7) = V2 at *
      have bP : Below Wp.heap.size Wp Wp := Below.refl _ _
      have hb77 : (F2 7).length ≤ 5864062014000 := by rw [e7.out]; exact hb7'
      have hR6 := hRp.below bP
      have hF6 := (hR6.fl 7 (by decide)).own.own
      have c6 := hR6.cl 7 (by decide)
      have f6 := hR6.fz 7
      have l6 := hR6.lt
      obtain ⟨fa, fc, hV⟩ := own_form hF6
      have hVh := hideQ hV
      rw [hV] at c6 hF6
      have hb7 := bel1 (w := Wp) (.cells #[.slice (some ⟨gC, 0, none⟩) (C.length + 2) kC] 23)
      have hF7 := own_bel hF6 hb7
      have s7 : B ≤ (Wp.alloc (.cells #[.slice (some ⟨gC, 0, none⟩) (C.length + 2) kC] 23)).heap.size := by have := hR6.bb; simp; omega
      clear hR6 hV hF6
      go_upto_region 7 with (at_builtin; (refine wpList_append_mine _ rfl _ _ 41 rfl B 23 tl _ 1 24 Tryz.underlying41 hl hl0 hl1 hl2 rfl (by decide) (.slice fa (F2 7).length fc) (F2 7).length (cellsF Lr.cs (F2 7)) rfl hF7 ⟨Wp.heap.size, 0, none⟩ 1 1 [.slice (some ⟨gC, 0, none⟩) (C.length + 2) kC] rfl rfl (cells_at (W := Wp) rfl _ _) (all_one rfl) (by decide) (by unfold maxLen; omega) (by omega) s7 ?_); intro g8 k8 w8 o8 gr8 at8 _ hc8; have q8 := rm_gw hRp (k := 7) (by decide) (bel_after bP bP.size hb7) (by rw [hVh.out]; exact gr8) (by rw [hVh.out]; exact at8); have c7 := (cell_heap (j := 7) (q8.ky.block rb hRp.lt (by rw [hRp.ob]; decide))).trans (hRp.cl 7 (by decide)); rw [hVh.out] at c7; have f7 := rm_fz hRp q8 7; have l7 : rb < w8.heap.size := Nat.lt_of_lt_of_le hRp.lt q8.ky.size)
      have hP := hRp.push (r := ⟨gC, C.length + 2, kC⟩) (by decide) q8 o8 (hmC2.mv q8.mv)
      obtain ⟨hR3, hK3⟩ := hP
      replace hK3 := hideQ hK3
      have hFG3 := hideQ (hFG2.out.mv hK3.out.mv)
      have hFC3 := hideQ (hFC2.out.mv hK3.out.mv)
      clear c6 f6 l6 c7 f7 l7 hF7 s7 hVh q8 o8 gr8 at8 hc8 hb7 bP hmC2 hFG2 hFC2 hRp
      have hK13 := hideQ (hKp.out.trans hK3.out)
      have m13 : mkO o2 Wp.heap.size (10 + 7) g8 (W.heap.size + 1) = 3 := by rw [hK13.out.old _ (by have := z1.out; omega)]; exact m1
      have KP3 := hK13.out.has KP (by rw [m0]; decide) (by rw [m0]; decide)
      have KA3 := hK13.out.has KA (by rw [m1]; decide) (by rw [m1]; decide)
      clear KP KA hKp hK3
      generalize mkO o2 Wp.heap.size (10 + 7) g8 = o3 at *
      generalize w8.setCell ⟨rb, 7, none⟩ (.slice (some ⟨g8, 0, none⟩) ((F2 7).length + 1) k8) = W3 at *
      generalize upd V2 7 (.slice (some ⟨g8, 0, none⟩) ((F2 7).length + 1) k8) = V3 at *
      obtain ⟨_, p1, _⟩ := id KP3
      obtain ⟨_, d1, d2⟩ := id KA3
      have i1 : (G.length : Int) ≤ (kG : Int) := by omega
      have i2 : (C.length : Int) ≤ (kC : Int) := by omega
      have i3 : (0 : Int) ≤ (G.length : Int) := by omega
      have i4 : (0 : Int) ≤ (C.length : Int) := by omega
      have i5 : G.length ≤ kG := by omega
      have i6 : C.length ≤ kC := by omega
      go_wp2_with fail
      refine wp_region_noPanic ?_
      refine wp_region_E (S := fun w' => w'.cell? ⟨W.heap.size, 0, none⟩ = some (.slice ga G.length gc) ∧ w'.cell? ⟨W.heap.size, 1, none⟩ = some (.slice ca C.length cc)) (E := 11) (by kernel_rfl) ?_ (fun hHeld => ?_)
      · (try dsimp only)
        exact ⟨KP3.2.1 0, KP3.2.1 1⟩
      refine wpAnyE_take (i := 0) (oi := ⟨some 45, .move (.tmp 7), 22, "room.go:104", #[], none⟩) (v := ?_) rfl (by kernel_rfl) (by kernel_rfl) (by kernel_rfl) (by kernel_rfl) (fun _ _ _ h => h) (Or.inl ⟨by rfl, ?_⟩) (by assumption) ?_
      rotate_left
      · intro wz hSz; (try dsimp only at hSz); go_simp; all_goals (with_reducible rfl)
      (try simp only [Act.put, List.setIfInBounds_toArray, List.set_cons_zero, List.set_cons_succ])
      refine wpAnyE_take (i := 1) (oi := ⟨some 46, .fieldAddr 25 (.tmp 3) 0, 0, "room.go:104", #[], none⟩) (v := ?_) rfl (by kernel_rfl) (by kernel_rfl) (by kernel_rfl) (by kernel_rfl) (fun _ _ _ h => h) (Or.inl ⟨by rfl, ?_⟩) (by assumption) ?_
      rotate_left
      · intro wz hSz; (try dsimp only at hSz); go_simp; all_goals (with_reducible rfl)
      (try simp only [Act.put, List.setIfInBounds_toArray, List.set_cons_zero, List.set_cons_succ])
      refine wpAnyE_take (i := 2) (oi := ⟨some 47, .load 22 (.tmp 46), 22, "room.go:104", #[⟨1, .data⟩], none⟩) (v := ?_) rfl (by kernel_rfl) (by kernel_rfl) (by kernel_rfl) (by kernel_rfl) (fun _ _ _ h => h) (Or.inl ⟨by rfl, ?_⟩) (by assumption) ?_
      rotate_left
      · intro wz hSz; (try dsimp only at hSz); go_simp; all_goals (with_reducible rfl)
      (try simp only [Act.put, List.setIfInBounds_toArray, List.set_cons_zero, List.set_cons_succ])
      refine wpAnyE_take (i := 3) (oi := ⟨some 48, .call { callee := Callee.builtin Builtin.len, args := #[.tmp 47], argTypes := #[22] }, 3, "room.go:104", #[⟨2, .data⟩], none⟩) (v := ?_) rfl (by kernel_rfl) (by kernel_rfl) (by kernel_rfl) (by kernel_rfl) (fun _ _ _ h => h) (Or.inl ⟨by rfl, ?_⟩) (by assumption) ?_
      rotate_left
      · intro wz hSz; (try dsimp only at hSz); go_simp; all_goals (with_reducible rfl)
      (try simp only [Act.put, List.setIfInBounds_toArray, List.set_cons_zero, List.set_cons_succ])
      refine wpAnyE_take (i := 4) (oi := ⟨some 49, .slice 22 (.tmp 45) none (some (.tmp 48)) none, 22, "room.go:104", #[⟨0, .data⟩, ⟨3, .data⟩], none⟩) (v := ?_) rfl (by kernel_rfl) (by kernel_rfl) (by kernel_rfl) (by kernel_rfl) (fun _ _ _ h => h) (Or.inl ⟨by rfl, ?_⟩) (by assumption) ?_
      rotate_left
      · intro wz hSz; (try dsimp only at hSz); go_simp; all_goals (with_reducible rfl)
      (try simp only [Act.put, List.setIfInBounds_toArray, List.set_cons_zero, List.set_cons_succ])
      refine wpAnyE_take (i := 5) (oi := ⟨some 50, .move (.tmp 8), 23, "room.go:104", #[], none⟩) (v := ?_) rfl (by kernel_rfl) (by kernel_rfl) (by kernel_rfl) (by kernel_rfl) (fun _ _ _ h => h) (Or.inl ⟨by rfl, ?_⟩) (by assumption) ?_
      rotate_left
      · intro wz hSz; (try dsimp only at hSz); go_simp; all_goals (with_reducible rfl)
      (try simp only [Act.put, List.setIfInBounds_toArray, List.set_cons_zero, List.set_cons_succ])
      refine wpAnyE_take (i := 6) (oi := ⟨some 51, .fieldAddr 25 (.tmp 3) 1, 0, "room.go:104", #[], none⟩) (v := ?_) rfl (by kernel_rfl) (by kernel_rfl) (by kernel_rfl) (by kernel_rfl) (fun _ _ _ h => h) (Or.inl ⟨by rfl, ?_⟩) (by assumption) ?_
      rotate_left
      · intro wz hSz; (try dsimp only at hSz); go_simp; all_goals (with_reducible rfl)
      (try simp only [Act.put, List.setIfInBounds_toArray, List.set_cons_zero, List.set_cons_succ])
      refine wpAnyE_take (i := 7) (oi := ⟨some 52, .load 23 (.tmp 51), 23, "room.go:104", #[⟨6, .data⟩], none⟩) (v := ?_) rfl (by kernel_rfl) (by kernel_rfl) (by kernel_rfl) (by kernel_rfl) (fun _ _ _ h => h) (Or.inl ⟨by rfl, ?_⟩) (by assumption) ?_
      rotate_left
      · intro wz hSz; (try dsimp only at hSz); go_simp; all_goals (with_reducible rfl)
      (try simp only [Act.put, List.setIfInBounds_toArray, List.set_cons_zero, List.set_cons_succ])
      refine wpAnyE_take (i := 8) (oi := ⟨some 53, .call { callee := Callee.builtin Builtin.len, args := #[.tmp 52], argTypes := #[23] }, 3, "room.go:104", #[⟨7, .data⟩], none⟩) (v := ?_) rfl (by kernel_rfl) (by kernel_rfl) (by kernel_rfl) (by kernel_rfl) (fun _ _ _ h => h) (Or.inl ⟨by rfl, ?_⟩) (by assumption) ?_
      rotate_left
      · intro wz hSz; (try dsimp only at hSz); go_simp; all_goals (with_reducible rfl)
      (try simp only [Act.put, List.setIfInBounds_toArray, List.set_cons_zero, List.set_cons_succ])
      refine wpAnyE_take (i := 9) (oi := ⟨some 54, .slice 23 (.tmp 50) none (some (.tmp 53)) none, 23, "room.go:104", #[⟨5, .data⟩, ⟨8, .data⟩], none⟩) (v := ?_) rfl (by kernel_rfl) (by kernel_rfl) (by kernel_rfl) (by kernel_rfl) (fun _ _ _ h => h) (Or.inl ⟨by rfl, ?_⟩) (by assumption) ?_
      rotate_left
      · intro wz hSz; (try dsimp only at hSz); go_simp; all_goals (with_reducible rfl)
      (try simp only [Act.put, List.setIfInBounds_toArray, List.set_cons_zero, List.set_cons_succ])
      refine wpAnyE_take (i := 10) (oi := ⟨some 55, .build 25 #[(0, .tmp 49), (1, .tmp 54)], 25, "room.go:104", #[⟨4, .data⟩, ⟨9, .data⟩], none⟩) (v := ?_) rfl (by kernel_rfl) (by kernel_rfl) (by kernel_rfl) (by kernel_rfl) (fun _ _ _ h => h) (Or.inl ⟨by rfl, ?_⟩) (by assumption) ?_
      rotate_left
      · intro wz hSz; (try dsimp only at hSz); go_simp; all_goals (with_reducible rfl)
      (try simp only [Act.put, List.setIfInBounds_toArray, List.set_cons_zero, List.set_cons_succ])
      refine wpAnyE_last (o := ⟨none, .store 25 (.tmp 4) (.tmp 55), 0, "room.go:104", #[⟨10, .data⟩, ⟨0, .phase⟩, ⟨1, .phase⟩, ⟨2, .phase⟩, ⟨3, .phase⟩, ⟨4, .phase⟩, ⟨5, .phase⟩, ⟨6, .phase⟩, ⟨7, .phase⟩, ⟨8, .phase⟩, ⟨9, .phase⟩, ⟨10, .phase⟩], none⟩) (by kernel_rfl) rfl (by kernel_rfl) (by rfl) (fun K hK => ?_)
      go_simp
      refine hK _ _ ?_
      refine NoPanic.normal ?_
      clear hK K hHeld
      have ks : Ky o3 3 W3.drew ((W3.drew.setCell ⟨W.heap.size + 1, 0, none⟩ (.slice (some ⟨gG, 0, none⟩) G.length kG)).setCell ⟨W.heap.size + 1, 1, none⟩ (.slice (some ⟨gC, 0, none⟩) C.length kC)) := (Ky.set m13).trans (Ky.set m13)
      have bD : Below W3.heap.size W3 W3.drew := (Below.refl _ _).drew
      have bF : Below W.heap.size W3 ((W3.drew.setCell ⟨W.heap.size + 1, 0, none⟩ (.slice (some ⟨gG, 0, none⟩) G.length kG)).setCell ⟨W.heap.size + 1, 1, none⟩ (.slice (some ⟨gC, 0, none⟩) C.length kC)) := (((Below.refl _ _).drew).setCell (p := ⟨W.heap.size + 1, 0, none⟩) (Nat.le_succ _) _).setCell (p := ⟨W.heap.size + 1, 1, none⟩) (Nat.le_succ _) _
      have KF := (KA3.drew.set 0 (by simp) (.slice (some ⟨gG, 0, none⟩) G.length kG)).set 1 (by simp) (.slice (some ⟨gC, 0, none⟩) C.length kC)
      simp only [List.setIfInBounds_toArray, List.set_cons_succ, List.set_cons_zero] at KF
      obtain ⟨_, d4, _⟩ := KF
      go_wp2_with fail
      (try simp only [Exit.inBlock, Exit.then])
      refine bodyPost_ret (v := .agg #[.slice (some ⟨gG, 0, none⟩) G.length kG, .slice (some ⟨gC, 0, none⟩) C.length kC]) (by simp [results, Tryz.results24, go_sem, d1]) rfl ?_
      exact ⟨o3, gG, kG, gC, kC, V3, rfl, by have h := (hR3.below bD).ky ks (by decide) (by decide) (by decide); rw [e7.out] at h; subst hF2; exact h, (hK1.out.trans hK13.out).belw bF (fun _ _ => rfl), capG, capC, (hFG3.out.mv (Mv.below bD)).mv (ks.mv (by decide)), (hFC3.out.mv (Mv.below bD)).mv (ks.mv (by decide))⟩
  · go_simp
    have bbB := b0.alloc b0.size (.cells #[.string ⟨#[]⟩, .int .i64 0, .int .i64 4444, .int .i64 0, .int .i64 0, .string ⟨#[]⟩, .int .i64 0, .int .i64 4444, .int .i64 0, .int .i64 0] 90)
    refine hK.out _ _ ?_ (fun hHeld => ?_)
    · (try dsimp only)
      exact ⟨(KP.below bbB).2.1 0, (KG.below bbB).2.1 0, (KG.below bbB).2.1 1, (KG.below bbB).2.1 2, (KG.below bbB).2.1 3, (KG.below bbB).2.1 4⟩
    clear hK K
    (try simp only [Act.put, List.setIfInBounds_toArray, List.set_cons_zero, List.set_cons_succ])
    have bXB : Below W.heap.size W (W1.drew.alloc (.cells #[.string ⟨#[]⟩, .int .i64 0, .int .i64 4444, .int .i64 0, .int .i64 0, .string ⟨#[]⟩, .int .i64 0, .int .i64 4444, .int .i64 0, .int .i64 0] 90)) := bX0.alloc bX0.size (.cells #[.string ⟨#[]⟩, .int .i64 0, .int .i64 4444, .int .i64 0, .int .i64 0, .string ⟨#[]⟩, .int .i64 0, .int .i64 4444, .int .i64 0, .int .i64 0] 90)
    have hcb := cells_at (W := W1.drew) (b := W1.heap.size) rfl [.string ⟨#[]⟩, .int .i64 0, .int .i64 4444, .int .i64 0, .int .i64 0, .string ⟨#[]⟩, .int .i64 0, .int .i64 4444, .int .i64 0, .int .i64 0] 90
    have hzb : W1.heap.size < (W1.drew.alloc (.cells #[.string ⟨#[]⟩, .int .i64 0, .int .i64 4444, .int .i64 0, .int .i64 0, .string ⟨#[]⟩, .int .i64 0, .int .i64 4444, .int .i64 0, .int .i64 0] 90)).heap.size := by rw [World.size_alloc]; exact Nat.lt_succ_self _
    refine wpAnyH_ready (rs := [2]) (by kernel_rfl) (by simp) ?_
    refine (AllReadyH.cons (o := ⟨some 13, .call { callee := Callee.builtin Builtin.append, args := #[.const (Value.slice none 0 0), .tmp 12], argTypes := #[22, 22] }, 22, "room.go:100", #[⟨1, .data⟩], none⟩) rfl (fun K hK => ?_) AllReadyH.nil)
    refine step_copy rfl _ _ 22 rfl 90 ti _ 5 48 Tryz.underlying22 hi hi0 hi1 hi2 rfl (by decide) ga G.length gc (cellsF Gp.cs G) rfl rfl (cellsF_len gp_len G) (hNG _ bXB).1 (cellsF_one gp_one G) (hNG _ bXB).2 (by unfold maxLen; omega) (by omega) ?_
    intro a1 k1 w2 o2 b2
    have bb5 : Below W1.heap.size W1 w2 := bel_after bbB bbB.size b2
    have o5 := own_mono o2 bbB.size
    refine hK.out _ _ ?_ (fun hHeld => ?_)
    · (try dsimp only)
      exact ⟨(KP.below bb5).2.1 0, (KG.below bb5).2.1 0, (KG.below bb5).2.1 1, (KG.below bb5).2.1 2, (KG.below bb5).2.1 3, (KG.below bb5).2.1 4⟩
    clear hK K
    (try simp only [Act.put, List.setIfInBounds_toArray, List.set_cons_zero, List.set_cons_succ])
    have hc5 : ∀ j u, ([.string ⟨#[]⟩, .int .i64 0, .int .i64 4444, .int .i64 0, .int .i64 0, .string ⟨#[]⟩, .int .i64 0, .int .i64 4444, .int .i64 0, .int .i64 0] : List Value)[j]? = some u → w2.cell? ((⟨W1.heap.size, 0, none⟩ : Addr).add j) = some u := by
      intro j u hu
      have h := hcb j u hu
      rw [Go.WideShapes.add_plain] at h ⊢
      exact (b2.cell (p := ⟨W1.heap.size, _, none⟩) hzb).trans h
    refine wpAnyH_ready (rs := [6]) (by kernel_rfl) (by simp) ?_
    refine (AllReadyH.cons (o := ⟨some 17, .call { callee := Callee.builtin Builtin.append, args := #[.tmp 13, .tmp 16], argTypes := #[22, 22] }, 22, "room.go:100", #[⟨2, .data⟩, ⟨5, .data⟩, ⟨2, .chain⟩], none⟩) rfl (fun K hK => ?_) AllReadyH.nil)
    refine step_append_lies _ rfl _ _ 22 rfl W1.heap.size 90 ti _ 5 48 Tryz.underlying22 hi hi0 hi1 hi2 rfl (by decide) (.slice a1 G.length k1) G.length (cellsF Gp.cs G) rfl o5 ⟨W1.heap.size, 0, none⟩ 2 2 [.string ⟨#[]⟩, .int .i64 0, .int .i64 4444, .int .i64 0, .int .i64 0, .string ⟨#[]⟩, .int .i64 0, .int .i64 4444, .int .i64 0, .int .i64 0] rfl rfl hc5 (all_one rfl) (by decide) (by unfold maxLen; omega) (by omega) bb5.size _ rfl ?_
    intro gG kG wG oG gr6 hl6 hz6
    have bG : Below W1.heap.size W1 wG := grown_bel bb5 gr6 (Nat.le_refl _) (fun q hq => (own_lt o5 q hq).1)
    refine hK.out _ _ ?_ (fun hHeld => ?_)
    · (try dsimp only)
      exact ⟨(KP.below bG).2.1 0, (KG.below bG).2.1 0, (KG.below bG).2.1 1, (KG.below bG).2.1 2, (KG.below bG).2.1 3, (KG.below bG).2.1 4⟩
    clear hK K
    (try simp only [Act.put, List.setIfInBounds_toArray, List.set_cons_zero, List.set_cons_succ])
    refine tkY 7 ⟨some 7, .assign (.tmp 17), 22, "room.go:100", #[⟨6, .data⟩, ⟨6, .chain⟩, ⟨0, .phase⟩, ⟨1, .phase⟩, ⟨2, .phase⟩, ⟨3, .phase⟩, ⟨4, .phase⟩, ⟨5, .phase⟩, ⟨6, .phase⟩], none⟩ ?_ rfl ⟨by rfl, ?_⟩ ?_
    rotate_left
    · intro wz hSz; (try dsimp only at hSz); go_simp; all_goals (with_reducible rfl)
    (try simp only [Act.put, List.setIfInBounds_toArray, List.set_cons_zero, List.set_cons_succ])
    refine wpAnyH_done (by kernel_rfl) ?_ _
    refine NoPanic.normal ?_
    clear o5 gr6 hl6 hz6 o2 b2 hHeld bX0 b0 hc5
    clear bb5 bbB bXB hcb hzb
    have hX2 : Below W.heap.size W wG := bel_after hbW hbW.size bG
    have KP2 := KP.below bG
    have KC2 := KC.below bG
    go_wp2_with fail
    have b0 : Below wG.heap.size wG wG.drew := (Below.refl _ _).drew
    have bX0 : Below W.heap.size W wG.drew := hX2.drew
    refine wp_region_noPanic ?_
    refine wp_region_held_drew (S := fun w' => w'.cell? ⟨W.heap.size, 1, none⟩ = some (.slice ca C.length cc) ∧ w'.cell? ⟨W.heap.size + 3, 0, none⟩ = some (.int .i64 4444) ∧ w'.cell? ⟨W.heap.size + 3, 1, none⟩ = some (.int .i64 0) ∧ w'.cell? ⟨W.heap.size + 3, 2, none⟩ = some (.int .i64 0) ∧ w'.cell? ⟨W.heap.size + 3, 3, none⟩ = some (.int .i64 0)) (by kernel_rfl) ?_ (fun hHeld => ?_)
    · (try dsimp only)
      exact ⟨(KP2.below b0).2.1 1, (KC2.below b0).2.1 0, (KC2.below b0).2.1 1, (KC2.below b0).2.1 2, (KC2.below b0).2.1 3⟩
    refine tkY 0 ⟨some 18, .fieldAddr 25 (.tmp 3) 1, 0, "room.go:101", #[], none⟩ ?_ rfl ⟨by rfl, ?_⟩ ?_
    rotate_left
    · intro wz hSz; (try dsimp only at hSz); go_simp; all_goals (with_reducible rfl)
    (try simp only [Act.put, List.setIfInBounds_toArray, List.set_cons_zero, List.set_cons_succ])
    refine tkY 1 ⟨some 19, .load 23 (.tmp 18), 23, "room.go:101", #[⟨0, .data⟩], none⟩ ?_ rfl ⟨by rfl, ?_⟩ ?_
    rotate_left
    · intro wz hSz; (try dsimp only at hSz); go_simp; all_goals (with_reducible rfl)
    (try simp only [Act.put, List.setIfInBounds_toArray, List.set_cons_zero, List.set_cons_succ])
    refine tkY 3 ⟨some 21, .load 93 (.tmp 6), 93, "room.go:101", #[], none⟩ ?_ rfl ⟨by rfl, ?_⟩ ?_
    rotate_left
    · intro wz hSz; (try dsimp only at hSz); go_simp; all_goals (with_reducible rfl)
    (try simp only [Act.put, List.setIfInBounds_toArray, List.set_cons_zero, List.set_cons_succ])
    refine tkY 4 ⟨some 22, .load 93 (.tmp 6), 93, "room.go:101", #[], none⟩ ?_ rfl ⟨by rfl, ?_⟩ ?_
    rotate_left
    · intro wz hSz; (try dsimp only at hSz); go_simp; all_goals (with_reducible rfl)
    (try simp only [Act.put, List.setIfInBounds_toArray, List.set_cons_zero, List.set_cons_succ])
    refine wpAnyH_ready (rs := [2, 5]) (by kernel_rfl) (by simp) ?_
    refine (AllReadyH.cons (o := ⟨some 20, .call { callee := Callee.builtin Builtin.append, args := #[.const (Value.slice none 0 0), .tmp 19], argTypes := #[23, 23] }, 23, "room.go:101", #[⟨1, .data⟩], none⟩) rfl (fun K hK => ?_) (AllReadyH.cons (o := ⟨some 23, .buildSlice 23 2 #[(0, .tmp 21), (1, .tmp 22)], 23, "room.go:101", #[⟨3, .data⟩, ⟨4, .data⟩], none⟩) rfl (fun K hK => ?_) AllReadyH.nil))
    · refine step_copy rfl _ _ 23 rfl 93 tj _ 4 32 Tryz.underlying23 hj hj0 hj1 hj2 rfl (by decide) ca C.length cc (cellsF Cf.cs C) rfl rfl (cellsF_len cf_len C) (hNC _ bX0).1 (cellsF_one cf_one C) (hNC _ bX0).2 (by unfold maxLen; omega) (by omega) ?_
      intro a1 k1 w2 o2 b2
      have bb2 : Below wG.heap.size wG w2 := bel_after b0 b0.size b2
      refine hK.out _ _ ?_ (fun hHeld => ?_)
      · (try dsimp only)
        exact ⟨(KP2.below bb2).2.1 1, (KC2.below bb2).2.1 0, (KC2.below bb2).2.1 1, (KC2.below bb2).2.1 2, (KC2.below bb2).2.1 3⟩
      clear hK K
      (try simp only [Act.put, List.setIfInBounds_toArray, List.set_cons_zero, List.set_cons_succ])
      refine wpAnyH_ready (rs := [5]) (by kernel_rfl) (by simp) ?_
      refine (AllReadyH.cons (o := ⟨some 23, .buildSlice 23 2 #[(0, .tmp 21), (1, .tmp 22)], 23, "room.go:101", #[⟨3, .data⟩, ⟨4, .data⟩], none⟩) rfl (fun K hK => ?_) AllReadyH.nil)
      go_simp
      have bb3 := bb2.alloc bb2.size (.cells #[.int .i64 4444, .int .i64 0, .int .i64 0, .int .i64 0, .int .i64 4444, .int .i64 0, .int .i64 0, .int .i64 0] 93)
      refine hK.out _ _ ?_ (fun hHeld => ?_)
      · (try dsimp only)
        exact ⟨(KP2.below bb3).2.1 1, (KC2.below bb3).2.1 0, (KC2.below bb3).2.1 1, (KC2.below bb3).2.1 2, (KC2.below bb3).2.1 3⟩
      clear hK K
      (try simp only [Act.put, List.setIfInBounds_toArray, List.set_cons_zero, List.set_cons_succ])
      have o5 := own_bel o2 (bel1 (.cells #[.int .i64 4444, .int .i64 0, .int .i64 0, .int .i64 0, .int .i64 4444, .int .i64 0, .int .i64 0, .int .i64 0] 93))
      have hc5 := cells_at (W := w2) (b := w2.heap.size) rfl [.int .i64 4444, .int .i64 0, .int .i64 0, .int .i64 0, .int .i64 4444, .int .i64 0, .int .i64 0, .int .i64 0] 93
      refine wpAnyH_ready (rs := [6]) (by kernel_rfl) (by simp) ?_
      refine (AllReadyH.cons (o := ⟨some 24, .call { callee := Callee.builtin Builtin.append, args := #[.tmp 20, .tmp 23], argTypes := #[23, 23] }, 23, "room.go:101", #[⟨2, .data⟩, ⟨5, .data⟩, ⟨2, .chain⟩], none⟩) rfl (fun K hK => ?_) AllReadyH.nil)
      refine step_append_lies _ rfl _ _ 23 rfl wG.heap.size 93 tj _ 4 32 Tryz.underlying23 hj hj0 hj1 hj2 rfl (by decide) (.slice a1 C.length k1) C.length (cellsF Cf.cs C) rfl o5 ⟨w2.heap.size, 0, none⟩ 2 2 [.int .i64 4444, .int .i64 0, .int .i64 0, .int .i64 0, .int .i64 4444, .int .i64 0, .int .i64 0, .int .i64 0] rfl rfl hc5 (all_one rfl) (by decide) (by unfold maxLen; omega) (by omega) bb3.size _ rfl ?_
      intro gC kC wC oC gr6 hl6 hz6
      have bC : Below wG.heap.size wG wC := grown_bel bb3 gr6 (Nat.le_refl _) (fun q hq => (own_lt o5 q hq).1)
      refine hK.out _ _ ?_ (fun hHeld => ?_)
      · (try dsimp only)
        exact ⟨(KP2.below bC).2.1 1, (KC2.below bC).2.1 0, (KC2.below bC).2.1 1, (KC2.below bC).2.1 2, (KC2.below bC).2.1 3⟩
      clear hK K
      (try simp only [Act.put, List.setIfInBounds_toArray, List.set_cons_zero, List.set_cons_succ])
      refine tkY 7 ⟨some 8, .assign (.tmp 24), 23, "room.go:101", #[⟨6, .data⟩, ⟨6, .chain⟩, ⟨0, .phase⟩, ⟨1, .phase⟩, ⟨2, .phase⟩, ⟨3, .phase⟩, ⟨4, .phase⟩, ⟨5, .phase⟩, ⟨6, .phase⟩], none⟩ ?_ rfl ⟨by rfl, ?_⟩ ?_
      rotate_left
      · intro wz hSz; (try dsimp only at hSz); go_simp; all_goals (with_reducible rfl)
      (try simp only [Act.put, List.setIfInBounds_toArray, List.set_cons_zero, List.set_cons_succ])
      refine wpAnyH_done (by kernel_rfl) ?_ _
      refine NoPanic.normal ?_
      clear o5 gr6 hl6 hz6 o2 b2 hHeld bX0 b0 hc5
      clear bb2 bb3
      have b9 : Below W1.heap.size W1 wC := bel_after bG bG.size bC
      have hmG : MkP (rS 6) (rO 6) (rV 6) (nwO W1.heap.size) wC ⟨gG, G.length + 2, kG⟩ := rm_mark (n := G.length) (own_bel oG bC) (cellsF_len gp_len G) lG (Nat.le_refl _) (by rfl) (by rfl)
      have hmC : MkP (rS 7) (rO 7) (rV 7) (nwO W1.heap.size) wC ⟨gC, C.length + 2, kC⟩ := rm_mark (n := C.length) oC (cellsF_len cf_len C) lC bG.size (by rfl) (by rfl)
      have hFG := hideQ (fz_own0 (own_bel oG bC) (Nat.le_refl _))
      have hFC := hideQ (fz_own0 oC bG.size)
      have capG : G.length + 2 ≤ kG := own_capR oG (by omega)
      have capC : C.length + 2 ≤ kC := own_capR oC (by omega)
      clear bC bG KP2 KC2 hX2 oG oC
      have hR6 := hR1.below b9
      have hF6 := (hR6.fl 6 (by decide)).own.own
      have c6 := hR6.cl 6 (by decide)
      have f6 := hR6.fz 6
      have l6 := hR6.lt
      obtain ⟨fa, fc, hV⟩ := own_form hF6
      have hVh := hideQ hV
      rw [hV] at c6 hF6
      have hb7 := bel1 (w := wC) (.cells #[.slice (some ⟨gG, 0, none⟩) (G.length + 2) kG] 22)
      have hF7 := own_bel hF6 hb7
      have s7 : B ≤ (wC.alloc (.cells #[.slice (some ⟨gG, 0, none⟩) (G.length + 2) kG] 22)).heap.size := by have := hR6.bb; simp; omega
      clear hR6 hV hF6
      go_upto_region 6 with (at_builtin; (refine wpList_append_mine _ rfl _ _ 40 rfl B 22 tk _ 1 24 Tryz.underlying40 hk hk0 hk1 hk2 rfl (by decide) (.slice fa (F 6).length fc) (F 6).length (cellsF Lr.cs (F 6)) rfl hF7 ⟨wC.heap.size, 0, none⟩ 1 1 [.slice (some ⟨gG, 0, none⟩) (G.length + 2) kG] rfl rfl (cells_at (W := wC) rfl _ _) (all_one rfl) (by decide) (by unfold maxLen; omega) (by omega) s7 ?_); intro g7 k7 w7 o7 gr7 at7 _ hc7; have q7 := rm_gw hR1 (k := 6) (by decide) (bel_after b9 b9.size hb7) (by rw [hVh.out]; exact gr7) (by rw [hVh.out]; exact at7); have c7 := (cell_heap (j := 6) (q7.ky.block rb hR1.lt (by rw [hR1.ob]; decide))).trans (hR1.cl 6 (by decide)); rw [hVh.out] at c7; have f7 := rm_fz hR1 q7 6; have l7 : rb < w7.heap.size := Nat.lt_of_lt_of_le hR1.lt q7.ky.size)
      have hP := hR1.push (r := ⟨gG, G.length + 2, kG⟩) (by decide) q7 o7 ((hmG.mv (Mv.below hb7)).mv q7.mvI)
      have hmC2 := ((hmC.mv (Mv.below hb7)).mv q7.mvI).mv (hR1.ksm 16 g7 6 (.slice (some ⟨g7, 0, none⟩) ((F 6).length + 1) k7) w7)
      have hFG2 := hideQ (((hFG.out.mv (Mv.below hb7)).mv q7.mvI).mv (hR1.ksm 16 g7 6 (.slice (some ⟨g7, 0, none⟩) ((F 6).length + 1) k7) w7))
      have hFC2 := hideQ (((hFC.out.mv (Mv.below hb7)).mv q7.mvI).mv (hR1.ksm 16 g7 6 (.slice (some ⟨g7, 0, none⟩) ((F 6).length + 1) k7) w7))
      obtain ⟨hRp, hKp⟩ := hP
      replace hKp := hideQ hKp
      have e7 : Hid (upd F 6 (F 6 ++ [(⟨gG, G.length + 2, kG⟩ : Lr)]) 7 = F 7) := upd_other _ _ (by decide)
      clear c6 f6 l6 c7 f7 l7 hF7 s7 hmG hmC hFG hFC hVh q7 o7 gr7 at7 hc7 hb7 b9
      generalize hF2 : upd F 6 (F 6 ++ [(⟨gG, G.length + 2, kG⟩ : Lr)]) = F2 at *
      generalize mkO o1 W1.heap.size (10 + 6) g7 = o2 at *
      generalize w7.setCell ⟨rb, 6, none⟩ (.slice (some ⟨g7, 0, none⟩) ((F 6).length + 1) k7) = Wp at *
      generalize upd V 6 (.slice (some ⟨g7, 0, none⟩) ((F 6).length + 1) k7) = V2 at *
      have bP : Below Wp.heap.size Wp Wp := Below.refl _ _
      have hb77 : (F2 7).length ≤ 5864062014000 := by rw [e7.out]; exact hb7'
      have hR6 := hRp.below bP
      have hF6 := (hR6.fl 7 (by decide)).own.own
      have c6 := hR6.cl 7 (by decide)
      have f6 := hR6.fz 7
      have l6 := hR6.lt
      obtain ⟨fa, fc, hV⟩ := own_form hF6
      have hVh := hideQ hV
      rw [hV] at c6 hF6
      have hb7 := bel1 (w := Wp) (.cells #[.slice (some ⟨gC, 0, none⟩) (C.length + 2) kC] 23)
      have hF7 := own_bel hF6 hb7
      have s7 : B ≤ (Wp.alloc (.cells #[.slice (some ⟨gC, 0, none⟩) (C.length + 2) kC] 23)).heap.size := by have := hR6.bb; simp; omega
      clear hR6 hV hF6
      go_upto_region 7 with (at_builtin; (refine wpList_append_mine _ rfl _ _ 41 rfl B 23 tl _ 1 24 Tryz.underlying41 hl hl0 hl1 hl2 rfl (by decide) (.slice fa (F2 7).length fc) (F2 7).length (cellsF Lr.cs (F2 7)) rfl hF7 ⟨Wp.heap.size, 0, none⟩ 1 1 [.slice (some ⟨gC, 0, none⟩) (C.length + 2) kC] rfl rfl (cells_at (W := Wp) rfl _ _) (all_one rfl) (by decide) (by unfold maxLen; omega) (by omega) s7 ?_); intro g8 k8 w8 o8 gr8 at8 _ hc8; have q8 := rm_gw hRp (k := 7) (by decide) (bel_after bP bP.size hb7) (by rw [hVh.out]; exact gr8) (by rw [hVh.out]; exact at8); have c7 := (cell_heap (j := 7) (q8.ky.block rb hRp.lt (by rw [hRp.ob]; decide))).trans (hRp.cl 7 (by decide)); rw [hVh.out] at c7; have f7 := rm_fz hRp q8 7; have l7 : rb < w8.heap.size := Nat.lt_of_lt_of_le hRp.lt q8.ky.size)
      have hP := hRp.push (r := ⟨gC, C.length + 2, kC⟩) (by decide) q8 o8 (hmC2.mv q8.mv)
      obtain ⟨hR3, hK3⟩ := hP
      replace hK3 := hideQ hK3
      have hFG3 := hideQ (hFG2.out.mv hK3.out.mv)
      have hFC3 := hideQ (hFC2.out.mv hK3.out.mv)
      clear c6 f6 l6 c7 f7 l7 hF7 s7 hVh q8 o8 gr8 at8 hc8 hb7 bP hmC2 hFG2 hFC2 hRp
      have hK13 := hideQ (hKp.out.trans hK3.out)
      have m13 : mkO o2 Wp.heap.size (10 + 7) g8 (W.heap.size + 1) = 3 := by rw [hK13.out.old _ (by have := z1.out; omega)]; exact m1
      have KP3 := hK13.out.has KP (by rw [m0]; decide) (by rw [m0]; decide)
      have KA3 := hK13.out.has KA (by rw [m1]; decide) (by rw [m1]; decide)
      clear KP KA hKp hK3
      generalize mkO o2 Wp.heap.size (10 + 7) g8 = o3 at *
      generalize w8.setCell ⟨rb, 7, none⟩ (.slice (some ⟨g8, 0, none⟩) ((F2 7).length + 1) k8) = W3 at *
      generalize upd V2 7 (.slice (some ⟨g8, 0, none⟩) ((F2 7).length + 1) k8) = V3 at *
      obtain ⟨_, p1, _⟩ := id KP3
      obtain ⟨_, d1, d2⟩ := id KA3
      have i1 : (G.length : Int) ≤ (kG : Int) := by omega
      have i2 : (C.length : Int) ≤ (kC : Int) := by omega
      have i3 : (0 : Int) ≤ (G.length : Int) := by omega
      have i4 : (0 : Int) ≤ (C.length : Int) := by omega
      have i5 : G.length ≤ kG := by omega
      have i6 : C.length ≤ kC := by omega
      go_wp2_with fail
      refine wp_region_noPanic ?_
      refine wp_region_E (S := fun w' => w'.cell? ⟨W.heap.size, 0, none⟩ = some (.slice ga G.length gc) ∧ w'.cell? ⟨W.heap.size, 1, none⟩ = some (.slice ca C.length cc)) (E := 11) (by kernel_rfl) ?_ (fun hHeld => ?_)
      · (try dsimp only)
        exact ⟨KP3.2.1 0, KP3.2.1 1⟩
      refine wpAnyE_take (i := 0) (oi := ⟨some 45, .move (.tmp 7), 22, "room.go:104", #[], none⟩) (v := ?_) rfl (by kernel_rfl) (by kernel_rfl) (by kernel_rfl) (by kernel_rfl) (fun _ _ _ h => h) (Or.inl ⟨by rfl, ?_⟩) (by assumption) ?_
      rotate_left
      · intro wz hSz; (try dsimp only at hSz); go_simp; all_goals (with_reducible rfl)
      (try simp only [Act.put, List.setIfInBounds_toArray, List.set_cons_zero, List.set_cons_succ])
      refine wpAnyE_take (i := 1) (oi := ⟨some 46, .fieldAddr 25 (.tmp 3) 0, 0, "room.go:104", #[], none⟩) (v := ?_) rfl (by kernel_rfl) (by kernel_rfl) (by kernel_rfl) (by kernel_rfl) (fun _ _ _ h => h) (Or.inl ⟨by rfl, ?_⟩) (by assumption) ?_
      rotate_left
      · intro wz hSz; (try dsimp only at hSz); go_simp; all_goals (with_reducible rfl)
      (try simp only [Act.put, List.setIfInBounds_toArray, List.set_cons_zero, List.set_cons_succ])
      refine wpAnyE_take (i := 2) (oi := ⟨some 47, .load 22 (.tmp 46), 22, "room.go:104", #[⟨1, .data⟩], none⟩) (v := ?_) rfl (by kernel_rfl) (by kernel_rfl) (by kernel_rfl) (by kernel_rfl) (fun _ _ _ h => h) (Or.inl ⟨by rfl, ?_⟩) (by assumption) ?_
      rotate_left
      · intro wz hSz; (try dsimp only at hSz); go_simp; all_goals (with_reducible rfl)
      (try simp only [Act.put, List.setIfInBounds_toArray, List.set_cons_zero, List.set_cons_succ])
      refine wpAnyE_take (i := 3) (oi := ⟨some 48, .call { callee := Callee.builtin Builtin.len, args := #[.tmp 47], argTypes := #[22] }, 3, "room.go:104", #[⟨2, .data⟩], none⟩) (v := ?_) rfl (by kernel_rfl) (by kernel_rfl) (by kernel_rfl) (by kernel_rfl) (fun _ _ _ h => h) (Or.inl ⟨by rfl, ?_⟩) (by assumption) ?_
      rotate_left
      · intro wz hSz; (try dsimp only at hSz); go_simp; all_goals (with_reducible rfl)
      (try simp only [Act.put, List.setIfInBounds_toArray, List.set_cons_zero, List.set_cons_succ])
      refine wpAnyE_take (i := 4) (oi := ⟨some 49, .slice 22 (.tmp 45) none (some (.tmp 48)) none, 22, "room.go:104", #[⟨0, .data⟩, ⟨3, .data⟩], none⟩) (v := ?_) rfl (by kernel_rfl) (by kernel_rfl) (by kernel_rfl) (by kernel_rfl) (fun _ _ _ h => h) (Or.inl ⟨by rfl, ?_⟩) (by assumption) ?_
      rotate_left
      · intro wz hSz; (try dsimp only at hSz); go_simp; all_goals (with_reducible rfl)
      (try simp only [Act.put, List.setIfInBounds_toArray, List.set_cons_zero, List.set_cons_succ])
      refine wpAnyE_take (i := 5) (oi := ⟨some 50, .move (.tmp 8), 23, "room.go:104", #[], none⟩) (v := ?_) rfl (by kernel_rfl) (by kernel_rfl) (by kernel_rfl) (by kernel_rfl) (fun _ _ _ h => h) (Or.inl ⟨by rfl, ?_⟩) (by assumption) ?_
      rotate_left
      · intro wz hSz; (try dsimp only at hSz); go_simp; all_goals (with_reducible rfl)
      (try simp only [Act.put, List.setIfInBounds_toArray, List.set_cons_zero, List.set_cons_succ])
      refine wpAnyE_take (i := 6) (oi := ⟨some 51, .fieldAddr 25 (.tmp 3) 1, 0, "room.go:104", #[], none⟩) (v := ?_) rfl (by kernel_rfl) (by kernel_rfl) (by kernel_rfl) (by kernel_rfl) (fun _ _ _ h => h) (Or.inl ⟨by rfl, ?_⟩) (by assumption) ?_
      rotate_left
      · intro wz hSz; (try dsimp only at hSz); go_simp; all_goals (with_reducible rfl)
      (try simp only [Act.put, List.setIfInBounds_toArray, List.set_cons_zero, List.set_cons_succ])
      refine wpAnyE_take (i := 7) (oi := ⟨some 52, .load 23 (.tmp 51), 23, "room.go:104", #[⟨6, .data⟩], none⟩) (v := ?_) rfl (by kernel_rfl) (by kernel_rfl) (by kernel_rfl) (by kernel_rfl) (fun _ _ _ h => h) (Or.inl ⟨by rfl, ?_⟩) (by assumption) ?_
      rotate_left
      · intro wz hSz; (try dsimp only at hSz); go_simp; all_goals (with_reducible rfl)
      (try simp only [Act.put, List.setIfInBounds_toArray, List.set_cons_zero, List.set_cons_succ])
      refine wpAnyE_take (i := 8) (oi := ⟨some 53, .call { callee := Callee.builtin Builtin.len, args := #[.tmp 52], argTypes := #[23] }, 3, "room.go:104", #[⟨7, .data⟩], none⟩) (v := ?_) rfl (by kernel_rfl) (by kernel_rfl) (by kernel_rfl) (by kernel_rfl) (fun _ _ _ h => h) (Or.inl ⟨by rfl, ?_⟩) (by assumption) ?_
      rotate_left
      · intro wz hSz; (try dsimp only at hSz); go_simp; all_goals (with_reducible rfl)
      (try simp only [Act.put, List.setIfInBounds_toArray, List.set_cons_zero, List.set_cons_succ])
      refine wpAnyE_take (i := 9) (oi := ⟨some 54, .slice 23 (.tmp 50) none (some (.tmp 53)) none, 23, "room.go:104", #[⟨5, .data⟩, ⟨8, .data⟩], none⟩) (v := ?_) rfl (by kernel_rfl) (by kernel_rfl) (by kernel_rfl) (by kernel_rfl) (fun _ _ _ h => h) (Or.inl ⟨by rfl, ?_⟩) (by assumption) ?_
      rotate_left
      · intro wz hSz; (try dsimp only at hSz); go_simp; all_goals (with_reducible rfl)
      (try simp only [Act.put, List.setIfInBounds_toArray, List.set_cons_zero, List.set_cons_succ])
      refine wpAnyE_take (i := 10) (oi := ⟨some 55, .build 25 #[(0, .tmp 49), (1, .tmp 54)], 25, "room.go:104", #[⟨4, .data⟩, ⟨9, .data⟩], none⟩) (v := ?_) rfl (by kernel_rfl) (by kernel_rfl) (by kernel_rfl) (by kernel_rfl) (fun _ _ _ h => h) (Or.inl ⟨by rfl, ?_⟩) (by assumption) ?_
      rotate_left
      · intro wz hSz; (try dsimp only at hSz); go_simp; all_goals (with_reducible rfl)
      (try simp only [Act.put, List.setIfInBounds_toArray, List.set_cons_zero, List.set_cons_succ])
      refine wpAnyE_last (o := ⟨none, .store 25 (.tmp 4) (.tmp 55), 0, "room.go:104", #[⟨10, .data⟩, ⟨0, .phase⟩, ⟨1, .phase⟩, ⟨2, .phase⟩, ⟨3, .phase⟩, ⟨4, .phase⟩, ⟨5, .phase⟩, ⟨6, .phase⟩, ⟨7, .phase⟩, ⟨8, .phase⟩, ⟨9, .phase⟩, ⟨10, .phase⟩], none⟩) (by kernel_rfl) rfl (by kernel_rfl) (by rfl) (fun K hK => ?_)
      go_simp
      refine hK _ _ ?_
      refine NoPanic.normal ?_
      clear hK K hHeld
      have ks : Ky o3 3 W3.drew ((W3.drew.setCell ⟨W.heap.size + 1, 0, none⟩ (.slice (some ⟨gG, 0, none⟩) G.length kG)).setCell ⟨W.heap.size + 1, 1, none⟩ (.slice (some ⟨gC, 0, none⟩) C.length kC)) := (Ky.set m13).trans (Ky.set m13)
      have bD : Below W3.heap.size W3 W3.drew := (Below.refl _ _).drew
      have bF : Below W.heap.size W3 ((W3.drew.setCell ⟨W.heap.size + 1, 0, none⟩ (.slice (some ⟨gG, 0, none⟩) G.length kG)).setCell ⟨W.heap.size + 1, 1, none⟩ (.slice (some ⟨gC, 0, none⟩) C.length kC)) := (((Below.refl _ _).drew).setCell (p := ⟨W.heap.size + 1, 0, none⟩) (Nat.le_succ _) _).setCell (p := ⟨W.heap.size + 1, 1, none⟩) (Nat.le_succ _) _
      have KF := (KA3.drew.set 0 (by simp) (.slice (some ⟨gG, 0, none⟩) G.length kG)).set 1 (by simp) (.slice (some ⟨gC, 0, none⟩) C.length kC)
      simp only [List.setIfInBounds_toArray, List.set_cons_succ, List.set_cons_zero] at KF
      obtain ⟨_, d4, _⟩ := KF
      go_wp2_with fail
      (try simp only [Exit.inBlock, Exit.then])
      refine bodyPost_ret (v := .agg #[.slice (some ⟨gG, 0, none⟩) G.length kG, .slice (some ⟨gC, 0, none⟩) C.length kC]) (by simp [results, Tryz.results24, go_sem, d1]) rfl ?_
      exact ⟨o3, gG, kG, gC, kC, V3, rfl, by have h := (hR3.below bD).ky ks (by decide) (by decide) (by decide); rw [e7.out] at h; subst hF2; exact h, (hK1.out.trans hK13.out).belw bF (fun _ _ => rfl), capG, capC, (hFG3.out.mv (Mv.below bD)).mv (ks.mv (by decide)), (hFC3.out.mv (Mv.below bD)).mv (ks.mv (by decide))⟩
    · go_simp
      have bbB := b0.alloc b0.size (.cells #[.int .i64 4444, .int .i64 0, .int .i64 0, .int .i64 0, .int .i64 4444, .int .i64 0, .int .i64 0, .int .i64 0] 93)
      refine hK.out _ _ ?_ (fun hHeld => ?_)
      · (try dsimp only)
        exact ⟨(KP2.below bbB).2.1 1, (KC2.below bbB).2.1 0, (KC2.below bbB).2.1 1, (KC2.below bbB).2.1 2, (KC2.below bbB).2.1 3⟩
      clear hK K
      (try simp only [Act.put, List.setIfInBounds_toArray, List.set_cons_zero, List.set_cons_succ])
      have bXB : Below W.heap.size W (wG.drew.alloc (.cells #[.int .i64 4444, .int .i64 0, .int .i64 0, .int .i64 0, .int .i64 4444, .int .i64 0, .int .i64 0, .int .i64 0] 93)) := bX0.alloc bX0.size (.cells #[.int .i64 4444, .int .i64 0, .int .i64 0, .int .i64 0, .int .i64 4444, .int .i64 0, .int .i64 0, .int .i64 0] 93)
      have hcb := cells_at (W := wG.drew) (b := wG.heap.size) rfl [.int .i64 4444, .int .i64 0, .int .i64 0, .int .i64 0, .int .i64 4444, .int .i64 0, .int .i64 0, .int .i64 0] 93
      have hzb : wG.heap.size < (wG.drew.alloc (.cells #[.int .i64 4444, .int .i64 0, .int .i64 0, .int .i64 0, .int .i64 4444, .int .i64 0, .int .i64 0, .int .i64 0] 93)).heap.size := by rw [World.size_alloc]; exact Nat.lt_succ_self _
      refine wpAnyH_ready (rs := [2]) (by kernel_rfl) (by simp) ?_
      refine (AllReadyH.cons (o := ⟨some 20, .call { callee := Callee.builtin Builtin.append, args := #[.const (Value.slice none 0 0), .tmp 19], argTypes := #[23, 23] }, 23, "room.go:101", #[⟨1, .data⟩], none⟩) rfl (fun K hK => ?_) AllReadyH.nil)
      refine step_copy rfl _ _ 23 rfl 93 tj _ 4 32 Tryz.underlying23 hj hj0 hj1 hj2 rfl (by decide) ca C.length cc (cellsF Cf.cs C) rfl rfl (cellsF_len cf_len C) (hNC _ bXB).1 (cellsF_one cf_one C) (hNC _ bXB).2 (by unfold maxLen; omega) (by omega) ?_
      intro a1 k1 w2 o2 b2
      have bb5 : Below wG.heap.size wG w2 := bel_after bbB bbB.size b2
      have o5 := own_mono o2 bbB.size
      refine hK.out _ _ ?_ (fun hHeld => ?_)
      · (try dsimp only)
        exact ⟨(KP2.below bb5).2.1 1, (KC2.below bb5).2.1 0, (KC2.below bb5).2.1 1, (KC2.below bb5).2.1 2, (KC2.below bb5).2.1 3⟩
      clear hK K
      (try simp only [Act.put, List.setIfInBounds_toArray, List.set_cons_zero, List.set_cons_succ])
      have hc5 : ∀ j u, ([.int .i64 4444, .int .i64 0, .int .i64 0, .int .i64 0, .int .i64 4444, .int .i64 0, .int .i64 0, .int .i64 0] : List Value)[j]? = some u → w2.cell? ((⟨wG.heap.size, 0, none⟩ : Addr).add j) = some u := by
        intro j u hu
        have h := hcb j u hu
        rw [Go.WideShapes.add_plain] at h ⊢
        exact (b2.cell (p := ⟨wG.heap.size, _, none⟩) hzb).trans h
      refine wpAnyH_ready (rs := [6]) (by kernel_rfl) (by simp) ?_
      refine (AllReadyH.cons (o := ⟨some 24, .call { callee := Callee.builtin Builtin.append, args := #[.tmp 20, .tmp 23], argTypes := #[23, 23] }, 23, "room.go:101", #[⟨2, .data⟩, ⟨5, .data⟩, ⟨2, .chain⟩], none⟩) rfl (fun K hK => ?_) AllReadyH.nil)
      refine step_append_lies _ rfl _ _ 23 rfl wG.heap.size 93 tj _ 4 32 Tryz.underlying23 hj hj0 hj1 hj2 rfl (by decide) (.slice a1 C.length k1) C.length (cellsF Cf.cs C) rfl o5 ⟨wG.heap.size, 0, none⟩ 2 2 [.int .i64 4444, .int .i64 0, .int .i64 0, .int .i64 0, .int .i64 4444, .int .i64 0, .int .i64 0, .int .i64 0] rfl rfl hc5 (all_one rfl) (by decide) (by unfold maxLen; omega) (by omega) bb5.size _ rfl ?_
      intro gC kC wC oC gr6 hl6 hz6
      have bC : Below wG.heap.size wG wC := grown_bel bb5 gr6 (Nat.le_refl _) (fun q hq => (own_lt o5 q hq).1)
      refine hK.out _ _ ?_ (fun hHeld => ?_)
      · (try dsimp only)
        exact ⟨(KP2.below bC).2.1 1, (KC2.below bC).2.1 0, (KC2.below bC).2.1 1, (KC2.below bC).2.1 2, (KC2.below bC).2.1 3⟩
      clear hK K
      (try simp only [Act.put, List.setIfInBounds_toArray, List.set_cons_zero, List.set_cons_succ])
      refine tkY 7 ⟨some 8, .assign (.tmp 24), 23, "room.go:101", #[⟨6, .data⟩, ⟨6, .chain⟩, ⟨0, .phase⟩, ⟨1, .phase⟩, ⟨2, .phase⟩, ⟨3, .phase⟩, ⟨4, .phase⟩, ⟨5, .phase⟩, ⟨6, .phase⟩], none⟩ ?_ rfl ⟨by rfl, ?_⟩ ?_
      rotate_left
      · intro wz hSz; (try dsimp only at hSz); go_simp; all_goals (with_reducible rfl)
      (try simp only [Act.put, List.setIfInBounds_toArray, List.set_cons_zero, List.set_cons_succ])
      refine wpAnyH_done (by kernel_rfl) ?_ _
      refine NoPanic.normal ?_
      clear o5 gr6 hl6 hz6 o2 b2 hHeld bX0 b0 hc5
      clear bb5 bbB bXB hcb hzb
      have b9 : Below W1.heap.size W1 wC := bel_after bG bG.size bC
      have hmG : MkP (rS 6) (rO 6) (rV 6) (nwO W1.heap.size) wC ⟨gG, G.length + 2, kG⟩ := rm_mark (n := G.length) (own_bel oG bC) (cellsF_len gp_len G) lG (Nat.le_refl _) (by rfl) (by rfl)
      have hmC : MkP (rS 7) (rO 7) (rV 7) (nwO W1.heap.size) wC ⟨gC, C.length + 2, kC⟩ := rm_mark (n := C.length) oC (cellsF_len cf_len C) lC bG.size (by rfl) (by rfl)
      have hFG := hideQ (fz_own0 (own_bel oG bC) (Nat.le_refl _))
      have hFC := hideQ (fz_own0 oC bG.size)
      have capG : G.length + 2 ≤ kG := own_capR oG (by omega)
      have capC : C.length + 2 ≤ kC := own_capR oC (by omega)
      clear bC bG KP2 KC2 hX2 oG oC
      have hR6 := hR1.below b9
      have hF6 := (hR6.fl 6 (by decide)).own.own
      have c6 := hR6.cl 6 (by decide)
      have f6 := hR6.fz 6
      have l6 := hR6.lt
      obtain ⟨fa, fc, hV⟩ := own_form hF6
      have hVh := hideQ hV
      rw [hV] at c6 hF6
      have hb7 := bel1 (w := wC) (.cells #[.slice (some ⟨gG, 0, none⟩) (G.length + 2) kG] 22)
      have hF7 := own_bel hF6 hb7
      have s7 : B ≤ (wC.alloc (.cells #[.slice (some ⟨gG, 0, none⟩) (G.length + 2) kG] 22)).heap.size := by have := hR6.bb; simp; omega
      clear hR6 hV hF6
      go_upto_region 6 with (at_builtin; (refine wpList_append_mine _ rfl _ _ 40 rfl B 22 tk _ 1 24 Tryz.underlying40 hk hk0 hk1 hk2 rfl (by decide) (.slice fa (F 6).length fc) (F 6).length (cellsF Lr.cs (F 6)) rfl hF7 ⟨wC.heap.size, 0, none⟩ 1 1 [.slice (some ⟨gG, 0, none⟩) (G.length + 2) kG] rfl rfl (cells_at (W := wC) rfl _ _) (all_one rfl) (by decide) (by unfold maxLen; omega) (by omega) s7 ?_); intro g7 k7 w7 o7 gr7 at7 _ hc7; have q7 := rm_gw hR1 (k := 6) (by decide) (bel_after b9 b9.size hb7) (by rw [hVh.out]; exact gr7) (by rw [hVh.out]; exact at7); have c7 := (cell_heap (j := 6) (q7.ky.block rb hR1.lt (by rw [hR1.ob]; decide))).trans (hR1.cl 6 (by decide)); rw [hVh.out] at c7; have f7 := rm_fz hR1 q7 6; have l7 : rb < w7.heap.size := Nat.lt_of_lt_of_le hR1.lt q7.ky.size)
      have hP := hR1.push (r := ⟨gG, G.length + 2, kG⟩) (by decide) q7 o7 ((hmG.mv (Mv.below hb7)).mv q7.mvI)
      have hmC2 := ((hmC.mv (Mv.below hb7)).mv q7.mvI).mv (hR1.ksm 16 g7 6 (.slice (some ⟨g7, 0, none⟩) ((F 6).length + 1) k7) w7)
      have hFG2 := hideQ (((hFG.out.mv (Mv.below hb7)).mv q7.mvI).mv (hR1.ksm 16 g7 6 (.slice (some ⟨g7, 0, none⟩) ((F 6).length + 1) k7) w7))
      have hFC2 := hideQ (((hFC.out.mv (Mv.below hb7)).mv q7.mvI).mv (hR1.ksm 16 g7 6 (.slice (some ⟨g7, 0, none⟩) ((F 6).length + 1) k7) w7))
      obtain ⟨hRp, hKp⟩ := hP
      replace hKp := hideQ hKp
      have e7 : Hid (upd F 6 (F 6 ++ [(⟨gG, G.length + 2, kG⟩ : Lr)]) 7 = F 7) := upd_other _ _ (by decide)
      clear c6 f6 l6 c7 f7 l7 hF7 s7 hmG hmC hFG hFC hVh q7 o7 gr7 at7 hc7 hb7 b9
      generalize hF2 : upd F 6 (F 6 ++ [(⟨gG, G.length + 2, kG⟩ : Lr)]) = F2 at *
      generalize mkO o1 W1.heap.size (10 + 6) g7 = o2 at *
      generalize w7.setCell ⟨rb, 6, none⟩ (.slice (some ⟨g7, 0, none⟩) ((F 6).length + 1) k7) = Wp at *
      generalize upd V 6 (.slice (some ⟨g7, 0, none⟩) ((F 6).length + 1) k7) = V2 at *
      have bP : Below Wp.heap.size Wp Wp := Below.refl _ _
      have hb77 : (F2 7).length ≤ 5864062014000 := by rw [e7.out]; exact hb7'
      have hR6 := hRp.below bP
      have hF6 := (hR6.fl 7 (by decide)).own.own
      have c6 := hR6.cl 7 (by decide)
      have f6 := hR6.fz 7
      have l6 := hR6.lt
      obtain ⟨fa, fc, hV⟩ := own_form hF6
      have hVh := hideQ hV
      rw [hV] at c6 hF6
      have hb7 := bel1 (w := Wp) (.cells #[.slice (some ⟨gC, 0, none⟩) (C.length + 2) kC] 23)
      have hF7 := own_bel hF6 hb7
      have s7 : B ≤ (Wp.alloc (.cells #[.slice (some ⟨gC, 0, none⟩) (C.length + 2) kC] 23)).heap.size := by have := hR6.bb; simp; omega
      clear hR6 hV hF6
      go_upto_region 7 with (at_builtin; (refine wpList_append_mine _ rfl _ _ 41 rfl B 23 tl _ 1 24 Tryz.underlying41 hl hl0 hl1 hl2 rfl (by decide) (.slice fa (F2 7).length fc) (F2 7).length (cellsF Lr.cs (F2 7)) rfl hF7 ⟨Wp.heap.size, 0, none⟩ 1 1 [.slice (some ⟨gC, 0, none⟩) (C.length + 2) kC] rfl rfl (cells_at (W := Wp) rfl _ _) (all_one rfl) (by decide) (by unfold maxLen; omega) (by omega) s7 ?_); intro g8 k8 w8 o8 gr8 at8 _ hc8; have q8 := rm_gw hRp (k := 7) (by decide) (bel_after bP bP.size hb7) (by rw [hVh.out]; exact gr8) (by rw [hVh.out]; exact at8); have c7 := (cell_heap (j := 7) (q8.ky.block rb hRp.lt (by rw [hRp.ob]; decide))).trans (hRp.cl 7 (by decide)); rw [hVh.out] at c7; have f7 := rm_fz hRp q8 7; have l7 : rb < w8.heap.size := Nat.lt_of_lt_of_le hRp.lt q8.ky.size)
      have hP := hRp.push (r := ⟨gC, C.length + 2, kC⟩) (by decide) q8 o8 (hmC2.mv q8.mv)
      obtain ⟨hR3, hK3⟩ := hP
      replace hK3 := hideQ hK3
      have hFG3 := hideQ (hFG2.out.mv hK3.out.mv)
      have hFC3 := hideQ (hFC2.out.mv hK3.out.mv)
      clear c6 f6 l6 c7 f7 l7 hF7 s7 hVh q8 o8 gr8 at8 hc8 hb7 bP hmC2 hFG2 hFC2 hRp
      have hK13 := hideQ (hKp.out.trans hK3.out)
      have m13 : mkO o2 Wp.heap.size (10 + 7) g8 (W.heap.size + 1) = 3 := by rw [hK13.out.old _ (by have := z1.out; omega)]; exact m1
      have KP3 := hK13.out.has KP (by rw [m0]; decide) (by rw [m0]; decide)
      have KA3 := hK13.out.has KA (by rw [m1]; decide) (by rw [m1]; decide)
      clear KP KA hKp hK3
      generalize mkO o2 Wp.heap.size (10 + 7) g8 = o3 at *
      generalize w8.setCell ⟨rb, 7, none⟩ (.slice (some ⟨g8, 0, none⟩) ((F2 7).length + 1) k8) = W3 at *
      generalize upd V2 7 (.slice (some ⟨g8, 0, none⟩) ((F2 7).length + 1) k8) = V3 at *
      obtain ⟨_, p1, _⟩ := id KP3
      obtain ⟨_, d1, d2⟩ := id KA3
      have i1 : (G.length : Int) ≤ (kG : Int) := by omega
      have i2 : (C.length : Int) ≤ (kC : Int) := by omega
      have i3 : (0 : Int) ≤ (G.length : Int) := by omega
      have i4 : (0 : Int) ≤ (C.length : Int) := by omega
      have i5 : G.length ≤ kG := by omega
      have i6 : C.length ≤ kC := by omega
      go_wp2_with fail
      refine wp_region_noPanic ?_
      refine wp_region_E (S := fun w' => w'.cell? ⟨W.heap.size, 0, none⟩ = some (.slice ga G.length gc) ∧ w'.cell? ⟨W.heap.size, 1, none⟩ = some (.slice ca C.length cc)) (E := 11) (by kernel_rfl) ?_ (fun hHeld => ?_)
      · (try dsimp only)
        exact ⟨KP3.2.1 0, KP3.2.1 1⟩
      refine wpAnyE_take (i := 0) (oi := ⟨some 45, .move (.tmp 7), 22, "room.go:104", #[], none⟩) (v := ?_) rfl (by kernel_rfl) (by kernel_rfl) (by kernel_rfl) (by kernel_rfl) (fun _ _ _ h => h) (Or.inl ⟨by rfl, ?_⟩) (by assumption) ?_
      rotate_left
      · intro wz hSz; (try dsimp only at hSz); go_simp; all_goals (with_reducible rfl)
      (try simp only [Act.put, List.setIfInBounds_toArray, List.set_cons_zero, List.set_cons_succ])
      refine wpAnyE_take (i := 1) (oi := ⟨some 46, .fieldAddr 25 (.tmp 3) 0, 0, "room.go:104", #[], none⟩) (v := ?_) rfl (by kernel_rfl) (by kernel_rfl) (by kernel_rfl) (by kernel_rfl) (fun _ _ _ h => h) (Or.inl ⟨by rfl, ?_⟩) (by assumption) ?_
      rotate_left
      · intro wz hSz; (try dsimp only at hSz); go_simp; all_goals (with_reducible rfl)
      (try simp only [Act.put, List.setIfInBounds_toArray, List.set_cons_zero, List.set_cons_succ])
      refine wpAnyE_take (i := 2) (oi := ⟨some 47, .load 22 (.tmp 46), 22, "room.go:104", #[⟨1, .data⟩], none⟩) (v := ?_) rfl (by kernel_rfl) (by kernel_rfl) (by kernel_rfl) (by kernel_rfl) (fun _ _ _ h => h) (Or.inl ⟨by rfl, ?_⟩) (by assumption) ?_
      rotate_left
      · intro wz hSz; (try dsimp only at hSz); go_simp; all_goals (with_reducible rfl)
      (try simp only [Act.put, List.setIfInBounds_toArray, List.set_cons_zero, List.set_cons_succ])
      refine wpAnyE_take (i := 3) (oi := ⟨some 48, .call { callee := Callee.builtin Builtin.len, args := #[.tmp 47], argTypes := #[22] }, 3, "room.go:104", #[⟨2, .data⟩], none⟩) (v := ?_) rfl (by kernel_rfl) (by kernel_rfl) (by kernel_rfl) (by kernel_rfl) (fun _ _ _ h => h) (Or.inl ⟨by rfl, ?_⟩) (by assumption) ?_
      rotate_left
      · intro wz hSz; (try dsimp only at hSz); go_simp; all_goals (with_reducible rfl)
      (try simp only [Act.put, List.setIfInBounds_toArray, List.set_cons_zero, List.set_cons_succ])
      refine wpAnyE_take (i := 4) (oi := ⟨some 49, .slice 22 (.tmp 45) none (some (.tmp 48)) none, 22, "room.go:104", #[⟨0, .data⟩, ⟨3, .data⟩], none⟩) (v := ?_) rfl (by kernel_rfl) (by kernel_rfl) (by kernel_rfl) (by kernel_rfl) (fun _ _ _ h => h) (Or.inl ⟨by rfl, ?_⟩) (by assumption) ?_
      rotate_left
      · intro wz hSz; (try dsimp only at hSz); go_simp; all_goals (with_reducible rfl)
      (try simp only [Act.put, List.setIfInBounds_toArray, List.set_cons_zero, List.set_cons_succ])
      refine wpAnyE_take (i := 5) (oi := ⟨some 50, .move (.tmp 8), 23, "room.go:104", #[], none⟩) (v := ?_) rfl (by kernel_rfl) (by kernel_rfl) (by kernel_rfl) (by kernel_rfl) (fun _ _ _ h => h) (Or.inl ⟨by rfl, ?_⟩) (by assumption) ?_
      rotate_left
      · intro wz hSz; (try dsimp only at hSz); go_simp; all_goals (with_reducible rfl)
      (try simp only [Act.put, List.setIfInBounds_toArray, List.set_cons_zero, List.set_cons_succ])
      refine wpAnyE_take (i := 6) (oi := ⟨some 51, .fieldAddr 25 (.tmp 3) 1, 0, "room.go:104", #[], none⟩) (v := ?_) rfl (by kernel_rfl) (by kernel_rfl) (by kernel_rfl) (by kernel_rfl) (fun _ _ _ h => h) (Or.inl ⟨by rfl, ?_⟩) (by assumption) ?_
      rotate_left
      · intro wz hSz; (try dsimp only at hSz); go_simp; all_goals (with_reducible rfl)
      (try simp only [Act.put, List.setIfInBounds_toArray, List.set_cons_zero, List.set_cons_succ])
      refine wpAnyE_take (i := 7) (oi := ⟨some 52, .load 23 (.tmp 51), 23, "room.go:104", #[⟨6, .data⟩], none⟩) (v := ?_) rfl (by kernel_rfl) (by kernel_rfl) (by kernel_rfl) (by kernel_rfl) (fun _ _ _ h => h) (Or.inl ⟨by rfl, ?_⟩) (by assumption) ?_
      rotate_left
      · intro wz hSz; (try dsimp only at hSz); go_simp; all_goals (with_reducible rfl)
      (try simp only [Act.put, List.setIfInBounds_toArray, List.set_cons_zero, List.set_cons_succ])
      refine wpAnyE_take (i := 8) (oi := ⟨some 53, .call { callee := Callee.builtin Builtin.len, args := #[.tmp 52], argTypes := #[23] }, 3, "room.go:104", #[⟨7, .data⟩], none⟩) (v := ?_) rfl (by kernel_rfl) (by kernel_rfl) (by kernel_rfl) (by kernel_rfl) (fun _ _ _ h => h) (Or.inl ⟨by rfl, ?_⟩) (by assumption) ?_
      rotate_left
      · intro wz hSz; (try dsimp only at hSz); go_simp; all_goals (with_reducible rfl)
      (try simp only [Act.put, List.setIfInBounds_toArray, List.set_cons_zero, List.set_cons_succ])
      refine wpAnyE_take (i := 9) (oi := ⟨some 54, .slice 23 (.tmp 50) none (some (.tmp 53)) none, 23, "room.go:104", #[⟨5, .data⟩, ⟨8, .data⟩], none⟩) (v := ?_) rfl (by kernel_rfl) (by kernel_rfl) (by kernel_rfl) (by kernel_rfl) (fun _ _ _ h => h) (Or.inl ⟨by rfl, ?_⟩) (by assumption) ?_
      rotate_left
      · intro wz hSz; (try dsimp only at hSz); go_simp; all_goals (with_reducible rfl)
      (try simp only [Act.put, List.setIfInBounds_toArray, List.set_cons_zero, List.set_cons_succ])
      refine wpAnyE_take (i := 10) (oi := ⟨some 55, .build 25 #[(0, .tmp 49), (1, .tmp 54)], 25, "room.go:104", #[⟨4, .data⟩, ⟨9, .data⟩], none⟩) (v := ?_) rfl (by kernel_rfl) (by kernel_rfl) (by kernel_rfl) (by kernel_rfl) (fun _ _ _ h => h) (Or.inl ⟨by rfl, ?_⟩) (by assumption) ?_
      rotate_left
      · intro wz hSz; (try dsimp only at hSz); go_simp; all_goals (with_reducible rfl)
      (try simp only [Act.put, List.setIfInBounds_toArray, List.set_cons_zero, List.set_cons_succ])
      refine wpAnyE_last (o := ⟨none, .store 25 (.tmp 4) (.tmp 55), 0, "room.go:104", #[⟨10, .data⟩, ⟨0, .phase⟩, ⟨1, .phase⟩, ⟨2, .phase⟩, ⟨3, .phase⟩, ⟨4, .phase⟩, ⟨5, .phase⟩, ⟨6, .phase⟩, ⟨7, .phase⟩, ⟨8, .phase⟩, ⟨9, .phase⟩, ⟨10, .phase⟩], none⟩) (by kernel_rfl) rfl (by kernel_rfl) (by rfl) (fun K hK => ?_)
      go_simp
      refine hK _ _ ?_
      refine NoPanic.normal ?_
      clear hK K hHeld
      have ks : Ky o3 3 W3.drew ((W3.drew.setCell ⟨W.heap.size + 1, 0, none⟩ (.slice (some ⟨gG, 0, none⟩) G.length kG)).setCell ⟨W.heap.size + 1, 1, none⟩ (.slice (some ⟨gC, 0, none⟩) C.length kC)) := (Ky.set m13).trans (Ky.set m13)
      have bD : Below W3.heap.size W3 W3.drew := (Below.refl _ _).drew
      have bF : Below W.heap.size W3 ((W3.drew.setCell ⟨W.heap.size + 1, 0, none⟩ (.slice (some ⟨gG, 0, none⟩) G.length kG)).setCell ⟨W.heap.size + 1, 1, none⟩ (.slice (some ⟨gC, 0, none⟩) C.length kC)) := (((Below.refl _ _).drew).setCell (p := ⟨W.heap.size + 1, 0, none⟩) (Nat.le_succ _) _).setCell (p := ⟨W.heap.size + 1, 1, none⟩) (Nat.le_succ _) _
      have KF := (KA3.drew.set 0 (by simp) (.slice (some ⟨gG, 0, none⟩) G.length kG)).set 1 (by simp) (.slice (some ⟨gC, 0, none⟩) C.length kC)
      simp only [List.setIfInBounds_toArray, List.set_cons_succ, List.set_cons_zero] at KF
      obtain ⟨_, d4, _⟩ := KF
      go_wp2_with fail
      (try simp only [Exit.inBlock, Exit.then])
      refine bodyPost_ret (v := .agg #[.slice (some ⟨gG, 0, none⟩) G.length kG, .slice (some ⟨gC, 0, none⟩) C.length kC]) (by simp [results, Tryz.results24, go_sem, d1]) rfl ?_
      exact ⟨o3, gG, kG, gC, kC, V3, rfl, by have h := (hR3.below bD).ky ks (by decide) (by decide) (by decide); rw [e7.out] at h; subst hF2; exact h, (hK1.out.trans hK13.out).belw bF (fun _ _ => rfl), capG, capC, (hFG3.out.mv (Mv.below bD)).mv (ks.mv (by decide)), (hFC3.out.mv (Mv.below bD)).mv (ks.mv (by decide))⟩
end Go.Proofs.YtnicolaphmffkaaGreatDoor
