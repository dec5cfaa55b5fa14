import Derived.Test.YthflpnahifpdnaaSpL
import Derived.Test.YthflpnahifpdnaaSpJ
import Derived.Deep.RegionHeld3
namespace Go.Proofs.Ythflpnahifpdnaa
open Go.RowKit
set_option linter.unusedVariables false

set_option maxRecDepth 100000 in
set_option maxHeartbeats 4000000 in
theorem allRed_any (n : Nat) (w : World) (h64 : n ≤ 64) :
    Calls Try.prog 37 #[.int .i64 (n : Int)] w fun e w' => (∃ r p0 p1, e = .returned (.agg #[.slice (some ⟨r, 0, none⟩) n n, .slice (some ⟨p0, 0, none⟩) n n, .slice (some ⟨p1, 0, none⟩) n n]) ∧ w'.ownsRow w.heap.size 3 1 (.slice (some ⟨r, 0, none⟩) n n) n (valR n (fun _ => 0)) ∧ w'.ownsRow w.heap.size 21 1 (.slice (some ⟨p0, 0, none⟩) n n) n (v32 n (fun _ => 1)) ∧ w'.ownsRow w.heap.size 21 1 (.slice (some ⟨p1, 0, none⟩) n n) n (v32 n (fun _ => 1)) ∧ r ≠ p0 ∧ r ≠ p1 ∧ p0 ≠ p1) ∧ Below w.heap.size w w' := by
  have R0 : Has (w.alloc (.cells #[.slice none 0 0, .slice none 0 0, .slice none 0 0] 37)) w.heap.size #[.slice none 0 0, .slice none 0 0, .slice none 0 0] := Has.new _ _ _ rfl
  have hb0 : Below w.heap.size w (w.alloc (.cells #[.slice none 0 0, .slice none 0 0, .slice none 0 0] 37)) := belN1
  have zz : (w.alloc (.cells #[.slice none 0 0, .slice none 0 0, .slice none 0 0] 37)).heap.size = w.heap.size + 1 := by simp
  go_enter Try.func37, Try.ntmps37
  go_upto_region 1 with fail
  generalize (w.alloc (.cells #[.slice none 0 0, .slice none 0 0, .slice none 0 0] 37)) = W0 at *
  refine wp_region_noPanic ?_
  refine wp_region_held_drew (S := fun w' => w'.cell? ⟨w.heap.size, 0, none⟩ = some (.slice none 0 0)) (by kernel_rfl) ?_ (fun hHeld => ?_)
  · (try dsimp only)
    exact R0.drew.2.1 0
  refine wpAnyH_take (i := 0) (oi := { dst := some 5, op := Op.move (Operand.tmp 0), type := 3, pos := "picture.go:17", after := #[], guard := none }) (v := ?_) rfl (by kernel_rfl) (by kernel_rfl) (by kernel_rfl) (fun _ _ _ h => h) (Or.inl ⟨by rfl, ?_⟩) (by assumption) ?_
  rotate_left
  · intro wz hSz; (try dsimp only at hSz); go_simp; all_goals (with_reducible rfl)
  (try simp only [Act.put, List.setIfInBounds_toArray, List.set_cons_zero, List.set_cons_succ])
  refine wpAnyH_take (i := 2) (oi := { dst := some 7, op := Op.move (Operand.tmp 0), type := 3, pos := "picture.go:17", after := #[], guard := none }) (v := ?_) rfl (by kernel_rfl) (by kernel_rfl) (by kernel_rfl) (fun _ _ _ h => h) (Or.inl ⟨by rfl, ?_⟩) (by assumption) ?_
  rotate_left
  · intro wz hSz; (try dsimp only at hSz); go_simp; all_goals (with_reducible rfl)
  (try simp only [Act.put, List.setIfInBounds_toArray, List.set_cons_zero, List.set_cons_succ])
  refine wpAnyH_take (i := 4) (oi := { dst := some 9, op := Op.move (Operand.tmp 0), type := 3, pos := "picture.go:17", after := #[], guard := none }) (v := ?_) rfl (by kernel_rfl) (by kernel_rfl) (by kernel_rfl) (fun _ _ _ h => h) (Or.inl ⟨by rfl, ?_⟩) (by assumption) ?_
  rotate_left
  · intro wz hSz; (try dsimp only at hSz); go_simp; all_goals (with_reducible rfl)
  (try simp only [Act.put, List.setIfInBounds_toArray, List.set_cons_zero, List.set_cons_succ])
  refine regR48 n _ W0.drew h64 _ _ (fun X hX => (R0.drew.below hX).2.1 0) ?_ _ (of_decide_eq_true (by kernel_rfl))
  intro r p0 p1 p X hbX o0 o1 o2 HX hp nrp n0p n1p n_r0 n_r1 n01
  refine NoPanic.normal ?_
  have zd : W0.drew.heap.size = w.heap.size + 1 := zz
  have q0 := (own_lt o0 r rfl).1
  have q1 := (own_lt o1 p0 rfl).1
  have q2 := (own_lt o2 p1 rfl).1
  rw [zd] at q0 q1 q2 hp
  have hbW : Below w.heap.size w X := bel_after hb0.drew (by rw [zd]; omega) hbX
  have RX := R0.drew.below hbX
  have o0' := own_base o0 (show w.heap.size ≤ W0.drew.heap.size by rw [zd]; omega)
  have o1' := own_base o1 (show w.heap.size ≤ W0.drew.heap.size by rw [zd]; omega)
  have o2' := own_base o2 (show w.heap.size ≤ W0.drew.heap.size by rw [zd]; omega)
  rw [v32_zero] at o1' o2'
  rw [valR_zero] at o0'
  clear o0 o1 o2 hbX R0 hb0 zz zd
  go_wp2_with fail
  go_loopw [13] (fun t wr => ∃ (k : Nat) (f1 f2 : Nat → Int), k ≤ n ∧ t = .int .i64 (k : Int) ∧ Hid (wr.ownsRow w.heap.size 3 1 (.slice (some ⟨r, 0, none⟩) n n) n (valR n (fun _ => 0))) ∧ Hid (wr.ownsRow w.heap.size 21 1 (.slice (some ⟨p0, 0, none⟩) n n) n (v32 n f1)) ∧ Hid (wr.ownsRow w.heap.size 21 1 (.slice (some ⟨p1, 0, none⟩) n n) n (v32 n f2)) ∧ Hid (∀ j, j < k → f1 j = 1 ∧ f2 j = 1) ∧ Hid (Has wr p #[.slice (some ⟨r, 0, none⟩) n n, .slice (some ⟨p0, 0, none⟩) n n, .slice (some ⟨p1, 0, none⟩) n n]) ∧ Hid (Has wr w.heap.size #[.slice none 0 0, .slice none 0 0, .slice none 0 0]) ∧ Hid (Below w.heap.size w wr)) (fun t _ => n - (intOf t).toNat)
  case atStart => exact ⟨0, _, _, by omega, rfl, o0', o1', o2', (fun j h => absurd h (Nat.not_lt_zero _)), HX, RX, hbW⟩
  case round =>
    clear o0' o1' o2' HX RX hbW
    obtain ⟨k, f1, f2, hkl, rfl, own1, own2, own3, fil, Hx, Rz, hb⟩ := hrel
    by_cases hlt : k < n
    · have t1 : (k : Int) < (n : Int) := by omega
      have t0 : (0 : Int) ≤ (k : Int) := by omega
      have t2 : k + 1 ≤ n := hlt
      have a1 : (wr.setCell ⟨r, k, none⟩ (.int .i64 0)).ownsRow w.heap.size 3 1 (.slice (some ⟨r, 0, none⟩) n n) n (valR n (fun _ => 0)) := by
        have := own_stored [.int .i64 0] wr _ k own1.out
        rw [valR_set hlt] at this
        have e : valR n (fun j => if j = k then 0 else 0) = valR n (fun _ => 0) := valR_ext fun j _ => by simp
        rw [e] at this
        exact this
      have a2 := own_far (i := k) (u := .int .i64 0) own2.out (Ne.symm n_r0)
      have a3 := own_far (i := k) (u := .int .i64 0) own3.out (Ne.symm n_r1)
      have b1 := own_far (i := k) (u := .int .i32 1) a1 n_r0
      have b2 := own_st32 a2 hlt 1
      have b3 := own_far (i := k) (u := .int .i32 1) a3 (Ne.symm n01)
      have c1 := own_far (i := k) (u := .int .i32 1) b1 n_r1
      have c2 := own_far (i := k) (u := .int .i32 1) b2 n01
      have c3 := own_st32 b3 hlt 1
      obtain ⟨y0, z0⟩ := own_some own1.out.drew k (by omega)
      have hfz0 := own1.out.drew.frozenAt
      obtain ⟨y1, z1⟩ := own_some a2.drew k (by omega)
      have hfz1 := a2.drew.frozenAt
      obtain ⟨y2, z2⟩ := own_some b3.drew k (by omega)
      have hfz2 := b3.drew.frozenAt
      go_upto_region 5 with fail
      refine wp_region_noPanic ?_
      refine wp_region_held_drew (S := fun w' => (w'.cell? ⟨p, 0, none⟩ = some (.slice (some ⟨r, 0, none⟩) n n) ∧ w'.cell? ⟨p, 1, none⟩ = some (.slice (some ⟨p0, 0, none⟩) n n) ∧ w'.cell? ⟨p, 2, none⟩ = some (.slice (some ⟨p1, 0, none⟩) n n))) (by kernel_rfl) ?_ (fun hHeld => ?_)
      · (try dsimp only)
        exact has3 Hx.out.drew
      refine wpAnyH_take (i := 0) (oi := { dst := some 16, op := Op.fieldAddr 37 (Operand.tmp 3) 0, type := 0, pos := "picture.go:19", after := #[], guard := none }) (v := ?_) rfl (by kernel_rfl) (by kernel_rfl) (by kernel_rfl) (fun _ _ _ h => h) (Or.inl ⟨by rfl, ?_⟩) (by assumption) ?_
      rotate_left
      · intro wz hSz; (try dsimp only at hSz); go_simp; all_goals (with_reducible rfl)
      (try simp only [Act.put, List.setIfInBounds_toArray, List.set_cons_zero, List.set_cons_succ])
      refine wpAnyH_take (i := 1) (oi := { dst := some 17, op := Op.load 34 (Operand.tmp 16), type := 34, pos := "picture.go:19", after := #[{ on := 0, ground := Ground.data }], guard := none }) (v := ?_) rfl (by kernel_rfl) (by kernel_rfl) (by kernel_rfl) (fun _ _ _ h => h) (Or.inl ⟨by rfl, ?_⟩) (by assumption) ?_
      rotate_left
      · intro wz hSz; (try dsimp only at hSz); go_simp; all_goals (with_reducible rfl)
      (try simp only [Act.put, List.setIfInBounds_toArray, List.set_cons_zero, List.set_cons_succ])
      refine wpAnyH_take (i := 2) (oi := { dst := some 18, op := Op.move (Operand.tmp 4), type := 3, pos := "picture.go:19", after := #[], guard := none }) (v := ?_) rfl (by kernel_rfl) (by kernel_rfl) (by kernel_rfl) (fun _ _ _ h => h) (Or.inl ⟨by rfl, ?_⟩) (by assumption) ?_
      rotate_left
      · intro wz hSz; (try dsimp only at hSz); go_simp; all_goals (with_reducible rfl)
      (try simp only [Act.put, List.setIfInBounds_toArray, List.set_cons_zero, List.set_cons_succ])
      refine wpAnyH_take (i := 3) (oi := { dst := some 19, op := Op.fieldAddr 37 (Operand.tmp 3) 1, type := 0, pos := "picture.go:19", after := #[{ on := 10, ground := Ground.gcOnly Departure.lateStores }], guard := none }) (v := ?_) rfl (by kernel_rfl) (by kernel_rfl) (by kernel_rfl) (fun _ _ _ h => h) (Or.inl ⟨by rfl, ?_⟩) (by assumption) ?_
      rotate_left
      · intro wz hSz; (try dsimp only at hSz); go_simp; all_goals (with_reducible rfl)
      (try simp only [Act.put, List.setIfInBounds_toArray, List.set_cons_zero, List.set_cons_succ])
      refine wpAnyH_take (i := 4) (oi := { dst := some 20, op := Op.load 35 (Operand.tmp 19), type := 35, pos := "picture.go:19", after := #[{ on := 3, ground := Ground.data }, { on := 10, ground := Ground.gcOnly Departure.lateStores }], guard := none }) (v := ?_) rfl (by kernel_rfl) (by kernel_rfl) (by kernel_rfl) (fun _ _ _ h => h) (Or.inl ⟨by rfl, ?_⟩) (by assumption) ?_
      rotate_left
      · intro wz hSz; (try dsimp only at hSz); go_simp; all_goals (with_reducible rfl)
      (try simp only [Act.put, List.setIfInBounds_toArray, List.set_cons_zero, List.set_cons_succ])
      refine wpAnyH_take (i := 5) (oi := { dst := some 21, op := Op.move (Operand.tmp 4), type := 3, pos := "picture.go:19", after := #[{ on := 10, ground := Ground.gcOnly Departure.lateStores }], guard := none }) (v := ?_) rfl (by kernel_rfl) (by kernel_rfl) (by kernel_rfl) (fun _ _ _ h => h) (Or.inl ⟨by rfl, ?_⟩) (by assumption) ?_
      rotate_left
      · intro wz hSz; (try dsimp only at hSz); go_simp; all_goals (with_reducible rfl)
      (try simp only [Act.put, List.setIfInBounds_toArray, List.set_cons_zero, List.set_cons_succ])
      refine wpAnyH_take (i := 6) (oi := { dst := some 22, op := Op.fieldAddr 37 (Operand.tmp 3) 2, type := 0, pos := "picture.go:19", after := #[{ on := 12, ground := Ground.gcOnly Departure.lateStores }], guard := none }) (v := ?_) rfl (by kernel_rfl) (by kernel_rfl) (by kernel_rfl) (fun _ _ _ h => h) (Or.inl ⟨by rfl, ?_⟩) (by assumption) ?_
      rotate_left
      · intro wz hSz; (try dsimp only at hSz); go_simp; all_goals (with_reducible rfl)
      (try simp only [Act.put, List.setIfInBounds_toArray, List.set_cons_zero, List.set_cons_succ])
      refine wpAnyH_take (i := 7) (oi := { dst := some 23, op := Op.load 35 (Operand.tmp 22), type := 35, pos := "picture.go:19", after := #[{ on := 6, ground := Ground.data }, { on := 12, ground := Ground.gcOnly Departure.lateStores }], guard := none }) (v := ?_) rfl (by kernel_rfl) (by kernel_rfl) (by kernel_rfl) (fun _ _ _ h => h) (Or.inl ⟨by rfl, ?_⟩) (by assumption) ?_
      rotate_left
      · intro wz hSz; (try dsimp only at hSz); go_simp; all_goals (with_reducible rfl)
      (try simp only [Act.put, List.setIfInBounds_toArray, List.set_cons_zero, List.set_cons_succ])
      refine wpAnyH_take (i := 8) (oi := { dst := some 24, op := Op.move (Operand.tmp 4), type := 3, pos := "picture.go:19", after := #[{ on := 12, ground := Ground.gcOnly Departure.lateStores }], guard := none }) (v := ?_) rfl (by kernel_rfl) (by kernel_rfl) (by kernel_rfl) (fun _ _ _ h => h) (Or.inl ⟨by rfl, ?_⟩) (by assumption) ?_
      rotate_left
      · intro wz hSz; (try dsimp only at hSz); go_simp; all_goals (with_reducible rfl)
      (try simp only [Act.put, List.setIfInBounds_toArray, List.set_cons_zero, List.set_cons_succ])
      refine wpAnyH_take (i := 9) (oi := { dst := some 25, op := Op.indexAddr 34 (Operand.tmp 17) (Operand.tmp 18), type := 0, pos := "picture.go:19", after := #[{ on := 1, ground := Ground.data }, { on := 2, ground := Ground.data }, { on := 0, ground := Ground.phase }, { on := 1, ground := Ground.phase }, { on := 2, ground := Ground.phase }, { on := 3, ground := Ground.textOnly Departure.lateStores }, { on := 4, ground := Ground.textOnly Departure.lateStores }, { on := 5, ground := Ground.textOnly Departure.lateStores }, { on := 6, ground := Ground.textOnly Departure.lateStores }, { on := 7, ground := Ground.textOnly Departure.lateStores }, { on := 8, ground := Ground.textOnly Departure.lateStores }], guard := none }) (v := ?_) rfl (by kernel_rfl) (by kernel_rfl) (by kernel_rfl) (fun _ _ _ h => h) (Or.inl ⟨by rfl, ?_⟩) (by assumption) ?_
      rotate_left
      · intro wz hSz; (try dsimp only at hSz); go_simp; all_goals (with_reducible rfl)
      (try simp only [Act.put, List.setIfInBounds_toArray, List.set_cons_zero, List.set_cons_succ])
      refine wpAnyH_ready (rs := [10]) (by kernel_rfl) (by simp) ?_
      refine AllReadyH.cons (o := { dst := none, op := Op.store 3 (Operand.tmp 25) (Operand.const (Value.int IntKind.i64 0)), type := 0, pos := "picture.go:19", after := #[{ on := 9, ground := Ground.data }, { on := 0, ground := Ground.phase }, { on := 1, ground := Ground.phase }, { on := 2, ground := Ground.phase }, { on := 3, ground := Ground.textOnly Departure.lateStores }, { on := 4, ground := Ground.textOnly Departure.lateStores }, { on := 5, ground := Ground.textOnly Departure.lateStores }, { on := 6, ground := Ground.textOnly Departure.lateStores }, { on := 7, ground := Ground.textOnly Departure.lateStores }, { on := 8, ground := Ground.textOnly Departure.lateStores }], guard := none }) rfl (fun K hK => ?_) AllReadyH.nil
      go_simp
      refine hK.out _ _ ?_ (fun hHeld => ?_)
      · (try dsimp only)
        exact has3 (Hx.out.drew.far (Ne.symm nrp) _)
      clear hK K
      (try simp only [Act.put, List.setIfInBounds_toArray, List.set_cons_zero, List.set_cons_succ])
      refine wpAnyH_take (i := 11) (oi := { dst := some 26, op := Op.indexAddr 35 (Operand.tmp 20) (Operand.tmp 21), type := 0, pos := "picture.go:19", after := #[{ on := 4, ground := Ground.data }, { on := 5, ground := Ground.data }, { on := 0, ground := Ground.phase }, { on := 1, ground := Ground.phase }, { on := 2, ground := Ground.phase }, { on := 3, ground := Ground.phase }, { on := 4, ground := Ground.phase }, { on := 5, ground := Ground.phase }, { on := 6, ground := Ground.textOnly Departure.lateStores }, { on := 7, ground := Ground.textOnly Departure.lateStores }, { on := 8, ground := Ground.textOnly Departure.lateStores }, { on := 9, ground := Ground.phase }, { on := 10, ground := Ground.phase }], guard := none }) (v := ?_) rfl (by kernel_rfl) (by kernel_rfl) (by kernel_rfl) (fun _ _ _ h => h) (Or.inl ⟨by rfl, ?_⟩) (by assumption) ?_
      rotate_left
      · intro wz hSz; (try dsimp only at hSz); go_simp; all_goals (with_reducible rfl)
      (try simp only [Act.put, List.setIfInBounds_toArray, List.set_cons_zero, List.set_cons_succ])
      refine wpAnyH_ready (rs := [12]) (by kernel_rfl) (by simp) ?_
      refine AllReadyH.cons (o := { dst := none, op := Op.store 21 (Operand.tmp 26) (Operand.const (Value.int IntKind.i32 1)), type := 0, pos := "picture.go:19", after := #[{ on := 11, ground := Ground.data }, { on := 10, ground := Ground.chain }, { on := 0, ground := Ground.phase }, { on := 1, ground := Ground.phase }, { on := 2, ground := Ground.phase }, { on := 3, ground := Ground.phase }, { on := 4, ground := Ground.phase }, { on := 5, ground := Ground.phase }, { on := 6, ground := Ground.textOnly Departure.lateStores }, { on := 7, ground := Ground.textOnly Departure.lateStores }, { on := 8, ground := Ground.textOnly Departure.lateStores }, { on := 9, ground := Ground.phase }, { on := 10, ground := Ground.phase }], guard := none }) rfl (fun K hK => ?_) AllReadyH.nil
      go_simp
      refine hK.out _ _ ?_ (fun hHeld => ?_)
      · (try dsimp only)
        exact has3 ((Hx.out.drew.far (Ne.symm nrp) _).far (Ne.symm n0p) _)
      clear hK K
      (try simp only [Act.put, List.setIfInBounds_toArray, List.set_cons_zero, List.set_cons_succ])
      refine wpAnyH_take (i := 13) (oi := { dst := some 27, op := Op.indexAddr 35 (Operand.tmp 23) (Operand.tmp 24), type := 0, pos := "picture.go:19", after := #[{ on := 7, ground := Ground.data }, { on := 8, ground := Ground.data }, { on := 0, ground := Ground.phase }, { on := 1, ground := Ground.phase }, { on := 2, ground := Ground.phase }, { on := 3, ground := Ground.phase }, { on := 4, ground := Ground.phase }, { on := 5, ground := Ground.phase }, { on := 6, ground := Ground.phase }, { on := 7, ground := Ground.phase }, { on := 8, ground := Ground.phase }, { on := 9, ground := Ground.phase }, { on := 10, ground := Ground.phase }, { on := 11, ground := Ground.phase }, { on := 12, ground := Ground.phase }], guard := none }) (v := ?_) rfl (by kernel_rfl) (by kernel_rfl) (by kernel_rfl) (fun _ _ _ h => h) (Or.inl ⟨by rfl, ?_⟩) (by assumption) ?_
      rotate_left
      · intro wz hSz; (try dsimp only at hSz); go_simp; all_goals (with_reducible rfl)
      (try simp only [Act.put, List.setIfInBounds_toArray, List.set_cons_zero, List.set_cons_succ])
      refine wpAnyH_ready (rs := [14]) (by kernel_rfl) (by simp) ?_
      refine AllReadyH.cons (o := { dst := none, op := Op.store 21 (Operand.tmp 27) (Operand.const (Value.int IntKind.i32 1)), type := 0, pos := "picture.go:19", after := #[{ on := 13, ground := Ground.data }, { on := 12, ground := Ground.chain }, { on := 0, ground := Ground.phase }, { on := 1, ground := Ground.phase }, { on := 2, ground := Ground.phase }, { on := 3, ground := Ground.phase }, { on := 4, ground := Ground.phase }, { on := 5, ground := Ground.phase }, { on := 6, ground := Ground.phase }, { on := 7, ground := Ground.phase }, { on := 8, ground := Ground.phase }, { on := 9, ground := Ground.phase }, { on := 10, ground := Ground.phase }, { on := 11, ground := Ground.phase }, { on := 12, ground := Ground.phase }], guard := none }) rfl (fun K hK => ?_) AllReadyH.nil
      go_simp
      refine hK.out _ _ ?_ (fun hHeld => ?_)
      · (try dsimp only)
        exact has3 (((Hx.out.drew.far (Ne.symm nrp) _).far (Ne.symm n0p) _).far (Ne.symm n1p) _)
      clear hK K
      (try simp only [Act.put, List.setIfInBounds_toArray, List.set_cons_zero, List.set_cons_succ])
      refine wpAnyH_done (by kernel_rfl) ?_ _
      refine NoPanic.normal ?_
      go_wp2_with fail
      go_roundw
      case rel => exact ⟨k + 1, _, _, by omega, by go_num, c1.drew, c2.drew, c3.drew, (fun j hj => by by_cases e : j = k <;> simp [e]; exact fil.out j (by omega)), (((Hx.out.far (Ne.symm nrp) _).far (Ne.symm n0p) _).far (Ne.symm n1p) _).drew, (((Rz.out.far (by omega) _).far (by omega) _).far (by omega) _).drew, (((hb.out.setCell (p := ⟨r, k, none⟩) (by simp; omega) _).setCell (p := ⟨p0, k, none⟩) (by simp; omega) _).setCell (p := ⟨p1, k, none⟩) (by simp; omega) _).drew⟩
      case measure => simp [intOf]; omega
    · have t1 : ¬ (k : Int) < (n : Int) := by omega
      have ek : k = n := by omega
      subst ek
      have e2 : v32 k f1 = v32 k (fun _ => 1) := v32_ext fun j hj => (fil.out j hj).1
      have e3 : v32 k f2 = v32 k (fun _ => 1) := v32_ext fun j hj => (fil.out j hj).2
      have own1' := own1.out
      have own2' := own2.out
      have own3' := own3.out
      rw [e2] at own2'
      rw [e3] at own3'
      have hb' := hb.out
      have R' := Rz.out
      obtain ⟨_, x1, _⟩ := id Hx.out
      obtain ⟨_, x2, x3⟩ := id R'
      go_wp2_with fail
      have O : Only (fun q => q = w.heap.size) wr (((wr.setCell ⟨w.heap.size, 0, none⟩ (.slice (some ⟨r, 0, none⟩) k k)).setCell ⟨w.heap.size, 1, none⟩ (.slice (some ⟨p0, 0, none⟩) k k)).setCell ⟨w.heap.size, 2, none⟩ (.slice (some ⟨p1, 0, none⟩) k k)) := ((only_of_set _ _ _ _).trans (only_of_set _ _ _ _)).trans (only_of_set _ _ _ _)
      have HH : Has (((wr.setCell ⟨w.heap.size, 0, none⟩ (.slice (some ⟨r, 0, none⟩) k k)).setCell ⟨w.heap.size, 1, none⟩ (.slice (some ⟨p0, 0, none⟩) k k)).setCell ⟨w.heap.size, 2, none⟩ (.slice (some ⟨p1, 0, none⟩) k k)) w.heap.size #[.slice (some ⟨r, 0, none⟩) k k, .slice (some ⟨p0, 0, none⟩) k k, .slice (some ⟨p1, 0, none⟩) k k] := by simpa using ((R'.set 0 (by simp) (.slice (some ⟨r, 0, none⟩) k k)).set 1 (by simp) (.slice (some ⟨p0, 0, none⟩) k k)).set 2 (by simp) (.slice (some ⟨p1, 0, none⟩) k k)
      have bF := bel_only hb' O (Nat.le_refl _) (fun q hq h => by omega)
      have g1 := own_only2 own1' O (fun q hq h => by have e : r = q := (by injection hq); omega)
      have g2 := own_only2 own2' O (fun q hq h => by have e : p0 = q := (by injection hq); omega)
      have g3 := own_only2 own3' O (fun q hq h => by have e : p1 = q := (by injection hq); omega)
      generalize (((wr.setCell ⟨w.heap.size, 0, none⟩ (.slice (some ⟨r, 0, none⟩) k k)).setCell ⟨w.heap.size, 1, none⟩ (.slice (some ⟨p0, 0, none⟩) k k)).setCell ⟨w.heap.size, 2, none⟩ (.slice (some ⟨p1, 0, none⟩) k k)) = WF at *
      obtain ⟨_, k1, _⟩ := id HH
      exact bodyPost_ret (v := .agg #[.slice (some ⟨r, 0, none⟩) k k, .slice (some ⟨p0, 0, none⟩) k k, .slice (some ⟨p1, 0, none⟩) k k]) (by simp [results, Try.results37, go_sem, k1]) rfl ⟨⟨r, p0, p1, rfl, g1, g2, g3, n_r0, n_r1, n01⟩, bF⟩
end Go.Proofs.Ythflpnahifpdnaa
