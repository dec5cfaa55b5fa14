import Derived.Test.YtcajejfddfiidaaDoorPwA
import Derived.Test.YtcajejfddfiidaaDoorTrA
namespace Go.Proofs.YtcajejfddfiidaaDoor
open Go.RowKit
set_option linter.unusedVariables false
set_option linter.unusedSimpArgs false

def tkF (a b : Nat) : ByteArray := if a < b then ti (a : Int) ++ ⟨#[45]⟩ ++ ti (b : Int) else ti (a : Int)
def hsF (h : ByteArray) : ByteArray := if h.toList.isEmpty then ⟨#[46]⟩ else h
def sgF (s : Int) : ByteArray := if 0 ≤ s then ti s else ⟨#[45]⟩
/-- A stretch's line. -/
def lnF (a b : Nat) (h : ByteArray) (s : Int) : ByteArray := tkF a b ++ ⟨#[32]⟩ ++ hsF h ++ ⟨#[32]⟩ ++ sgF s ++ ⟨#[10]⟩
theorem appT (x y z u v p q r : ByteArray) : x ++ (y ++ z) ++ u ++ v ++ p ++ q ++ r = x ++ y ++ z ++ u ++ v ++ p ++ q ++ r := by apply WideShapes.bytes_inj; simp
set_option maxRecDepth 100000 in
set_option maxHeartbeats 2000000 in
theorem line_any (a b : Nat) (h : ByteArray) (s : Int) (w : World) (hPw : Pw w) (ha : a ≤ 65536) (hb : b ≤ 65536) (hh : h.size ≤ 64) (hs : -9223372036854775808 ≤ s ∧ s ≤ 9223372036854775807) :
    Calls Tryd.prog 26 #[.agg #[.string h, .int .i64 s, .int .i64 (a : Int), .int .i64 (b : Int)]] w fun e w' => e = .returned (.string (lnF a b h s)) ∧ Below w.heap.size w w' := by
  have hb0 : Below w.heap.size w (w.alloc (.cells #[.string h, .int .i64 s, .int .i64 (a : Int), .int .i64 (b : Int)] 50)) := (Below.refl _ _).alloc (Nat.le_refl _) _
  have K0 : Has (w.alloc (.cells #[.string h, .int .i64 s, .int .i64 (a : Int), .int .i64 (b : Int)] 50)) w.heap.size #[.string h, .int .i64 s, .int .i64 (a : Int), .int .i64 (b : Int)] := Has.new _ _ _ rfl
  have ka := fun (X : World) (hX : Pw X) => itoa_any (a : Int) X (by omega) (by omega) hX.2
  have kb := fun (X : World) (hX : Pw X) => itoa_any (b : Int) X (by omega) (by omega) hX.2
  have ks := fun (X : World) (hX : Pw X) => itoa_any s X hs.1 hs.2 hX.2
  have s1 := ti_size (a : Int) (by omega) (by omega)
  have s2 := ti_size (b : Int) (by omega) (by omega)
  have s3 := ti_size s hs.1 hs.2
  by_cases hx : a < b
  case pos =>
    have g1 : (b : Int) > (a : Int) := by omega
    have g1' : (a : Int) < (b : Int) := by omega
    have eT : tkF a b = ti (a : Int) ++ ⟨#[45]⟩ ++ ti (b : Int) := by unfold tkF; rw [if_pos hx]
    cases hE : h.toList.isEmpty with
    | true =>
      have eH : hsF h = ⟨#[46]⟩ := by unfold hsF; rw [hE]; rfl
      by_cases hg : 0 ≤ s
      case pos =>
        have eS : sgF s = ti s := by unfold sgF; rw [if_pos hg]
        have hA : Hid (lnF a b h s = tkF a b ++ ⟨#[32]⟩ ++ hsF h ++ ⟨#[32]⟩ ++ sgF s ++ ⟨#[10]⟩) := rfl
        rw [eT, eH, eS] at hA
        generalize lnF a b h s = A at *
        generalize ti (a : Int) = TA at *
        generalize ti (b : Int) = TB at *
        generalize ti s = TS at *
        clear eT eH eS
        go_enter Tryd.func26, Tryd.ntmps26
        go_upto_region 1 with fail
        refine wp_region_noPanic ?_
        refine wp_region_held_drew (S := fun w' => w'.cell? ⟨w.heap.size, 0, none⟩ = some (.string h) ∧ w'.cell? ⟨w.heap.size, 2, none⟩ = some (.int .i64 (a : Int))) (by kernel_rfl) ?_ (fun hHeld => ?_)
        · (try dsimp only)
          exact ⟨K0.drew.2.1 0, K0.drew.2.1 2⟩
        refine wpAnyH_take (i := 0) (oi := { dst := some 6, op := Op.fieldAddr 50 (Operand.tmp 1) 1, type := 0, pos := "trace.go:64", after := #[], guard := none }) (v := ?_) rfl (by kernel_rfl) (by kernel_rfl) (by kernel_rfl) (fun _ _ _ h => h) (Or.inl ⟨by rfl, ?_⟩) (by assumption) ?_
        rotate_left
        · intro wz hSz; (try dsimp only at hSz); go_simp; all_goals (with_reducible rfl)
        (try simp only [Act.put, List.setIfInBounds_toArray, List.set_cons_zero, List.set_cons_succ])
        refine wpAnyH_take (i := 1) (oi := { dst := some 7, op := Op.load 3 (Operand.tmp 6), type := 3, pos := "trace.go:64", after := #[{ on := 0, ground := Ground.data }], guard := none }) (v := ?_) rfl (by kernel_rfl) (by kernel_rfl) (by kernel_rfl) (fun _ _ _ h => h) (Or.inl ⟨by rfl, ?_⟩) (by assumption) ?_
        rotate_left
        · intro wz hSz; (try dsimp only at hSz); go_simp; all_goals (with_reducible rfl)
        (try simp only [Act.put, List.setIfInBounds_toArray, List.set_cons_zero, List.set_cons_succ])
        refine wpAnyH_take (i := 3) (oi := { dst := some 9, op := Op.fieldAddr 50 (Operand.tmp 1) 0, type := 0, pos := "trace.go:64", after := #[{ on := 6, ground := Ground.gcOnly Departure.lateStores }], guard := none }) (v := ?_) rfl (by kernel_rfl) (by kernel_rfl) (by kernel_rfl) (fun _ _ _ h => h) (Or.inl ⟨by rfl, ?_⟩) (by assumption) ?_
        rotate_left
        · intro wz hSz; (try dsimp only at hSz); go_simp; all_goals (with_reducible rfl)
        (try simp only [Act.put, List.setIfInBounds_toArray, List.set_cons_zero, List.set_cons_succ])
        refine wpAnyH_take (i := 4) (oi := { dst := some 10, op := Op.fieldAddr 34 (Operand.tmp 9) 0, type := 0, pos := "trace.go:64", after := #[{ on := 3, ground := Ground.data }, { on := 6, ground := Ground.gcOnly Departure.lateStores }], guard := none }) (v := ?_) rfl (by kernel_rfl) (by kernel_rfl) (by kernel_rfl) (fun _ _ _ h => h) (Or.inl ⟨by rfl, ?_⟩) (by assumption) ?_
        rotate_left
        · intro wz hSz; (try dsimp only at hSz); go_simp; all_goals (with_reducible rfl)
        (try simp only [Act.put, List.setIfInBounds_toArray, List.set_cons_zero, List.set_cons_succ])
        refine wpAnyH_take (i := 5) (oi := { dst := some 11, op := Op.load 9 (Operand.tmp 10), type := 9, pos := "trace.go:64", after := #[{ on := 4, ground := Ground.data }, { on := 6, ground := Ground.gcOnly Departure.lateStores }], guard := none }) (v := ?_) rfl (by kernel_rfl) (by kernel_rfl) (by kernel_rfl) (fun _ _ _ h => h) (Or.inl ⟨by rfl, ?_⟩) (by assumption) ?_
        rotate_left
        · intro wz hSz; (try dsimp only at hSz); go_simp; all_goals (with_reducible rfl)
        (try simp only [Act.put, List.setIfInBounds_toArray, List.set_cons_zero, List.set_cons_succ])
        refine wpAnyH_ready (rs := [2]) (by kernel_rfl) (by simp) ?_
        refine AllReadyH.cons (o := { dst := some 8, op := Op.call { callee := Callee.value (Operand.func 44), args := #[Operand.tmp 7], argTypes := #[3] }, type := 9, pos := "trace.go:64", after := #[{ on := 1, ground := Ground.data }], guard := none }) rfl (fun K hK => ?_) AllReadyH.nil
        go_simp
        go_at_call 44
        refine Calls.mono (ka _ (hPw.below hb0.drew)) ?_
        rintro e w1 ⟨rfl, h1⟩
        have K1 := K0.drew.below h1
        have hb1 := bel_after hb0.drew hb0.drew.size h1
        go_wp2_with fail
        refine hK.out _ _ ?_ (fun hHeld => ?_)
        · (try dsimp only)
          exact ⟨K1.2.1 0, K1.2.1 2⟩
        clear hK K
        (try simp only [Act.put, List.setIfInBounds_toArray, List.set_cons_zero, List.set_cons_succ])
        refine wpAnyH_take (i := 6) (oi := { dst := some 3, op := Op.assign (Operand.tmp 8), type := 9, pos := "trace.go:64", after := #[{ on := 2, ground := Ground.data }, { on := 2, ground := Ground.chain }, { on := 0, ground := Ground.phase }, { on := 1, ground := Ground.phase }, { on := 2, ground := Ground.phase }, { on := 3, ground := Ground.textOnly Departure.lateStores }, { on := 4, ground := Ground.textOnly Departure.lateStores }, { on := 5, ground := Ground.textOnly Departure.lateStores }], guard := none }) (v := ?_) rfl (by kernel_rfl) (by kernel_rfl) (by kernel_rfl) (fun _ _ _ h => h) (Or.inl ⟨by rfl, ?_⟩) (by assumption) ?_
        rotate_left
        · intro wz hSz; (try dsimp only at hSz); go_simp; all_goals (with_reducible rfl)
        (try simp only [Act.put, List.setIfInBounds_toArray, List.set_cons_zero, List.set_cons_succ])
        refine wpAnyH_take (i := 7) (oi := { dst := some 4, op := Op.assign (Operand.tmp 11), type := 9, pos := "trace.go:64", after := #[{ on := 5, ground := Ground.data }, { on := 6, ground := Ground.chain }, { on := 0, ground := Ground.phase }, { on := 1, ground := Ground.phase }, { on := 2, ground := Ground.phase }, { on := 3, ground := Ground.phase }, { on := 4, ground := Ground.phase }, { on := 5, ground := Ground.phase }, { on := 6, ground := Ground.phase }], guard := none }) (v := ?_) rfl (by kernel_rfl) (by kernel_rfl) (by kernel_rfl) (fun _ _ _ h => h) (Or.inl ⟨by rfl, ?_⟩) (by assumption) ?_
        rotate_left
        · intro wz hSz; (try dsimp only at hSz); go_simp; all_goals (with_reducible rfl)
        (try simp only [Act.put, List.setIfInBounds_toArray, List.set_cons_zero, List.set_cons_succ])
        refine wpAnyH_take (i := 8) (oi := { dst := some 5, op := Op.assign (Operand.const (Value.string { data := #[45] })), type := 9, pos := "trace.go:64", after := #[{ on := 7, ground := Ground.chain }, { on := 0, ground := Ground.phase }, { on := 1, ground := Ground.phase }, { on := 2, ground := Ground.phase }, { on := 3, ground := Ground.phase }, { on := 4, ground := Ground.phase }, { on := 5, ground := Ground.phase }, { on := 6, ground := Ground.phase }, { on := 7, ground := Ground.phase }], guard := none }) (v := ?_) rfl (by kernel_rfl) (by kernel_rfl) (by kernel_rfl) (fun _ _ _ h => h) (Or.inl ⟨by rfl, ?_⟩) (by assumption) ?_
        rotate_left
        · intro wz hSz; (try dsimp only at hSz); go_simp; all_goals (with_reducible rfl)
        (try simp only [Act.put, List.setIfInBounds_toArray, List.set_cons_zero, List.set_cons_succ])
        refine wpAnyH_done (by kernel_rfl) ?_ _
        refine NoPanic.normal ?_
        obtain ⟨_, v1, v2⟩ := id K1
        go_wp2_with fail
        go_at_call 44
        refine Calls.mono (kb _ (hPw.below hb1)) ?_
        rintro e w2 ⟨rfl, h2⟩
        have K2 := K1.below h2
        have hb2 := bel_after hb1 hb1.size h2
        clear v1 v2
        obtain ⟨_, v1, v2⟩ := id K2
        go_wp2_with fail
        go_at_call 44
        refine Calls.mono (ks _ (hPw.below hb2)) ?_
        rintro e w3 ⟨rfl, h3⟩
        have hb3 := bel_after hb2 hb2.size h3
        go_wp2_with fail
        go_ret
        exact ⟨ret_str ((appT _ _ _ _ _ _ _ _).trans hA.out.symm), hb3⟩
      case neg =>
        have eS : sgF s = ⟨#[45]⟩ := by unfold sgF; rw [if_neg hg]
        have hg' : s < 0 := by omega
        have hA : Hid (lnF a b h s = tkF a b ++ ⟨#[32]⟩ ++ hsF h ++ ⟨#[32]⟩ ++ sgF s ++ ⟨#[10]⟩) := rfl
        rw [eT, eH, eS] at hA
        generalize lnF a b h s = A at *
        generalize ti (a : Int) = TA at *
        generalize ti (b : Int) = TB at *
        generalize ti s = TS at *
        clear eT eH eS
        go_enter Tryd.func26, Tryd.ntmps26
        go_upto_region 1 with fail
        refine wp_region_noPanic ?_
        refine wp_region_held_drew (S := fun w' => w'.cell? ⟨w.heap.size, 0, none⟩ = some (.string h) ∧ w'.cell? ⟨w.heap.size, 2, none⟩ = some (.int .i64 (a : Int))) (by kernel_rfl) ?_ (fun hHeld => ?_)
        · (try dsimp only)
          exact ⟨K0.drew.2.1 0, K0.drew.2.1 2⟩
        refine wpAnyH_take (i := 0) (oi := { dst := some 6, op := Op.fieldAddr 50 (Operand.tmp 1) 1, type := 0, pos := "trace.go:64", after := #[], guard := none }) (v := ?_) rfl (by kernel_rfl) (by kernel_rfl) (by kernel_rfl) (fun _ _ _ h => h) (Or.inl ⟨by rfl, ?_⟩) (by assumption) ?_
        rotate_left
        · intro wz hSz; (try dsimp only at hSz); go_simp; all_goals (with_reducible rfl)
        (try simp only [Act.put, List.setIfInBounds_toArray, List.set_cons_zero, List.set_cons_succ])
        refine wpAnyH_take (i := 1) (oi := { dst := some 7, op := Op.load 3 (Operand.tmp 6), type := 3, pos := "trace.go:64", after := #[{ on := 0, ground := Ground.data }], guard := none }) (v := ?_) rfl (by kernel_rfl) (by kernel_rfl) (by kernel_rfl) (fun _ _ _ h => h) (Or.inl ⟨by rfl, ?_⟩) (by assumption) ?_
        rotate_left
        · intro wz hSz; (try dsimp only at hSz); go_simp; all_goals (with_reducible rfl)
        (try simp only [Act.put, List.setIfInBounds_toArray, List.set_cons_zero, List.set_cons_succ])
        refine wpAnyH_take (i := 3) (oi := { dst := some 9, op := Op.fieldAddr 50 (Operand.tmp 1) 0, type := 0, pos := "trace.go:64", after := #[{ on := 6, ground := Ground.gcOnly Departure.lateStores }], guard := none }) (v := ?_) rfl (by kernel_rfl) (by kernel_rfl) (by kernel_rfl) (fun _ _ _ h => h) (Or.inl ⟨by rfl, ?_⟩) (by assumption) ?_
        rotate_left
        · intro wz hSz; (try dsimp only at hSz); go_simp; all_goals (with_reducible rfl)
        (try simp only [Act.put, List.setIfInBounds_toArray, List.set_cons_zero, List.set_cons_succ])
        refine wpAnyH_take (i := 4) (oi := { dst := some 10, op := Op.fieldAddr 34 (Operand.tmp 9) 0, type := 0, pos := "trace.go:64", after := #[{ on := 3, ground := Ground.data }, { on := 6, ground := Ground.gcOnly Departure.lateStores }], guard := none }) (v := ?_) rfl (by kernel_rfl) (by kernel_rfl) (by kernel_rfl) (fun _ _ _ h => h) (Or.inl ⟨by rfl, ?_⟩) (by assumption) ?_
        rotate_left
        · intro wz hSz; (try dsimp only at hSz); go_simp; all_goals (with_reducible rfl)
        (try simp only [Act.put, List.setIfInBounds_toArray, List.set_cons_zero, List.set_cons_succ])
        refine wpAnyH_take (i := 5) (oi := { dst := some 11, op := Op.load 9 (Operand.tmp 10), type := 9, pos := "trace.go:64", after := #[{ on := 4, ground := Ground.data }, { on := 6, ground := Ground.gcOnly Departure.lateStores }], guard := none }) (v := ?_) rfl (by kernel_rfl) (by kernel_rfl) (by kernel_rfl) (fun _ _ _ h => h) (Or.inl ⟨by rfl, ?_⟩) (by assumption) ?_
        rotate_left
        · intro wz hSz; (try dsimp only at hSz); go_simp; all_goals (with_reducible rfl)
        (try simp only [Act.put, List.setIfInBounds_toArray, List.set_cons_zero, List.set_cons_succ])
        refine wpAnyH_ready (rs := [2]) (by kernel_rfl) (by simp) ?_
        refine AllReadyH.cons (o := { dst := some 8, op := Op.call { callee := Callee.value (Operand.func 44), args := #[Operand.tmp 7], argTypes := #[3] }, type := 9, pos := "trace.go:64", after := #[{ on := 1, ground := Ground.data }], guard := none }) rfl (fun K hK => ?_) AllReadyH.nil
        go_simp
        go_at_call 44
        refine Calls.mono (ka _ (hPw.below hb0.drew)) ?_
        rintro e w1 ⟨rfl, h1⟩
        have K1 := K0.drew.below h1
        have hb1 := bel_after hb0.drew hb0.drew.size h1
        go_wp2_with fail
        refine hK.out _ _ ?_ (fun hHeld => ?_)
        · (try dsimp only)
          exact ⟨K1.2.1 0, K1.2.1 2⟩
        clear hK K
        (try simp only [Act.put, List.setIfInBounds_toArray, List.set_cons_zero, List.set_cons_succ])
        refine wpAnyH_take (i := 6) (oi := { dst := some 3, op := Op.assign (Operand.tmp 8), type := 9, pos := "trace.go:64", after := #[{ on := 2, ground := Ground.data }, { on := 2, ground := Ground.chain }, { on := 0, ground := Ground.phase }, { on := 1, ground := Ground.phase }, { on := 2, ground := Ground.phase }, { on := 3, ground := Ground.textOnly Departure.lateStores }, { on := 4, ground := Ground.textOnly Departure.lateStores }, { on := 5, ground := Ground.textOnly Departure.lateStores }], guard := none }) (v := ?_) rfl (by kernel_rfl) (by kernel_rfl) (by kernel_rfl) (fun _ _ _ h => h) (Or.inl ⟨by rfl, ?_⟩) (by assumption) ?_
        rotate_left
        · intro wz hSz; (try dsimp only at hSz); go_simp; all_goals (with_reducible rfl)
        (try simp only [Act.put, List.setIfInBounds_toArray, List.set_cons_zero, List.set_cons_succ])
        refine wpAnyH_take (i := 7) (oi := { dst := some 4, op := Op.assign (Operand.tmp 11), type := 9, pos := "trace.go:64", after := #[{ on := 5, ground := Ground.data }, { on := 6, ground := Ground.chain }, { on := 0, ground := Ground.phase }, { on := 1, ground := Ground.phase }, { on := 2, ground := Ground.phase }, { on := 3, ground := Ground.phase }, { on := 4, ground := Ground.phase }, { on := 5, ground := Ground.phase }, { on := 6, ground := Ground.phase }], guard := none }) (v := ?_) rfl (by kernel_rfl) (by kernel_rfl) (by kernel_rfl) (fun _ _ _ h => h) (Or.inl ⟨by rfl, ?_⟩) (by assumption) ?_
        rotate_left
        · intro wz hSz; (try dsimp only at hSz); go_simp; all_goals (with_reducible rfl)
        (try simp only [Act.put, List.setIfInBounds_toArray, List.set_cons_zero, List.set_cons_succ])
        refine wpAnyH_take (i := 8) (oi := { dst := some 5, op := Op.assign (Operand.const (Value.string { data := #[45] })), type := 9, pos := "trace.go:64", after := #[{ on := 7, ground := Ground.chain }, { on := 0, ground := Ground.phase }, { on := 1, ground := Ground.phase }, { on := 2, ground := Ground.phase }, { on := 3, ground := Ground.phase }, { on := 4, ground := Ground.phase }, { on := 5, ground := Ground.phase }, { on := 6, ground := Ground.phase }, { on := 7, ground := Ground.phase }], guard := none }) (v := ?_) rfl (by kernel_rfl) (by kernel_rfl) (by kernel_rfl) (fun _ _ _ h => h) (Or.inl ⟨by rfl, ?_⟩) (by assumption) ?_
        rotate_left
        · intro wz hSz; (try dsimp only at hSz); go_simp; all_goals (with_reducible rfl)
        (try simp only [Act.put, List.setIfInBounds_toArray, List.set_cons_zero, List.set_cons_succ])
        refine wpAnyH_done (by kernel_rfl) ?_ _
        refine NoPanic.normal ?_
        obtain ⟨_, v1, v2⟩ := id K1
        go_wp2_with fail
        go_at_call 44
        refine Calls.mono (kb _ (hPw.below hb1)) ?_
        rintro e w2 ⟨rfl, h2⟩
        have K2 := K1.below h2
        have hb2 := bel_after hb1 hb1.size h2
        clear v1 v2
        obtain ⟨_, v1, v2⟩ := id K2
        go_wp2_with fail
        go_ret
        exact ⟨ret_str ((appT _ _ _ _ _ _ _ _).trans hA.out.symm), hb2⟩
    | false =>
      have eH : hsF h = h := by unfold hsF; rw [hE]; rfl
      by_cases hg : 0 ≤ s
      case pos =>
        have eS : sgF s = ti s := by unfold sgF; rw [if_pos hg]
        have hA : Hid (lnF a b h s = tkF a b ++ ⟨#[32]⟩ ++ hsF h ++ ⟨#[32]⟩ ++ sgF s ++ ⟨#[10]⟩) := rfl
        rw [eT, eH, eS] at hA
        generalize lnF a b h s = A at *
        generalize ti (a : Int) = TA at *
        generalize ti (b : Int) = TB at *
        generalize ti s = TS at *
        clear eT eH eS
        go_enter Tryd.func26, Tryd.ntmps26
        go_upto_region 1 with fail
        refine wp_region_noPanic ?_
        refine wp_region_held_drew (S := fun w' => w'.cell? ⟨w.heap.size, 0, none⟩ = some (.string h) ∧ w'.cell? ⟨w.heap.size, 2, none⟩ = some (.int .i64 (a : Int))) (by kernel_rfl) ?_ (fun hHeld => ?_)
        · (try dsimp only)
          exact ⟨K0.drew.2.1 0, K0.drew.2.1 2⟩
        refine wpAnyH_take (i := 0) (oi := { dst := some 6, op := Op.fieldAddr 50 (Operand.tmp 1) 1, type := 0, pos := "trace.go:64", after := #[], guard := none }) (v := ?_) rfl (by kernel_rfl) (by kernel_rfl) (by kernel_rfl) (fun _ _ _ h => h) (Or.inl ⟨by rfl, ?_⟩) (by assumption) ?_
        rotate_left
        · intro wz hSz; (try dsimp only at hSz); go_simp; all_goals (with_reducible rfl)
        (try simp only [Act.put, List.setIfInBounds_toArray, List.set_cons_zero, List.set_cons_succ])
        refine wpAnyH_take (i := 1) (oi := { dst := some 7, op := Op.load 3 (Operand.tmp 6), type := 3, pos := "trace.go:64", after := #[{ on := 0, ground := Ground.data }], guard := none }) (v := ?_) rfl (by kernel_rfl) (by kernel_rfl) (by kernel_rfl) (fun _ _ _ h => h) (Or.inl ⟨by rfl, ?_⟩) (by assumption) ?_
        rotate_left
        · intro wz hSz; (try dsimp only at hSz); go_simp; all_goals (with_reducible rfl)
        (try simp only [Act.put, List.setIfInBounds_toArray, List.set_cons_zero, List.set_cons_succ])
        refine wpAnyH_take (i := 3) (oi := { dst := some 9, op := Op.fieldAddr 50 (Operand.tmp 1) 0, type := 0, pos := "trace.go:64", after := #[{ on := 6, ground := Ground.gcOnly Departure.lateStores }], guard := none }) (v := ?_) rfl (by kernel_rfl) (by kernel_rfl) (by kernel_rfl) (fun _ _ _ h => h) (Or.inl ⟨by rfl, ?_⟩) (by assumption) ?_
        rotate_left
        · intro wz hSz; (try dsimp only at hSz); go_simp; all_goals (with_reducible rfl)
        (try simp only [Act.put, List.setIfInBounds_toArray, List.set_cons_zero, List.set_cons_succ])
        refine wpAnyH_take (i := 4) (oi := { dst := some 10, op := Op.fieldAddr 34 (Operand.tmp 9) 0, type := 0, pos := "trace.go:64", after := #[{ on := 3, ground := Ground.data }, { on := 6, ground := Ground.gcOnly Departure.lateStores }], guard := none }) (v := ?_) rfl (by kernel_rfl) (by kernel_rfl) (by kernel_rfl) (fun _ _ _ h => h) (Or.inl ⟨by rfl, ?_⟩) (by assumption) ?_
        rotate_left
        · intro wz hSz; (try dsimp only at hSz); go_simp; all_goals (with_reducible rfl)
        (try simp only [Act.put, List.setIfInBounds_toArray, List.set_cons_zero, List.set_cons_succ])
        refine wpAnyH_take (i := 5) (oi := { dst := some 11, op := Op.load 9 (Operand.tmp 10), type := 9, pos := "trace.go:64", after := #[{ on := 4, ground := Ground.data }, { on := 6, ground := Ground.gcOnly Departure.lateStores }], guard := none }) (v := ?_) rfl (by kernel_rfl) (by kernel_rfl) (by kernel_rfl) (fun _ _ _ h => h) (Or.inl ⟨by rfl, ?_⟩) (by assumption) ?_
        rotate_left
        · intro wz hSz; (try dsimp only at hSz); go_simp; all_goals (with_reducible rfl)
        (try simp only [Act.put, List.setIfInBounds_toArray, List.set_cons_zero, List.set_cons_succ])
        refine wpAnyH_ready (rs := [2]) (by kernel_rfl) (by simp) ?_
        refine AllReadyH.cons (o := { dst := some 8, op := Op.call { callee := Callee.value (Operand.func 44), args := #[Operand.tmp 7], argTypes := #[3] }, type := 9, pos := "trace.go:64", after := #[{ on := 1, ground := Ground.data }], guard := none }) rfl (fun K hK => ?_) AllReadyH.nil
        go_simp
        go_at_call 44
        refine Calls.mono (ka _ (hPw.below hb0.drew)) ?_
        rintro e w1 ⟨rfl, h1⟩
        have K1 := K0.drew.below h1
        have hb1 := bel_after hb0.drew hb0.drew.size h1
        go_wp2_with fail
        refine hK.out _ _ ?_ (fun hHeld => ?_)
        · (try dsimp only)
          exact ⟨K1.2.1 0, K1.2.1 2⟩
        clear hK K
        (try simp only [Act.put, List.setIfInBounds_toArray, List.set_cons_zero, List.set_cons_succ])
        refine wpAnyH_take (i := 6) (oi := { dst := some 3, op := Op.assign (Operand.tmp 8), type := 9, pos := "trace.go:64", after := #[{ on := 2, ground := Ground.data }, { on := 2, ground := Ground.chain }, { on := 0, ground := Ground.phase }, { on := 1, ground := Ground.phase }, { on := 2, ground := Ground.phase }, { on := 3, ground := Ground.textOnly Departure.lateStores }, { on := 4, ground := Ground.textOnly Departure.lateStores }, { on := 5, ground := Ground.textOnly Departure.lateStores }], guard := none }) (v := ?_) rfl (by kernel_rfl) (by kernel_rfl) (by kernel_rfl) (fun _ _ _ h => h) (Or.inl ⟨by rfl, ?_⟩) (by assumption) ?_
        rotate_left
        · intro wz hSz; (try dsimp only at hSz); go_simp; all_goals (with_reducible rfl)
        (try simp only [Act.put, List.setIfInBounds_toArray, List.set_cons_zero, List.set_cons_succ])
        refine wpAnyH_take (i := 7) (oi := { dst := some 4, op := Op.assign (Operand.tmp 11), type := 9, pos := "trace.go:64", after := #[{ on := 5, ground := Ground.data }, { on := 6, ground := Ground.chain }, { on := 0, ground := Ground.phase }, { on := 1, ground := Ground.phase }, { on := 2, ground := Ground.phase }, { on := 3, ground := Ground.phase }, { on := 4, ground := Ground.phase }, { on := 5, ground := Ground.phase }, { on := 6, ground := Ground.phase }], guard := none }) (v := ?_) rfl (by kernel_rfl) (by kernel_rfl) (by kernel_rfl) (fun _ _ _ h => h) (Or.inl ⟨by rfl, ?_⟩) (by assumption) ?_
        rotate_left
        · intro wz hSz; (try dsimp only at hSz); go_simp; all_goals (with_reducible rfl)
        (try simp only [Act.put, List.setIfInBounds_toArray, List.set_cons_zero, List.set_cons_succ])
        refine wpAnyH_take (i := 8) (oi := { dst := some 5, op := Op.assign (Operand.const (Value.string { data := #[45] })), type := 9, pos := "trace.go:64", after := #[{ on := 7, ground := Ground.chain }, { on := 0, ground := Ground.phase }, { on := 1, ground := Ground.phase }, { on := 2, ground := Ground.phase }, { on := 3, ground := Ground.phase }, { on := 4, ground := Ground.phase }, { on := 5, ground := Ground.phase }, { on := 6, ground := Ground.phase }, { on := 7, ground := Ground.phase }], guard := none }) (v := ?_) rfl (by kernel_rfl) (by kernel_rfl) (by kernel_rfl) (fun _ _ _ h => h) (Or.inl ⟨by rfl, ?_⟩) (by assumption) ?_
        rotate_left
        · intro wz hSz; (try dsimp only at hSz); go_simp; all_goals (with_reducible rfl)
        (try simp only [Act.put, List.setIfInBounds_toArray, List.set_cons_zero, List.set_cons_succ])
        refine wpAnyH_done (by kernel_rfl) ?_ _
        refine NoPanic.normal ?_
        obtain ⟨_, v1, v2⟩ := id K1
        go_wp2_with fail
        go_at_call 44
        refine Calls.mono (kb _ (hPw.below hb1)) ?_
        rintro e w2 ⟨rfl, h2⟩
        have K2 := K1.below h2
        have hb2 := bel_after hb1 hb1.size h2
        clear v1 v2
        obtain ⟨_, v1, v2⟩ := id K2
        go_wp2_with fail
        go_at_call 44
        refine Calls.mono (ks _ (hPw.below hb2)) ?_
        rintro e w3 ⟨rfl, h3⟩
        have hb3 := bel_after hb2 hb2.size h3
        go_wp2_with fail
        go_ret
        exact ⟨ret_str ((appT _ _ _ _ _ _ _ _).trans hA.out.symm), hb3⟩
      case neg =>
        have eS : sgF s = ⟨#[45]⟩ := by unfold sgF; rw [if_neg hg]
        have hg' : s < 0 := by omega
        have hA : Hid (lnF a b h s = tkF a b ++ ⟨#[32]⟩ ++ hsF h ++ ⟨#[32]⟩ ++ sgF s ++ ⟨#[10]⟩) := rfl
        rw [eT, eH, eS] at hA
        generalize lnF a b h s = A at *
        generalize ti (a : Int) = TA at *
        generalize ti (b : Int) = TB at *
        generalize ti s = TS at *
        clear eT eH eS
        go_enter Tryd.func26, Tryd.ntmps26
        go_upto_region 1 with fail
        refine wp_region_noPanic ?_
        refine wp_region_held_drew (S := fun w' => w'.cell? ⟨w.heap.size, 0, none⟩ = some (.string h) ∧ w'.cell? ⟨w.heap.size, 2, none⟩ = some (.int .i64 (a : Int))) (by kernel_rfl) ?_ (fun hHeld => ?_)
        · (try dsimp only)
          exact ⟨K0.drew.2.1 0, K0.drew.2.1 2⟩
        refine wpAnyH_take (i := 0) (oi := { dst := some 6, op := Op.fieldAddr 50 (Operand.tmp 1) 1, type := 0, pos := "trace.go:64", after := #[], guard := none }) (v := ?_) rfl (by kernel_rfl) (by kernel_rfl) (by kernel_rfl) (fun _ _ _ h => h) (Or.inl ⟨by rfl, ?_⟩) (by assumption) ?_
        rotate_left
        · intro wz hSz; (try dsimp only at hSz); go_simp; all_goals (with_reducible rfl)
        (try simp only [Act.put, List.setIfInBounds_toArray, List.set_cons_zero, List.set_cons_succ])
        refine wpAnyH_take (i := 1) (oi := { dst := some 7, op := Op.load 3 (Operand.tmp 6), type := 3, pos := "trace.go:64", after := #[{ on := 0, ground := Ground.data }], guard := none }) (v := ?_) rfl (by kernel_rfl) (by kernel_rfl) (by kernel_rfl) (fun _ _ _ h => h) (Or.inl ⟨by rfl, ?_⟩) (by assumption) ?_
        rotate_left
        · intro wz hSz; (try dsimp only at hSz); go_simp; all_goals (with_reducible rfl)
        (try simp only [Act.put, List.setIfInBounds_toArray, List.set_cons_zero, List.set_cons_succ])
        refine wpAnyH_take (i := 3) (oi := { dst := some 9, op := Op.fieldAddr 50 (Operand.tmp 1) 0, type := 0, pos := "trace.go:64", after := #[{ on := 6, ground := Ground.gcOnly Departure.lateStores }], guard := none }) (v := ?_) rfl (by kernel_rfl) (by kernel_rfl) (by kernel_rfl) (fun _ _ _ h => h) (Or.inl ⟨by rfl, ?_⟩) (by assumption) ?_
        rotate_left
        · intro wz hSz; (try dsimp only at hSz); go_simp; all_goals (with_reducible rfl)
        (try simp only [Act.put, List.setIfInBounds_toArray, List.set_cons_zero, List.set_cons_succ])
        refine wpAnyH_take (i := 4) (oi := { dst := some 10, op := Op.fieldAddr 34 (Operand.tmp 9) 0, type := 0, pos := "trace.go:64", after := #[{ on := 3, ground := Ground.data }, { on := 6, ground := Ground.gcOnly Departure.lateStores }], guard := none }) (v := ?_) rfl (by kernel_rfl) (by kernel_rfl) (by kernel_rfl) (fun _ _ _ h => h) (Or.inl ⟨by rfl, ?_⟩) (by assumption) ?_
        rotate_left
        · intro wz hSz; (try dsimp only at hSz); go_simp; all_goals (with_reducible rfl)
        (try simp only [Act.put, List.setIfInBounds_toArray, List.set_cons_zero, List.set_cons_succ])
        refine wpAnyH_take (i := 5) (oi := { dst := some 11, op := Op.load 9 (Operand.tmp 10), type := 9, pos := "trace.go:64", after := #[{ on := 4, ground := Ground.data }, { on := 6, ground := Ground.gcOnly Departure.lateStores }], guard := none }) (v := ?_) rfl (by kernel_rfl) (by kernel_rfl) (by kernel_rfl) (fun _ _ _ h => h) (Or.inl ⟨by rfl, ?_⟩) (by assumption) ?_
        rotate_left
        · intro wz hSz; (try dsimp only at hSz); go_simp; all_goals (with_reducible rfl)
        (try simp only [Act.put, List.setIfInBounds_toArray, List.set_cons_zero, List.set_cons_succ])
        refine wpAnyH_ready (rs := [2]) (by kernel_rfl) (by simp) ?_
        refine AllReadyH.cons (o := { dst := some 8, op := Op.call { callee := Callee.value (Operand.func 44), args := #[Operand.tmp 7], argTypes := #[3] }, type := 9, pos := "trace.go:64", after := #[{ on := 1, ground := Ground.data }], guard := none }) rfl (fun K hK => ?_) AllReadyH.nil
        go_simp
        go_at_call 44
        refine Calls.mono (ka _ (hPw.below hb0.drew)) ?_
        rintro e w1 ⟨rfl, h1⟩
        have K1 := K0.drew.below h1
        have hb1 := bel_after hb0.drew hb0.drew.size h1
        go_wp2_with fail
        refine hK.out _ _ ?_ (fun hHeld => ?_)
        · (try dsimp only)
          exact ⟨K1.2.1 0, K1.2.1 2⟩
        clear hK K
        (try simp only [Act.put, List.setIfInBounds_toArray, List.set_cons_zero, List.set_cons_succ])
        refine wpAnyH_take (i := 6) (oi := { dst := some 3, op := Op.assign (Operand.tmp 8), type := 9, pos := "trace.go:64", after := #[{ on := 2, ground := Ground.data }, { on := 2, ground := Ground.chain }, { on := 0, ground := Ground.phase }, { on := 1, ground := Ground.phase }, { on := 2, ground := Ground.phase }, { on := 3, ground := Ground.textOnly Departure.lateStores }, { on := 4, ground := Ground.textOnly Departure.lateStores }, { on := 5, ground := Ground.textOnly Departure.lateStores }], guard := none }) (v := ?_) rfl (by kernel_rfl) (by kernel_rfl) (by kernel_rfl) (fun _ _ _ h => h) (Or.inl ⟨by rfl, ?_⟩) (by assumption) ?_
        rotate_left
        · intro wz hSz; (try dsimp only at hSz); go_simp; all_goals (with_reducible rfl)
        (try simp only [Act.put, List.setIfInBounds_toArray, List.set_cons_zero, List.set_cons_succ])
        refine wpAnyH_take (i := 7) (oi := { dst := some 4, op := Op.assign (Operand.tmp 11), type := 9, pos := "trace.go:64", after := #[{ on := 5, ground := Ground.data }, { on := 6, ground := Ground.chain }, { on := 0, ground := Ground.phase }, { on := 1, ground := Ground.phase }, { on := 2, ground := Ground.phase }, { on := 3, ground := Ground.phase }, { on := 4, ground := Ground.phase }, { on := 5, ground := Ground.phase }, { on := 6, ground := Ground.phase }], guard := none }) (v := ?_) rfl (by kernel_rfl) (by kernel_rfl) (by kernel_rfl) (fun _ _ _ h => h) (Or.inl ⟨by rfl, ?_⟩) (by assumption) ?_
        rotate_left
        · intro wz hSz; (try dsimp only at hSz); go_simp; all_goals (with_reducible rfl)
        (try simp only [Act.put, List.setIfInBounds_toArray, List.set_cons_zero, List.set_cons_succ])
        refine wpAnyH_take (i := 8) (oi := { dst := some 5, op := Op.assign (Operand.const (Value.string { data := #[45] })), type := 9, pos := "trace.go:64", after := #[{ on := 7, ground := Ground.chain }, { on := 0, ground := Ground.phase }, { on := 1, ground := Ground.phase }, { on := 2, ground := Ground.phase }, { on := 3, ground := Ground.phase }, { on := 4, ground := Ground.phase }, { on := 5, ground := Ground.phase }, { on := 6, ground := Ground.phase }, { on := 7, ground := Ground.phase }], guard := none }) (v := ?_) rfl (by kernel_rfl) (by kernel_rfl) (by kernel_rfl) (fun _ _ _ h => h) (Or.inl ⟨by rfl, ?_⟩) (by assumption) ?_
        rotate_left
        · intro wz hSz; (try dsimp only at hSz); go_simp; all_goals (with_reducible rfl)
        (try simp only [Act.put, List.setIfInBounds_toArray, List.set_cons_zero, List.set_cons_succ])
        refine wpAnyH_done (by kernel_rfl) ?_ _
        refine NoPanic.normal ?_
        obtain ⟨_, v1, v2⟩ := id K1
        go_wp2_with fail
        go_at_call 44
        refine Calls.mono (kb _ (hPw.below hb1)) ?_
        rintro e w2 ⟨rfl, h2⟩
        have K2 := K1.below h2
        have hb2 := bel_after hb1 hb1.size h2
        clear v1 v2
        obtain ⟨_, v1, v2⟩ := id K2
        go_wp2_with fail
        go_ret
        exact ⟨ret_str ((appT _ _ _ _ _ _ _ _).trans hA.out.symm), hb2⟩
  case neg =>
    have g1 : ¬ (b : Int) > (a : Int) := by omega
    have g1' : ¬ (a : Int) < (b : Int) := by omega
    have eT : tkF a b = ti (a : Int) := by unfold tkF; rw [if_neg hx]
    cases hE : h.toList.isEmpty with
    | true =>
      have eH : hsF h = ⟨#[46]⟩ := by unfold hsF; rw [hE]; rfl
      by_cases hg : 0 ≤ s
      case pos =>
        have eS : sgF s = ti s := by unfold sgF; rw [if_pos hg]
        have hA : Hid (lnF a b h s = tkF a b ++ ⟨#[32]⟩ ++ hsF h ++ ⟨#[32]⟩ ++ sgF s ++ ⟨#[10]⟩) := rfl
        rw [eT, eH, eS] at hA
        generalize lnF a b h s = A at *
        generalize ti (a : Int) = TA at *
        generalize ti (b : Int) = TB at *
        generalize ti s = TS at *
        clear eT eH eS
        go_enter Tryd.func26, Tryd.ntmps26
        go_upto_region 1 with fail
        refine wp_region_noPanic ?_
        refine wp_region_held_drew (S := fun w' => w'.cell? ⟨w.heap.size, 0, none⟩ = some (.string h) ∧ w'.cell? ⟨w.heap.size, 2, none⟩ = some (.int .i64 (a : Int))) (by kernel_rfl) ?_ (fun hHeld => ?_)
        · (try dsimp only)
          exact ⟨K0.drew.2.1 0, K0.drew.2.1 2⟩
        refine wpAnyH_take (i := 0) (oi := { dst := some 6, op := Op.fieldAddr 50 (Operand.tmp 1) 1, type := 0, pos := "trace.go:64", after := #[], guard := none }) (v := ?_) rfl (by kernel_rfl) (by kernel_rfl) (by kernel_rfl) (fun _ _ _ h => h) (Or.inl ⟨by rfl, ?_⟩) (by assumption) ?_
        rotate_left
        · intro wz hSz; (try dsimp only at hSz); go_simp; all_goals (with_reducible rfl)
        (try simp only [Act.put, List.setIfInBounds_toArray, List.set_cons_zero, List.set_cons_succ])
        refine wpAnyH_take (i := 1) (oi := { dst := some 7, op := Op.load 3 (Operand.tmp 6), type := 3, pos := "trace.go:64", after := #[{ on := 0, ground := Ground.data }], guard := none }) (v := ?_) rfl (by kernel_rfl) (by kernel_rfl) (by kernel_rfl) (fun _ _ _ h => h) (Or.inl ⟨by rfl, ?_⟩) (by assumption) ?_
        rotate_left
        · intro wz hSz; (try dsimp only at hSz); go_simp; all_goals (with_reducible rfl)
        (try simp only [Act.put, List.setIfInBounds_toArray, List.set_cons_zero, List.set_cons_succ])
        refine wpAnyH_take (i := 3) (oi := { dst := some 9, op := Op.fieldAddr 50 (Operand.tmp 1) 0, type := 0, pos := "trace.go:64", after := #[{ on := 6, ground := Ground.gcOnly Departure.lateStores }], guard := none }) (v := ?_) rfl (by kernel_rfl) (by kernel_rfl) (by kernel_rfl) (fun _ _ _ h => h) (Or.inl ⟨by rfl, ?_⟩) (by assumption) ?_
        rotate_left
        · intro wz hSz; (try dsimp only at hSz); go_simp; all_goals (with_reducible rfl)
        (try simp only [Act.put, List.setIfInBounds_toArray, List.set_cons_zero, List.set_cons_succ])
        refine wpAnyH_take (i := 4) (oi := { dst := some 10, op := Op.fieldAddr 34 (Operand.tmp 9) 0, type := 0, pos := "trace.go:64", after := #[{ on := 3, ground := Ground.data }, { on := 6, ground := Ground.gcOnly Departure.lateStores }], guard := none }) (v := ?_) rfl (by kernel_rfl) (by kernel_rfl) (by kernel_rfl) (fun _ _ _ h => h) (Or.inl ⟨by rfl, ?_⟩) (by assumption) ?_
        rotate_left
        · intro wz hSz; (try dsimp only at hSz); go_simp; all_goals (with_reducible rfl)
        (try simp only [Act.put, List.setIfInBounds_toArray, List.set_cons_zero, List.set_cons_succ])
        refine wpAnyH_take (i := 5) (oi := { dst := some 11, op := Op.load 9 (Operand.tmp 10), type := 9, pos := "trace.go:64", after := #[{ on := 4, ground := Ground.data }, { on := 6, ground := Ground.gcOnly Departure.lateStores }], guard := none }) (v := ?_) rfl (by kernel_rfl) (by kernel_rfl) (by kernel_rfl) (fun _ _ _ h => h) (Or.inl ⟨by rfl, ?_⟩) (by assumption) ?_
        rotate_left
        · intro wz hSz; (try dsimp only at hSz); go_simp; all_goals (with_reducible rfl)
        (try simp only [Act.put, List.setIfInBounds_toArray, List.set_cons_zero, List.set_cons_succ])
        refine wpAnyH_ready (rs := [2]) (by kernel_rfl) (by simp) ?_
        refine AllReadyH.cons (o := { dst := some 8, op := Op.call { callee := Callee.value (Operand.func 44), args := #[Operand.tmp 7], argTypes := #[3] }, type := 9, pos := "trace.go:64", after := #[{ on := 1, ground := Ground.data }], guard := none }) rfl (fun K hK => ?_) AllReadyH.nil
        go_simp
        go_at_call 44
        refine Calls.mono (ka _ (hPw.below hb0.drew)) ?_
        rintro e w1 ⟨rfl, h1⟩
        have K1 := K0.drew.below h1
        have hb1 := bel_after hb0.drew hb0.drew.size h1
        go_wp2_with fail
        refine hK.out _ _ ?_ (fun hHeld => ?_)
        · (try dsimp only)
          exact ⟨K1.2.1 0, K1.2.1 2⟩
        clear hK K
        (try simp only [Act.put, List.setIfInBounds_toArray, List.set_cons_zero, List.set_cons_succ])
        refine wpAnyH_take (i := 6) (oi := { dst := some 3, op := Op.assign (Operand.tmp 8), type := 9, pos := "trace.go:64", after := #[{ on := 2, ground := Ground.data }, { on := 2, ground := Ground.chain }, { on := 0, ground := Ground.phase }, { on := 1, ground := Ground.phase }, { on := 2, ground := Ground.phase }, { on := 3, ground := Ground.textOnly Departure.lateStores }, { on := 4, ground := Ground.textOnly Departure.lateStores }, { on := 5, ground := Ground.textOnly Departure.lateStores }], guard := none }) (v := ?_) rfl (by kernel_rfl) (by kernel_rfl) (by kernel_rfl) (fun _ _ _ h => h) (Or.inl ⟨by rfl, ?_⟩) (by assumption) ?_
        rotate_left
        · intro wz hSz; (try dsimp only at hSz); go_simp; all_goals (with_reducible rfl)
        (try simp only [Act.put, List.setIfInBounds_toArray, List.set_cons_zero, List.set_cons_succ])
        refine wpAnyH_take (i := 7) (oi := { dst := some 4, op := Op.assign (Operand.tmp 11), type := 9, pos := "trace.go:64", after := #[{ on := 5, ground := Ground.data }, { on := 6, ground := Ground.chain }, { on := 0, ground := Ground.phase }, { on := 1, ground := Ground.phase }, { on := 2, ground := Ground.phase }, { on := 3, ground := Ground.phase }, { on := 4, ground := Ground.phase }, { on := 5, ground := Ground.phase }, { on := 6, ground := Ground.phase }], guard := none }) (v := ?_) rfl (by kernel_rfl) (by kernel_rfl) (by kernel_rfl) (fun _ _ _ h => h) (Or.inl ⟨by rfl, ?_⟩) (by assumption) ?_
        rotate_left
        · intro wz hSz; (try dsimp only at hSz); go_simp; all_goals (with_reducible rfl)
        (try simp only [Act.put, List.setIfInBounds_toArray, List.set_cons_zero, List.set_cons_succ])
        refine wpAnyH_take (i := 8) (oi := { dst := some 5, op := Op.assign (Operand.const (Value.string { data := #[45] })), type := 9, pos := "trace.go:64", after := #[{ on := 7, ground := Ground.chain }, { on := 0, ground := Ground.phase }, { on := 1, ground := Ground.phase }, { on := 2, ground := Ground.phase }, { on := 3, ground := Ground.phase }, { on := 4, ground := Ground.phase }, { on := 5, ground := Ground.phase }, { on := 6, ground := Ground.phase }, { on := 7, ground := Ground.phase }], guard := none }) (v := ?_) rfl (by kernel_rfl) (by kernel_rfl) (by kernel_rfl) (fun _ _ _ h => h) (Or.inl ⟨by rfl, ?_⟩) (by assumption) ?_
        rotate_left
        · intro wz hSz; (try dsimp only at hSz); go_simp; all_goals (with_reducible rfl)
        (try simp only [Act.put, List.setIfInBounds_toArray, List.set_cons_zero, List.set_cons_succ])
        refine wpAnyH_done (by kernel_rfl) ?_ _
        refine NoPanic.normal ?_
        obtain ⟨_, v1, v2⟩ := id K1
        go_wp2_with fail
        go_at_call 44
        refine Calls.mono (ks _ (hPw.below hb1)) ?_
        rintro e w3 ⟨rfl, h3⟩
        have hb3 := bel_after hb1 hb1.size h3
        go_wp2_with fail
        go_ret
        exact ⟨ret_str (hA.out.symm), hb3⟩
      case neg =>
        have eS : sgF s = ⟨#[45]⟩ := by unfold sgF; rw [if_neg hg]
        have hg' : s < 0 := by omega
        have hA : Hid (lnF a b h s = tkF a b ++ ⟨#[32]⟩ ++ hsF h ++ ⟨#[32]⟩ ++ sgF s ++ ⟨#[10]⟩) := rfl
        rw [eT, eH, eS] at hA
        generalize lnF a b h s = A at *
        generalize ti (a : Int) = TA at *
        generalize ti (b : Int) = TB at *
        generalize ti s = TS at *
        clear eT eH eS
        go_enter Tryd.func26, Tryd.ntmps26
        go_upto_region 1 with fail
        refine wp_region_noPanic ?_
        refine wp_region_held_drew (S := fun w' => w'.cell? ⟨w.heap.size, 0, none⟩ = some (.string h) ∧ w'.cell? ⟨w.heap.size, 2, none⟩ = some (.int .i64 (a : Int))) (by kernel_rfl) ?_ (fun hHeld => ?_)
        · (try dsimp only)
          exact ⟨K0.drew.2.1 0, K0.drew.2.1 2⟩
        refine wpAnyH_take (i := 0) (oi := { dst := some 6, op := Op.fieldAddr 50 (Operand.tmp 1) 1, type := 0, pos := "trace.go:64", after := #[], guard := none }) (v := ?_) rfl (by kernel_rfl) (by kernel_rfl) (by kernel_rfl) (fun _ _ _ h => h) (Or.inl ⟨by rfl, ?_⟩) (by assumption) ?_
        rotate_left
        · intro wz hSz; (try dsimp only at hSz); go_simp; all_goals (with_reducible rfl)
        (try simp only [Act.put, List.setIfInBounds_toArray, List.set_cons_zero, List.set_cons_succ])
        refine wpAnyH_take (i := 1) (oi := { dst := some 7, op := Op.load 3 (Operand.tmp 6), type := 3, pos := "trace.go:64", after := #[{ on := 0, ground := Ground.data }], guard := none }) (v := ?_) rfl (by kernel_rfl) (by kernel_rfl) (by kernel_rfl) (fun _ _ _ h => h) (Or.inl ⟨by rfl, ?_⟩) (by assumption) ?_
        rotate_left
        · intro wz hSz; (try dsimp only at hSz); go_simp; all_goals (with_reducible rfl)
        (try simp only [Act.put, List.setIfInBounds_toArray, List.set_cons_zero, List.set_cons_succ])
        refine wpAnyH_take (i := 3) (oi := { dst := some 9, op := Op.fieldAddr 50 (Operand.tmp 1) 0, type := 0, pos := "trace.go:64", after := #[{ on := 6, ground := Ground.gcOnly Departure.lateStores }], guard := none }) (v := ?_) rfl (by kernel_rfl) (by kernel_rfl) (by kernel_rfl) (fun _ _ _ h => h) (Or.inl ⟨by rfl, ?_⟩) (by assumption) ?_
        rotate_left
        · intro wz hSz; (try dsimp only at hSz); go_simp; all_goals (with_reducible rfl)
        (try simp only [Act.put, List.setIfInBounds_toArray, List.set_cons_zero, List.set_cons_succ])
        refine wpAnyH_take (i := 4) (oi := { dst := some 10, op := Op.fieldAddr 34 (Operand.tmp 9) 0, type := 0, pos := "trace.go:64", after := #[{ on := 3, ground := Ground.data }, { on := 6, ground := Ground.gcOnly Departure.lateStores }], guard := none }) (v := ?_) rfl (by kernel_rfl) (by kernel_rfl) (by kernel_rfl) (fun _ _ _ h => h) (Or.inl ⟨by rfl, ?_⟩) (by assumption) ?_
        rotate_left
        · intro wz hSz; (try dsimp only at hSz); go_simp; all_goals (with_reducible rfl)
        (try simp only [Act.put, List.setIfInBounds_toArray, List.set_cons_zero, List.set_cons_succ])
        refine wpAnyH_take (i := 5) (oi := { dst := some 11, op := Op.load 9 (Operand.tmp 10), type := 9, pos := "trace.go:64", after := #[{ on := 4, ground := Ground.data }, { on := 6, ground := Ground.gcOnly Departure.lateStores }], guard := none }) (v := ?_) rfl (by kernel_rfl) (by kernel_rfl) (by kernel_rfl) (fun _ _ _ h => h) (Or.inl ⟨by rfl, ?_⟩) (by assumption) ?_
        rotate_left
        · intro wz hSz; (try dsimp only at hSz); go_simp; all_goals (with_reducible rfl)
        (try simp only [Act.put, List.setIfInBounds_toArray, List.set_cons_zero, List.set_cons_succ])
        refine wpAnyH_ready (rs := [2]) (by kernel_rfl) (by simp) ?_
        refine AllReadyH.cons (o := { dst := some 8, op := Op.call { callee := Callee.value (Operand.func 44), args := #[Operand.tmp 7], argTypes := #[3] }, type := 9, pos := "trace.go:64", after := #[{ on := 1, ground := Ground.data }], guard := none }) rfl (fun K hK => ?_) AllReadyH.nil
        go_simp
        go_at_call 44
        refine Calls.mono (ka _ (hPw.below hb0.drew)) ?_
        rintro e w1 ⟨rfl, h1⟩
        have K1 := K0.drew.below h1
        have hb1 := bel_after hb0.drew hb0.drew.size h1
        go_wp2_with fail
        refine hK.out _ _ ?_ (fun hHeld => ?_)
        · (try dsimp only)
          exact ⟨K1.2.1 0, K1.2.1 2⟩
        clear hK K
        (try simp only [Act.put, List.setIfInBounds_toArray, List.set_cons_zero, List.set_cons_succ])
        refine wpAnyH_take (i := 6) (oi := { dst := some 3, op := Op.assign (Operand.tmp 8), type := 9, pos := "trace.go:64", after := #[{ on := 2, ground := Ground.data }, { on := 2, ground := Ground.chain }, { on := 0, ground := Ground.phase }, { on := 1, ground := Ground.phase }, { on := 2, ground := Ground.phase }, { on := 3, ground := Ground.textOnly Departure.lateStores }, { on := 4, ground := Ground.textOnly Departure.lateStores }, { on := 5, ground := Ground.textOnly Departure.lateStores }], guard := none }) (v := ?_) rfl (by kernel_rfl) (by kernel_rfl) (by kernel_rfl) (fun _ _ _ h => h) (Or.inl ⟨by rfl, ?_⟩) (by assumption) ?_
        rotate_left
        · intro wz hSz; (try dsimp only at hSz); go_simp; all_goals (with_reducible rfl)
        (try simp only [Act.put, List.setIfInBounds_toArray, List.set_cons_zero, List.set_cons_succ])
        refine wpAnyH_take (i := 7) (oi := { dst := some 4, op := Op.assign (Operand.tmp 11), type := 9, pos := "trace.go:64", after := #[{ on := 5, ground := Ground.data }, { on := 6, ground := Ground.chain }, { on := 0, ground := Ground.phase }, { on := 1, ground := Ground.phase }, { on := 2, ground := Ground.phase }, { on := 3, ground := Ground.phase }, { on := 4, ground := Ground.phase }, { on := 5, ground := Ground.phase }, { on := 6, ground := Ground.phase }], guard := none }) (v := ?_) rfl (by kernel_rfl) (by kernel_rfl) (by kernel_rfl) (fun _ _ _ h => h) (Or.inl ⟨by rfl, ?_⟩) (by assumption) ?_
        rotate_left
        · intro wz hSz; (try dsimp only at hSz); go_simp; all_goals (with_reducible rfl)
        (try simp only [Act.put, List.setIfInBounds_toArray, List.set_cons_zero, List.set_cons_succ])
        refine wpAnyH_take (i := 8) (oi := { dst := some 5, op := Op.assign (Operand.const (Value.string { data := #[45] })), type := 9, pos := "trace.go:64", after := #[{ on := 7, ground := Ground.chain }, { on := 0, ground := Ground.phase }, { on := 1, ground := Ground.phase }, { on := 2, ground := Ground.phase }, { on := 3, ground := Ground.phase }, { on := 4, ground := Ground.phase }, { on := 5, ground := Ground.phase }, { on := 6, ground := Ground.phase }, { on := 7, ground := Ground.phase }], guard := none }) (v := ?_) rfl (by kernel_rfl) (by kernel_rfl) (by kernel_rfl) (fun _ _ _ h => h) (Or.inl ⟨by rfl, ?_⟩) (by assumption) ?_
        rotate_left
        · intro wz hSz; (try dsimp only at hSz); go_simp; all_goals (with_reducible rfl)
        (try simp only [Act.put, List.setIfInBounds_toArray, List.set_cons_zero, List.set_cons_succ])
        refine wpAnyH_done (by kernel_rfl) ?_ _
        refine NoPanic.normal ?_
        obtain ⟨_, v1, v2⟩ := id K1
        go_wp2_with fail
        go_ret
        exact ⟨ret_str (hA.out.symm), hb1⟩
    | false =>
      have eH : hsF h = h := by unfold hsF; rw [hE]; rfl
      by_cases hg : 0 ≤ s
      case pos =>
        have eS : sgF s = ti s := by unfold sgF; rw [if_pos hg]
        have hA : Hid (lnF a b h s = tkF a b ++ ⟨#[32]⟩ ++ hsF h ++ ⟨#[32]⟩ ++ sgF s ++ ⟨#[10]⟩) := rfl
        rw [eT, eH, eS] at hA
        generalize lnF a b h s = A at *
        generalize ti (a : Int) = TA at *
        generalize ti (b : Int) = TB at *
        generalize ti s = TS at *
        clear eT eH eS
        go_enter Tryd.func26, Tryd.ntmps26
        go_upto_region 1 with fail
        refine wp_region_noPanic ?_
        refine wp_region_held_drew (S := fun w' => w'.cell? ⟨w.heap.size, 0, none⟩ = some (.string h) ∧ w'.cell? ⟨w.heap.size, 2, none⟩ = some (.int .i64 (a : Int))) (by kernel_rfl) ?_ (fun hHeld => ?_)
        · (try dsimp only)
          exact ⟨K0.drew.2.1 0, K0.drew.2.1 2⟩
        refine wpAnyH_take (i := 0) (oi := { dst := some 6, op := Op.fieldAddr 50 (Operand.tmp 1) 1, type := 0, pos := "trace.go:64", after := #[], guard := none }) (v := ?_) rfl (by kernel_rfl) (by kernel_rfl) (by kernel_rfl) (fun _ _ _ h => h) (Or.inl ⟨by rfl, ?_⟩) (by assumption) ?_
        rotate_left
        · intro wz hSz; (try dsimp only at hSz); go_simp; all_goals (with_reducible rfl)
        (try simp only [Act.put, List.setIfInBounds_toArray, List.set_cons_zero, List.set_cons_succ])
        refine wpAnyH_take (i := 1) (oi := { dst := some 7, op := Op.load 3 (Operand.tmp 6), type := 3, pos := "trace.go:64", after := #[{ on := 0, ground := Ground.data }], guard := none }) (v := ?_) rfl (by kernel_rfl) (by kernel_rfl) (by kernel_rfl) (fun _ _ _ h => h) (Or.inl ⟨by rfl, ?_⟩) (by assumption) ?_
        rotate_left
        · intro wz hSz; (try dsimp only at hSz); go_simp; all_goals (with_reducible rfl)
        (try simp only [Act.put, List.setIfInBounds_toArray, List.set_cons_zero, List.set_cons_succ])
        refine wpAnyH_take (i := 3) (oi := { dst := some 9, op := Op.fieldAddr 50 (Operand.tmp 1) 0, type := 0, pos := "trace.go:64", after := #[{ on := 6, ground := Ground.gcOnly Departure.lateStores }], guard := none }) (v := ?_) rfl (by kernel_rfl) (by kernel_rfl) (by kernel_rfl) (fun _ _ _ h => h) (Or.inl ⟨by rfl, ?_⟩) (by assumption) ?_
        rotate_left
        · intro wz hSz; (try dsimp only at hSz); go_simp; all_goals (with_reducible rfl)
        (try simp only [Act.put, List.setIfInBounds_toArray, List.set_cons_zero, List.set_cons_succ])
        refine wpAnyH_take (i := 4) (oi := { dst := some 10, op := Op.fieldAddr 34 (Operand.tmp 9) 0, type := 0, pos := "trace.go:64", after := #[{ on := 3, ground := Ground.data }, { on := 6, ground := Ground.gcOnly Departure.lateStores }], guard := none }) (v := ?_) rfl (by kernel_rfl) (by kernel_rfl) (by kernel_rfl) (fun _ _ _ h => h) (Or.inl ⟨by rfl, ?_⟩) (by assumption) ?_
        rotate_left
        · intro wz hSz; (try dsimp only at hSz); go_simp; all_goals (with_reducible rfl)
        (try simp only [Act.put, List.setIfInBounds_toArray, List.set_cons_zero, List.set_cons_succ])
        refine wpAnyH_take (i := 5) (oi := { dst := some 11, op := Op.load 9 (Operand.tmp 10), type := 9, pos := "trace.go:64", after := #[{ on := 4, ground := Ground.data }, { on := 6, ground := Ground.gcOnly Departure.lateStores }], guard := none }) (v := ?_) rfl (by kernel_rfl) (by kernel_rfl) (by kernel_rfl) (fun _ _ _ h => h) (Or.inl ⟨by rfl, ?_⟩) (by assumption) ?_
        rotate_left
        · intro wz hSz; (try dsimp only at hSz); go_simp; all_goals (with_reducible rfl)
        (try simp only [Act.put, List.setIfInBounds_toArray, List.set_cons_zero, List.set_cons_succ])
        refine wpAnyH_ready (rs := [2]) (by kernel_rfl) (by simp) ?_
        refine AllReadyH.cons (o := { dst := some 8, op := Op.call { callee := Callee.value (Operand.func 44), args := #[Operand.tmp 7], argTypes := #[3] }, type := 9, pos := "trace.go:64", after := #[{ on := 1, ground := Ground.data }], guard := none }) rfl (fun K hK => ?_) AllReadyH.nil
        go_simp
        go_at_call 44
        refine Calls.mono (ka _ (hPw.below hb0.drew)) ?_
        rintro e w1 ⟨rfl, h1⟩
        have K1 := K0.drew.below h1
        have hb1 := bel_after hb0.drew hb0.drew.size h1
        go_wp2_with fail
        refine hK.out _ _ ?_ (fun hHeld => ?_)
        · (try dsimp only)
          exact ⟨K1.2.1 0, K1.2.1 2⟩
        clear hK K
        (try simp only [Act.put, List.setIfInBounds_toArray, List.set_cons_zero, List.set_cons_succ])
        refine wpAnyH_take (i := 6) (oi := { dst := some 3, op := Op.assign (Operand.tmp 8), type := 9, pos := "trace.go:64", after := #[{ on := 2, ground := Ground.data }, { on := 2, ground := Ground.chain }, { on := 0, ground := Ground.phase }, { on := 1, ground := Ground.phase }, { on := 2, ground := Ground.phase }, { on := 3, ground := Ground.textOnly Departure.lateStores }, { on := 4, ground := Ground.textOnly Departure.lateStores }, { on := 5, ground := Ground.textOnly Departure.lateStores }], guard := none }) (v := ?_) rfl (by kernel_rfl) (by kernel_rfl) (by kernel_rfl) (fun _ _ _ h => h) (Or.inl ⟨by rfl, ?_⟩) (by assumption) ?_
        rotate_left
        · intro wz hSz; (try dsimp only at hSz); go_simp; all_goals (with_reducible rfl)
        (try simp only [Act.put, List.setIfInBounds_toArray, List.set_cons_zero, List.set_cons_succ])
        refine wpAnyH_take (i := 7) (oi := { dst := some 4, op := Op.assign (Operand.tmp 11), type := 9, pos := "trace.go:64", after := #[{ on := 5, ground := Ground.data }, { on := 6, ground := Ground.chain }, { on := 0, ground := Ground.phase }, { on := 1, ground := Ground.phase }, { on := 2, ground := Ground.phase }, { on := 3, ground := Ground.phase }, { on := 4, ground := Ground.phase }, { on := 5, ground := Ground.phase }, { on := 6, ground := Ground.phase }], guard := none }) (v := ?_) rfl (by kernel_rfl) (by kernel_rfl) (by kernel_rfl) (fun _ _ _ h => h) (Or.inl ⟨by rfl, ?_⟩) (by assumption) ?_
        rotate_left
        · intro wz hSz; (try dsimp only at hSz); go_simp; all_goals (with_reducible rfl)
        (try simp only [Act.put, List.setIfInBounds_toArray, List.set_cons_zero, List.set_cons_succ])
        refine wpAnyH_take (i := 8) (oi := { dst := some 5, op := Op.assign (Operand.const (Value.string { data := #[45] })), type := 9, pos := "trace.go:64", after := #[{ on := 7, ground := Ground.chain }, { on := 0, ground := Ground.phase }, { on := 1, ground := Ground.phase }, { on := 2, ground := Ground.phase }, { on := 3, ground := Ground.phase }, { on := 4, ground := Ground.phase }, { on := 5, ground := Ground.phase }, { on := 6, ground := Ground.phase }, { on := 7, ground := Ground.phase }], guard := none }) (v := ?_) rfl (by kernel_rfl) (by kernel_rfl) (by kernel_rfl) (fun _ _ _ h => h) (Or.inl ⟨by rfl, ?_⟩) (by assumption) ?_
        rotate_left
        · intro wz hSz; (try dsimp only at hSz); go_simp; all_goals (with_reducible rfl)
        (try simp only [Act.put, List.setIfInBounds_toArray, List.set_cons_zero, List.set_cons_succ])
        refine wpAnyH_done (by kernel_rfl) ?_ _
        refine NoPanic.normal ?_
        obtain ⟨_, v1, v2⟩ := id K1
        go_wp2_with fail
        go_at_call 44
        refine Calls.mono (ks _ (hPw.below hb1)) ?_
        rintro e w3 ⟨rfl, h3⟩
        have hb3 := bel_after hb1 hb1.size h3
        go_wp2_with fail
        go_ret
        exact ⟨ret_str (hA.out.symm), hb3⟩
      case neg =>
        have eS : sgF s = ⟨#[45]⟩ := by unfold sgF; rw [if_neg hg]
        have hg' : s < 0 := by omega
        have hA : Hid (lnF a b h s = tkF a b ++ ⟨#[32]⟩ ++ hsF h ++ ⟨#[32]⟩ ++ sgF s ++ ⟨#[10]⟩) := rfl
        rw [eT, eH, eS] at hA
        generalize lnF a b h s = A at *
        generalize ti (a : Int) = TA at *
        generalize ti (b : Int) = TB at *
        generalize ti s = TS at *
        clear eT eH eS
        go_enter Tryd.func26, Tryd.ntmps26
        go_upto_region 1 with fail
        refine wp_region_noPanic ?_
        refine wp_region_held_drew (S := fun w' => w'.cell? ⟨w.heap.size, 0, none⟩ = some (.string h) ∧ w'.cell? ⟨w.heap.size, 2, none⟩ = some (.int .i64 (a : Int))) (by kernel_rfl) ?_ (fun hHeld => ?_)
        · (try dsimp only)
          exact ⟨K0.drew.2.1 0, K0.drew.2.1 2⟩
        refine wpAnyH_take (i := 0) (oi := { dst := some 6, op := Op.fieldAddr 50 (Operand.tmp 1) 1, type := 0, pos := "trace.go:64", after := #[], guard := none }) (v := ?_) rfl (by kernel_rfl) (by kernel_rfl) (by kernel_rfl) (fun _ _ _ h => h) (Or.inl ⟨by rfl, ?_⟩) (by assumption) ?_
        rotate_left
        · intro wz hSz; (try dsimp only at hSz); go_simp; all_goals (with_reducible rfl)
        (try simp only [Act.put, List.setIfInBounds_toArray, List.set_cons_zero, List.set_cons_succ])
        refine wpAnyH_take (i := 1) (oi := { dst := some 7, op := Op.load 3 (Operand.tmp 6), type := 3, pos := "trace.go:64", after := #[{ on := 0, ground := Ground.data }], guard := none }) (v := ?_) rfl (by kernel_rfl) (by kernel_rfl) (by kernel_rfl) (fun _ _ _ h => h) (Or.inl ⟨by rfl, ?_⟩) (by assumption) ?_
        rotate_left
        · intro wz hSz; (try dsimp only at hSz); go_simp; all_goals (with_reducible rfl)
        (try simp only [Act.put, List.setIfInBounds_toArray, List.set_cons_zero, List.set_cons_succ])
        refine wpAnyH_take (i := 3) (oi := { dst := some 9, op := Op.fieldAddr 50 (Operand.tmp 1) 0, type := 0, pos := "trace.go:64", after := #[{ on := 6, ground := Ground.gcOnly Departure.lateStores }], guard := none }) (v := ?_) rfl (by kernel_rfl) (by kernel_rfl) (by kernel_rfl) (fun _ _ _ h => h) (Or.inl ⟨by rfl, ?_⟩) (by assumption) ?_
        rotate_left
        · intro wz hSz; (try dsimp only at hSz); go_simp; all_goals (with_reducible rfl)
        (try simp only [Act.put, List.setIfInBounds_toArray, List.set_cons_zero, List.set_cons_succ])
        refine wpAnyH_take (i := 4) (oi := { dst := some 10, op := Op.fieldAddr 34 (Operand.tmp 9) 0, type := 0, pos := "trace.go:64", after := #[{ on := 3, ground := Ground.data }, { on := 6, ground := Ground.gcOnly Departure.lateStores }], guard := none }) (v := ?_) rfl (by kernel_rfl) (by kernel_rfl) (by kernel_rfl) (fun _ _ _ h => h) (Or.inl ⟨by rfl, ?_⟩) (by assumption) ?_
        rotate_left
        · intro wz hSz; (try dsimp only at hSz); go_simp; all_goals (with_reducible rfl)
        (try simp only [Act.put, List.setIfInBounds_toArray, List.set_cons_zero, List.set_cons_succ])
        refine wpAnyH_take (i := 5) (oi := { dst := some 11, op := Op.load 9 (Operand.tmp 10), type := 9, pos := "trace.go:64", after := #[{ on := 4, ground := Ground.data }, { on := 6, ground := Ground.gcOnly Departure.lateStores }], guard := none }) (v := ?_) rfl (by kernel_rfl) (by kernel_rfl) (by kernel_rfl) (fun _ _ _ h => h) (Or.inl ⟨by rfl, ?_⟩) (by assumption) ?_
        rotate_left
        · intro wz hSz; (try dsimp only at hSz); go_simp; all_goals (with_reducible rfl)
        (try simp only [Act.put, List.setIfInBounds_toArray, List.set_cons_zero, List.set_cons_succ])
        refine wpAnyH_ready (rs := [2]) (by kernel_rfl) (by simp) ?_
        refine AllReadyH.cons (o := { dst := some 8, op := Op.call { callee := Callee.value (Operand.func 44), args := #[Operand.tmp 7], argTypes := #[3] }, type := 9, pos := "trace.go:64", after := #[{ on := 1, ground := Ground.data }], guard := none }) rfl (fun K hK => ?_) AllReadyH.nil
        go_simp
        go_at_call 44
        refine Calls.mono (ka _ (hPw.below hb0.drew)) ?_
        rintro e w1 ⟨rfl, h1⟩
        have K1 := K0.drew.below h1
        have hb1 := bel_after hb0.drew hb0.drew.size h1
        go_wp2_with fail
        refine hK.out _ _ ?_ (fun hHeld => ?_)
        · (try dsimp only)
          exact ⟨K1.2.1 0, K1.2.1 2⟩
        clear hK K
        (try simp only [Act.put, List.setIfInBounds_toArray, List.set_cons_zero, List.set_cons_succ])
        refine wpAnyH_take (i := 6) (oi := { dst := some 3, op := Op.assign (Operand.tmp 8), type := 9, pos := "trace.go:64", after := #[{ on := 2, ground := Ground.data }, { on := 2, ground := Ground.chain }, { on := 0, ground := Ground.phase }, { on := 1, ground := Ground.phase }, { on := 2, ground := Ground.phase }, { on := 3, ground := Ground.textOnly Departure.lateStores }, { on := 4, ground := Ground.textOnly Departure.lateStores }, { on := 5, ground := Ground.textOnly Departure.lateStores }], guard := none }) (v := ?_) rfl (by kernel_rfl) (by kernel_rfl) (by kernel_rfl) (fun _ _ _ h => h) (Or.inl ⟨by rfl, ?_⟩) (by assumption) ?_
        rotate_left
        · intro wz hSz; (try dsimp only at hSz); go_simp; all_goals (with_reducible rfl)
        (try simp only [Act.put, List.setIfInBounds_toArray, List.set_cons_zero, List.set_cons_succ])
        refine wpAnyH_take (i := 7) (oi := { dst := some 4, op := Op.assign (Operand.tmp 11), type := 9, pos := "trace.go:64", after := #[{ on := 5, ground := Ground.data }, { on := 6, ground := Ground.chain }, { on := 0, ground := Ground.phase }, { on := 1, ground := Ground.phase }, { on := 2, ground := Ground.phase }, { on := 3, ground := Ground.phase }, { on := 4, ground := Ground.phase }, { on := 5, ground := Ground.phase }, { on := 6, ground := Ground.phase }], guard := none }) (v := ?_) rfl (by kernel_rfl) (by kernel_rfl) (by kernel_rfl) (fun _ _ _ h => h) (Or.inl ⟨by rfl, ?_⟩) (by assumption) ?_
        rotate_left
        · intro wz hSz; (try dsimp only at hSz); go_simp; all_goals (with_reducible rfl)
        (try simp only [Act.put, List.setIfInBounds_toArray, List.set_cons_zero, List.set_cons_succ])
        refine wpAnyH_take (i := 8) (oi := { dst := some 5, op := Op.assign (Operand.const (Value.string { data := #[45] })), type := 9, pos := "trace.go:64", after := #[{ on := 7, ground := Ground.chain }, { on := 0, ground := Ground.phase }, { on := 1, ground := Ground.phase }, { on := 2, ground := Ground.phase }, { on := 3, ground := Ground.phase }, { on := 4, ground := Ground.phase }, { on := 5, ground := Ground.phase }, { on := 6, ground := Ground.phase }, { on := 7, ground := Ground.phase }], guard := none }) (v := ?_) rfl (by kernel_rfl) (by kernel_rfl) (by kernel_rfl) (fun _ _ _ h => h) (Or.inl ⟨by rfl, ?_⟩) (by assumption) ?_
        rotate_left
        · intro wz hSz; (try dsimp only at hSz); go_simp; all_goals (with_reducible rfl)
        (try simp only [Act.put, List.setIfInBounds_toArray, List.set_cons_zero, List.set_cons_succ])
        refine wpAnyH_done (by kernel_rfl) ?_ _
        refine NoPanic.normal ?_
        obtain ⟨_, v1, v2⟩ := id K1
        go_wp2_with fail
        go_ret
        exact ⟨ret_str (hA.out.symm), hb1⟩
set_option maxRecDepth 100000 in
set_option maxHeartbeats 2000000 in
theorem refLine_any (a b : Nat) (h : ByteArray) (s : Int) (w : World) (ha : a ≤ 65536) (hb : b ≤ 65536) (hh : h.size ≤ 64) (hs : -9223372036854775808 ≤ s ∧ s ≤ 9223372036854775807) :
    Calls Tryd.prog 46 #[.int .i64 (a : Int), .int .i64 (b : Int), .agg #[.string h, .int .i64 s]] w fun e w' => e = .returned (.string (lnF a b h s)) ∧ Below w.heap.size w w' := by
  have hb0 : Below w.heap.size w (w.alloc (.cells #[.string h, .int .i64 s] 34)) := (Below.refl _ _).alloc (Nat.le_refl _) _
  have K0 : Has (w.alloc (.cells #[.string h, .int .i64 s] 34)) w.heap.size #[.string h, .int .i64 s] := Has.new _ _ _ rfl
  have ka := fun (X : World) => dec_any (a : Int).natAbs (a : Int) X (Nat.le_refl _) (by omega) (by omega)
  have kb := fun (X : World) => dec_any (b : Int).natAbs (b : Int) X (Nat.le_refl _) (by omega) (by omega)
  have ks := fun (X : World) => dec_any s.natAbs s X (Nat.le_refl _) hs.1 hs.2
  have s1 := ti_size (a : Int) (by omega) (by omega)
  have s2 := ti_size (b : Int) (by omega) (by omega)
  have s3 := ti_size s hs.1 hs.2
  by_cases hx : a < b
  case pos =>
    have g1 : (b : Int) > (a : Int) := by omega
    have g1' : (a : Int) < (b : Int) := by omega
    have eT : tkF a b = ti (a : Int) ++ ⟨#[45]⟩ ++ ti (b : Int) := by unfold tkF; rw [if_pos hx]
    cases hE : h.toList.isEmpty with
    | true =>
      have eH : hsF h = ⟨#[46]⟩ := by unfold hsF; rw [hE]; rfl
      by_cases hg : 0 ≤ s
      case pos =>
        have eS : sgF s = ti s := by unfold sgF; rw [if_pos hg]
        have hA : Hid (lnF a b h s = tkF a b ++ ⟨#[32]⟩ ++ hsF h ++ ⟨#[32]⟩ ++ sgF s ++ ⟨#[10]⟩) := rfl
        rw [eT, eH, eS] at hA
        generalize lnF a b h s = A at *
        generalize ti (a : Int) = TA at *
        generalize ti (b : Int) = TB at *
        generalize ti s = TS at *
        clear eT eH eS
        obtain ⟨_, v1, v2⟩ := id K0
        go_enter Tryd.func46, Tryd.ntmps46
        go_wp2_with fail
        go_at_call 58
        refine Calls.mono (ka _) ?_
        rintro e w1 ⟨rfl, h1⟩
        have K1 := K0.below h1
        have hb1 := bel_after hb0 hb0.size h1
        clear v1 v2
        obtain ⟨_, v1, v2⟩ := id K1
        go_wp2_with fail
        go_at_call 58
        refine Calls.mono (kb _) ?_
        rintro e w2 ⟨rfl, h2⟩
        have K2 := K1.below h2
        have hb2 := bel_after hb1 hb1.size h2
        clear v1 v2
        obtain ⟨_, v1, v2⟩ := id K2
        go_wp2_with fail
        go_at_call 58
        refine Calls.mono (ks _) ?_
        rintro e w3 ⟨rfl, h3⟩
        have hb3 := bel_after hb2 hb2.size h3
        go_wp2_with fail
        go_ret
        exact ⟨ret_str hA.out.symm, hb3⟩
      case neg =>
        have eS : sgF s = ⟨#[45]⟩ := by unfold sgF; rw [if_neg hg]
        have hg' : s < 0 := by omega
        have hA : Hid (lnF a b h s = tkF a b ++ ⟨#[32]⟩ ++ hsF h ++ ⟨#[32]⟩ ++ sgF s ++ ⟨#[10]⟩) := rfl
        rw [eT, eH, eS] at hA
        generalize lnF a b h s = A at *
        generalize ti (a : Int) = TA at *
        generalize ti (b : Int) = TB at *
        generalize ti s = TS at *
        clear eT eH eS
        obtain ⟨_, v1, v2⟩ := id K0
        go_enter Tryd.func46, Tryd.ntmps46
        go_wp2_with fail
        go_at_call 58
        refine Calls.mono (ka _) ?_
        rintro e w1 ⟨rfl, h1⟩
        have K1 := K0.below h1
        have hb1 := bel_after hb0 hb0.size h1
        clear v1 v2
        obtain ⟨_, v1, v2⟩ := id K1
        go_wp2_with fail
        go_at_call 58
        refine Calls.mono (kb _) ?_
        rintro e w2 ⟨rfl, h2⟩
        have K2 := K1.below h2
        have hb2 := bel_after hb1 hb1.size h2
        clear v1 v2
        obtain ⟨_, v1, v2⟩ := id K2
        go_wp2_with fail
        go_ret
        exact ⟨ret_str hA.out.symm, hb2⟩
    | false =>
      have eH : hsF h = h := by unfold hsF; rw [hE]; rfl
      by_cases hg : 0 ≤ s
      case pos =>
        have eS : sgF s = ti s := by unfold sgF; rw [if_pos hg]
        have hA : Hid (lnF a b h s = tkF a b ++ ⟨#[32]⟩ ++ hsF h ++ ⟨#[32]⟩ ++ sgF s ++ ⟨#[10]⟩) := rfl
        rw [eT, eH, eS] at hA
        generalize lnF a b h s = A at *
        generalize ti (a : Int) = TA at *
        generalize ti (b : Int) = TB at *
        generalize ti s = TS at *
        clear eT eH eS
        obtain ⟨_, v1, v2⟩ := id K0
        go_enter Tryd.func46, Tryd.ntmps46
        go_wp2_with fail
        go_at_call 58
        refine Calls.mono (ka _) ?_
        rintro e w1 ⟨rfl, h1⟩
        have K1 := K0.below h1
        have hb1 := bel_after hb0 hb0.size h1
        clear v1 v2
        obtain ⟨_, v1, v2⟩ := id K1
        go_wp2_with fail
        go_at_call 58
        refine Calls.mono (kb _) ?_
        rintro e w2 ⟨rfl, h2⟩
        have K2 := K1.below h2
        have hb2 := bel_after hb1 hb1.size h2
        clear v1 v2
        obtain ⟨_, v1, v2⟩ := id K2
        go_wp2_with fail
        go_at_call 58
        refine Calls.mono (ks _) ?_
        rintro e w3 ⟨rfl, h3⟩
        have hb3 := bel_after hb2 hb2.size h3
        go_wp2_with fail
        go_ret
        exact ⟨ret_str hA.out.symm, hb3⟩
      case neg =>
        have eS : sgF s = ⟨#[45]⟩ := by unfold sgF; rw [if_neg hg]
        have hg' : s < 0 := by omega
        have hA : Hid (lnF a b h s = tkF a b ++ ⟨#[32]⟩ ++ hsF h ++ ⟨#[32]⟩ ++ sgF s ++ ⟨#[10]⟩) := rfl
        rw [eT, eH, eS] at hA
        generalize lnF a b h s = A at *
        generalize ti (a : Int) = TA at *
        generalize ti (b : Int) = TB at *
        generalize ti s = TS at *
        clear eT eH eS
        obtain ⟨_, v1, v2⟩ := id K0
        go_enter Tryd.func46, Tryd.ntmps46
        go_wp2_with fail
        go_at_call 58
        refine Calls.mono (ka _) ?_
        rintro e w1 ⟨rfl, h1⟩
        have K1 := K0.below h1
        have hb1 := bel_after hb0 hb0.size h1
        clear v1 v2
        obtain ⟨_, v1, v2⟩ := id K1
        go_wp2_with fail
        go_at_call 58
        refine Calls.mono (kb _) ?_
        rintro e w2 ⟨rfl, h2⟩
        have K2 := K1.below h2
        have hb2 := bel_after hb1 hb1.size h2
        clear v1 v2
        obtain ⟨_, v1, v2⟩ := id K2
        go_wp2_with fail
        go_ret
        exact ⟨ret_str hA.out.symm, hb2⟩
  case neg =>
    have g1 : ¬ (b : Int) > (a : Int) := by omega
    have g1' : ¬ (a : Int) < (b : Int) := by omega
    have eT : tkF a b = ti (a : Int) := by unfold tkF; rw [if_neg hx]
    cases hE : h.toList.isEmpty with
    | true =>
      have eH : hsF h = ⟨#[46]⟩ := by unfold hsF; rw [hE]; rfl
      by_cases hg : 0 ≤ s
      case pos =>
        have eS : sgF s = ti s := by unfold sgF; rw [if_pos hg]
        have hA : Hid (lnF a b h s = tkF a b ++ ⟨#[32]⟩ ++ hsF h ++ ⟨#[32]⟩ ++ sgF s ++ ⟨#[10]⟩) := rfl
        rw [eT, eH, eS] at hA
        generalize lnF a b h s = A at *
        generalize ti (a : Int) = TA at *
        generalize ti (b : Int) = TB at *
        generalize ti s = TS at *
        clear eT eH eS
        obtain ⟨_, v1, v2⟩ := id K0
        go_enter Tryd.func46, Tryd.ntmps46
        go_wp2_with fail
        go_at_call 58
        refine Calls.mono (ka _) ?_
        rintro e w1 ⟨rfl, h1⟩
        have K1 := K0.below h1
        have hb1 := bel_after hb0 hb0.size h1
        clear v1 v2
        obtain ⟨_, v1, v2⟩ := id K1
        go_wp2_with fail
        go_at_call 58
        refine Calls.mono (ks _) ?_
        rintro e w3 ⟨rfl, h3⟩
        have hb3 := bel_after hb1 hb1.size h3
        go_wp2_with fail
        go_ret
        exact ⟨ret_str hA.out.symm, hb3⟩
      case neg =>
        have eS : sgF s = ⟨#[45]⟩ := by unfold sgF; rw [if_neg hg]
        have hg' : s < 0 := by omega
        have hA : Hid (lnF a b h s = tkF a b ++ ⟨#[32]⟩ ++ hsF h ++ ⟨#[32]⟩ ++ sgF s ++ ⟨#[10]⟩) := rfl
        rw [eT, eH, eS] at hA
        generalize lnF a b h s = A at *
        generalize ti (a : Int) = TA at *
        generalize ti (b : Int) = TB at *
        generalize ti s = TS at *
        clear eT eH eS
        obtain ⟨_, v1, v2⟩ := id K0
        go_enter Tryd.func46, Tryd.ntmps46
        go_wp2_with fail
        go_at_call 58
        refine Calls.mono (ka _) ?_
        rintro e w1 ⟨rfl, h1⟩
        have K1 := K0.below h1
        have hb1 := bel_after hb0 hb0.size h1
        clear v1 v2
        obtain ⟨_, v1, v2⟩ := id K1
        go_wp2_with fail
        go_ret
        exact ⟨ret_str hA.out.symm, hb1⟩
    | false =>
      have eH : hsF h = h := by unfold hsF; rw [hE]; rfl
      by_cases hg : 0 ≤ s
      case pos =>
        have eS : sgF s = ti s := by unfold sgF; rw [if_pos hg]
        have hA : Hid (lnF a b h s = tkF a b ++ ⟨#[32]⟩ ++ hsF h ++ ⟨#[32]⟩ ++ sgF s ++ ⟨#[10]⟩) := rfl
        rw [eT, eH, eS] at hA
        generalize lnF a b h s = A at *
        generalize ti (a : Int) = TA at *
        generalize ti (b : Int) = TB at *
        generalize ti s = TS at *
        clear eT eH eS
        obtain ⟨_, v1, v2⟩ := id K0
        go_enter Tryd.func46, Tryd.ntmps46
        go_wp2_with fail
        go_at_call 58
        refine Calls.mono (ka _) ?_
        rintro e w1 ⟨rfl, h1⟩
        have K1 := K0.below h1
        have hb1 := bel_after hb0 hb0.size h1
        clear v1 v2
        obtain ⟨_, v1, v2⟩ := id K1
        go_wp2_with fail
        go_at_call 58
        refine Calls.mono (ks _) ?_
        rintro e w3 ⟨rfl, h3⟩
        have hb3 := bel_after hb1 hb1.size h3
        go_wp2_with fail
        go_ret
        exact ⟨ret_str hA.out.symm, hb3⟩
      case neg =>
        have eS : sgF s = ⟨#[45]⟩ := by unfold sgF; rw [if_neg hg]
        have hg' : s < 0 := by omega
        have hA : Hid (lnF a b h s = tkF a b ++ ⟨#[32]⟩ ++ hsF h ++ ⟨#[32]⟩ ++ sgF s ++ ⟨#[10]⟩) := rfl
        rw [eT, eH, eS] at hA
        generalize lnF a b h s = A at *
        generalize ti (a : Int) = TA at *
        generalize ti (b : Int) = TB at *
        generalize ti s = TS at *
        clear eT eH eS
        obtain ⟨_, v1, v2⟩ := id K0
        go_enter Tryd.func46, Tryd.ntmps46
        go_wp2_with fail
        go_at_call 58
        refine Calls.mono (ka _) ?_
        rintro e w1 ⟨rfl, h1⟩
        have K1 := K0.below h1
        have hb1 := bel_after hb0 hb0.size h1
        clear v1 v2
        obtain ⟨_, v1, v2⟩ := id K1
        go_wp2_with fail
        go_ret
        exact ⟨ret_str hA.out.symm, hb1⟩
end Go.Proofs.YtcajejfddfiidaaDoor
