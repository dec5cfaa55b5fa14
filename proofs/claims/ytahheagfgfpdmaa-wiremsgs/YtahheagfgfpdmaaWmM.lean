import Derived.Test.YtahheagfgfpdmaaWmC
namespace Go.Proofs.Ytahheagfgfpdmaa
open Go.RowKit
set_option linter.unusedVariables false
set_option linter.unusedSimpArgs false

set_option maxRecDepth 100000 in
set_option maxHeartbeats 2000000 in
theorem wireMsg_any (S S' : Nat → Prop) (D : List Int) (l : Nat) (k s n u : Int) (va vb : Option Addr) (ca cb : Nat) (w : World) (hD : D.length = l) (h1 : By S w (.slice va l ca) D) (h2 : By S' w (.slice vb l cb) D) (hl : l ≤ 140737488355328) :
    Calls Try.prog 13 #[.agg #[.int .i64 k, .int .i64 s, .int .u32 n, .int .u32 u, .slice va l ca], .agg #[.int .i64 k, .int .i64 s, .int .u32 n, .int .u32 u, .slice vb l cb]] w fun e w' => e = .returned (.bool true) ∧ Below w.heap.size w w' := by
  have bN2 : Below w.heap.size w ((w.alloc (.cells #[.int .i64 k, .int .i64 s, .int .u32 n, .int .u32 u, .slice va l ca] 25)).alloc (.cells #[.int .i64 k, .int .i64 s, .int .u32 n, .int .u32 u, .slice vb l cb] 25)) := (belN1).alloc (by simp) _
  have h7 := bytes_any S S' D l va vb ca cb ((w.alloc (.cells #[.int .i64 k, .int .i64 s, .int .u32 n, .int .u32 u, .slice va l ca] 25)).alloc (.cells #[.int .i64 k, .int .i64 s, .int .u32 n, .int .u32 u, .slice vb l cb] 25)) hD (h1.keep (Mv.below bN2)) (h2.keep (Mv.below bN2)) hl
  clear h1 h2
  go_enter Try.func13, Try.ntmps13
  go_wp2_with (go_at_call 7; (with_reducible refine Calls.mono h7 ?_); rintro e w1 ⟨rfl, hb⟩)
  go_ret
  exact ⟨by first | rfl | simp, bN2.trans (hb.mono bN2.size)⟩
theorem By.rep {S : Nat → Prop} {w : World} {va : Option Addr} {n c k : Nat} {L : List Int} {x : Int} (h : By S w (.slice va n c) L) (hk : L[k]? = some x) : ∃ g o, va = some ⟨g, o, none⟩ ∧ w.cell? ⟨g, o + k, none⟩ = some (.int .u8 x) := by
  obtain ⟨hk1, hk2⟩ := List.getElem?_eq_some_iff.1 hk
  obtain ⟨g, o, e, -, -, e2⟩ := h.at hk1
  rw [hk2] at e2
  exact ⟨g, o, e, e2⟩
theorem rep_a (n k : Nat) (m : Int) (h : k < n) : (List.replicate n m)[k]? = some m := by simp [h]
theorem rep_b (n k : Nat) (m y : Int) (h : k < n) : (List.replicate n m ++ List.replicate 64 y)[k]? = some m := by
  rw [List.getElem?_append_left (by simpa using h)]; simp [h]
theorem rep_c (n k : Nat) (m y : Int) (h0 : n ≤ k) (h : k < n + 64) : (List.replicate n m ++ List.replicate 64 y)[k]? = some y := by
  rw [List.getElem?_append_right (by simpa using h0), List.length_replicate, List.getElem?_replicate, if_pos (by omega)]
set_option maxRecDepth 100000 in
set_option maxHeartbeats 2000000 in
theorem stands_any (S S' : Nat → Prop) (n : Nat) (m : Int) (va vg : Option Addr) (ca cg : Nat) (w : World) (h1 : By S w (.slice va n ca) (List.replicate n m)) (h2 : By S' w (.slice vg (n + 64) cg) (List.replicate n m ++ List.replicate 64 (m + 1))) (hm : 0 ≤ m ∧ m ≤ 200) (hn : n ≤ 1000) :
    Calls Try.prog 14 #[.agg #[.slice va n ca, .slice vg (n + 64) cg, .int .u8 m]] w fun e w' => e = .returned (.bool true) ∧ Below w.heap.size w w' := by
  have H1 : Hid (∀ X : World, Below w.heap.size w X → By S X (.slice va n ca) (List.replicate n m)) := fun X hX => h1.keep (Mv.below hX)
  have H2 : Hid (∀ X : World, Below w.heap.size w X → By S' X (.slice vg (n + 64) cg) (List.replicate n m ++ List.replicate 64 (m + 1))) := fun X hX => h2.keep (Mv.below hX)
  clear h1 h2
  have z64 : ((n + 64 : Nat) : Int) = (n : Int) + 64 := by omega
  have w64 : IntKind.i64.wrap ((n : Int) + 64) = (n : Int) + 64 := wrap64 _ (by omega)
  have wm : IntKind.u8.wrap (m + 1) = m + 1 := wrap8 _ (by omega)
  have hx0 : Hid (Has (w.alloc (.cells #[.slice va n ca, .slice vg (n + 64) cg, .int .u8 m] 32)) w.heap.size #[.slice va n ca, .slice vg (n + 64) cg, .int .u8 m]) := Has.new _ _ _ rfl
  have hb0 : Hid (Below w.heap.size w (w.alloc (.cells #[.slice va n ca, .slice vg (n + 64) cg, .int .u8 m] 32))) := belN1
  go_enter Try.func14, Try.ntmps14
  go_upto_region 1 with fail
  generalize w.alloc (.cells #[.slice va n ca, .slice vg (n + 64) cg, .int .u8 m] 32) = V at *
  go_wp2_with fail
  go_loopw [3] (fun s wr => ∃ k : Nat, k ≤ n ∧ s = .int .i64 (k : Int) ∧ Hid (Has wr w.heap.size #[.slice va n ca, .slice vg (n + 64) cg, .int .u8 m]) ∧ Hid (Below w.heap.size w wr)) (fun s _ => n - (intOf s).toNat)
  case atStart => exact ⟨0, by omega, rfl, hx0, hb0⟩
  case round =>
    clear hx0 hb0
    obtain ⟨k, hk, rfl, hx', hb'⟩ := hrel
    have hx := hx'.out
    have hb := hb'.out
    have b0 := hx.2.1 0
    have b1 := hx.2.1 1
    have b2 := hx.2.1 2
    by_cases hlt : k < n
    case neg =>
      have t1 : ¬ (k : Int) < (n : Int) := by omega
      clear hx hb
      go_wp2_with fail
      go_loopw [4] (fun s wr => ∃ k : Nat, n ≤ k ∧ k ≤ n + 64 ∧ s = .int .i64 (k : Int) ∧ Hid (Has wr w.heap.size #[.slice va n ca, .slice vg (n + 64) cg, .int .u8 m]) ∧ Hid (Below w.heap.size w wr)) (fun s _ => n + 64 - (intOf s).toNat)
      case atStart => exact ⟨n, by omega, by omega, rfl, hx', hb'⟩
      case round =>
        clear hx' hb' b0 b1 b2 t1
        obtain ⟨k, hk0, hk, rfl, hx', hb'⟩ := hrel
        have hx := hx'.out
        have hb := hb'.out
        have b0 := hx.2.1 0
        have b1 := hx.2.1 1
        have b2 := hx.2.1 2
        by_cases hlt : k < n + 64
        case neg =>
          have t1 : ¬ (k : Int) < ((n + 64 : Nat) : Int) := by omega
          have t2 : ¬ (k : Int) < (n : Int) + 64 := by omega
          clear hx hx' hb'
          go_wp2_with fail
          go_ret
          exact ⟨by first | rfl | simp, hb⟩
        have t1 : (k : Int) < ((n + 64 : Nat) : Int) := by omega
        have t2 : (k : Int) < (n : Int) + 64 := by omega
        have t3 : (0 : Int) ≤ (k : Int) := by omega
        obtain ⟨gg, og, rfl, x2⟩ := (H2.out wr hb).rep (rep_c n k m (m + 1) hk0 hlt)
        have hxd := hx'.out
        clear hx hx' hb'
        go_upto_region 9 with fail
        refine wp_region_noPanic ?_
        refine wp_region_held_drew (S := fun w' => w'.cell? ⟨w.heap.size, 1, none⟩ = some (.slice (some ⟨gg, og, none⟩) (n + 64) cg) ∧ w'.cell? ⟨w.heap.size, 2, none⟩ = some (.int .u8 m) ∧ w'.cell? ⟨gg, og + k, none⟩ = some (.int .u8 (m + 1))) (by kernel_rfl) ?_ (fun hHeld => ?_)
        · (try dsimp only)
          exact ⟨b1, b2, x2⟩
        refine wpAnyH_take (i := 0) (oi := { dst := some 40, op := Op.fieldAddr 32 (Operand.tmp 1) 1, type := 0, pos := "wirelaw.go:72", after := #[], guard := none }) (v := ?_) rfl (by kernel_rfl) (by kernel_rfl) (by kernel_rfl) (fun _ _ _ h => h) (Or.inl ⟨by rfl, ?_⟩) (by assumption) ?_
        rotate_left
        · intro wz hSz; (try dsimp only at hSz); go_simp; all_goals (with_reducible rfl)
        (try simp only [Act.put, List.setIfInBounds_toArray, List.set_cons_zero, List.set_cons_succ])
        refine wpAnyH_take (i := 1) (oi := { dst := some 41, op := Op.load 23 (Operand.tmp 40), type := 23, pos := "wirelaw.go:72", after := #[{ on := 0, ground := Ground.data }], guard := none }) (v := ?_) rfl (by kernel_rfl) (by kernel_rfl) (by kernel_rfl) (fun _ _ _ h => h) (Or.inl ⟨by rfl, ?_⟩) (by assumption) ?_
        rotate_left
        · intro wz hSz; (try dsimp only at hSz); go_simp; all_goals (with_reducible rfl)
        (try simp only [Act.put, List.setIfInBounds_toArray, List.set_cons_zero, List.set_cons_succ])
        refine wpAnyH_take (i := 2) (oi := { dst := some 42, op := Op.move (Operand.tmp 4), type := 3, pos := "wirelaw.go:72", after := #[], guard := none }) (v := ?_) rfl (by kernel_rfl) (by kernel_rfl) (by kernel_rfl) (fun _ _ _ h => h) (Or.inl ⟨by rfl, ?_⟩) (by assumption) ?_
        rotate_left
        · intro wz hSz; (try dsimp only at hSz); go_simp; all_goals (with_reducible rfl)
        (try simp only [Act.put, List.setIfInBounds_toArray, List.set_cons_zero, List.set_cons_succ])
        refine wpAnyH_take (i := 3) (oi := { dst := some 43, op := Op.indexAddr 23 (Operand.tmp 41) (Operand.tmp 42), type := 0, pos := "wirelaw.go:72", after := #[{ on := 1, ground := Ground.data }, { on := 2, ground := Ground.data }], guard := none }) (v := ?_) rfl (by kernel_rfl) (by kernel_rfl) (by kernel_rfl) (fun _ _ _ h => h) (Or.inl ⟨by rfl, ?_⟩) (by assumption) ?_
        rotate_left
        · intro wz hSz; (try dsimp only at hSz); go_simp; all_goals (with_reducible rfl)
        (try simp only [Act.put, List.setIfInBounds_toArray, List.set_cons_zero, List.set_cons_succ])
        refine wpAnyH_take (i := 4) (oi := { dst := some 44, op := Op.load 5 (Operand.tmp 43), type := 5, pos := "wirelaw.go:72", after := #[{ on := 3, ground := Ground.data }], guard := none }) (v := ?_) rfl (by kernel_rfl) (by kernel_rfl) (by kernel_rfl) (fun _ _ _ h => h) (Or.inl ⟨by rfl, ?_⟩) (by assumption) ?_
        rotate_left
        · intro wz hSz; (try dsimp only at hSz); go_simp; all_goals (with_reducible rfl)
        (try simp only [Act.put, List.setIfInBounds_toArray, List.set_cons_zero, List.set_cons_succ])
        refine wpAnyH_take (i := 5) (oi := { dst := some 45, op := Op.fieldAddr 32 (Operand.tmp 1) 2, type := 0, pos := "wirelaw.go:72", after := #[], guard := none }) (v := ?_) rfl (by kernel_rfl) (by kernel_rfl) (by kernel_rfl) (fun _ _ _ h => h) (Or.inl ⟨by rfl, ?_⟩) (by assumption) ?_
        rotate_left
        · intro wz hSz; (try dsimp only at hSz); go_simp; all_goals (with_reducible rfl)
        (try simp only [Act.put, List.setIfInBounds_toArray, List.set_cons_zero, List.set_cons_succ])
        refine wpAnyH_take (i := 6) (oi := { dst := some 46, op := Op.load 5 (Operand.tmp 45), type := 5, pos := "wirelaw.go:72", after := #[{ on := 5, ground := Ground.data }], guard := none }) (v := ?_) rfl (by kernel_rfl) (by kernel_rfl) (by kernel_rfl) (fun _ _ _ h => h) (Or.inl ⟨by rfl, ?_⟩) (by assumption) ?_
        rotate_left
        · intro wz hSz; (try dsimp only at hSz); go_simp; all_goals (with_reducible rfl)
        (try simp only [Act.put, List.setIfInBounds_toArray, List.set_cons_zero, List.set_cons_succ])
        refine wpAnyH_take (i := 7) (oi := { dst := some 47, op := Op.binOp BinOp.add 5 (Operand.tmp 46) (Operand.const (Value.int IntKind.u8 1)) 5, type := 5, pos := "wirelaw.go:72", after := #[{ on := 6, ground := Ground.data }], guard := none }) (v := ?_) rfl (by kernel_rfl) (by kernel_rfl) (by kernel_rfl) (fun _ _ _ h => h) (Or.inl ⟨by rfl, ?_⟩) (by assumption) ?_
        rotate_left
        · intro wz hSz; (try dsimp only at hSz); go_simp; all_goals (with_reducible rfl)
        (try simp only [Act.put, List.setIfInBounds_toArray, List.set_cons_zero, List.set_cons_succ])
        refine wpAnyH_take (i := 8) (oi := { dst := some 48, op := Op.binOp BinOp.neq 5 (Operand.tmp 44) (Operand.tmp 47) 5, type := 4, pos := "wirelaw.go:72", after := #[{ on := 4, ground := Ground.data }, { on := 7, ground := Ground.data }], guard := none }) (v := ?_) rfl (by kernel_rfl) (by kernel_rfl) (by kernel_rfl) (fun _ _ _ h => h) (Or.inl ⟨by rfl, ?_⟩) (by assumption) ?_
        rotate_left
        · intro wz hSz; (try dsimp only at hSz); go_simp; all_goals (with_reducible rfl)
        (try simp only [Act.put, List.setIfInBounds_toArray, List.set_cons_zero, List.set_cons_succ])
        refine wpAnyH_done (by kernel_rfl) ?_ _
        refine NoPanic.normal ?_
        go_wp2_with fail
        go_roundw
        case rel => exact ⟨k + 1, by omega, by omega, by go_num, hxd.drew, hb.drew⟩
        case measure => simp [intOf]; omega
    have t1 : (k : Int) < (n : Int) := by omega
    have t2 : (k : Int) < ((n + 64 : Nat) : Int) := by omega
    have t4 : (k : Int) < (n : Int) + 64 := by omega
    have t3 : (0 : Int) ≤ (k : Int) := by omega
    obtain ⟨ga, oa, rfl, x1⟩ := (H1.out wr hb).rep (rep_a n k m hlt)
    obtain ⟨gg, og, rfl, x2⟩ := (H2.out wr hb).rep (rep_b n k m (m + 1) hlt)
    clear hx' hb'
    have hx'' : Hid _ := hx
    clear hx
    go_upto_region 4 with fail
    refine wp_region_noPanic ?_
    refine wp_region_held_drew (S := fun w' => w'.cell? ⟨w.heap.size, 0, none⟩ = some (.slice (some ⟨ga, oa, none⟩) n ca) ∧ w'.cell? ⟨w.heap.size, 1, none⟩ = some (.slice (some ⟨gg, og, none⟩) (n + 64) cg) ∧ w'.cell? ⟨w.heap.size, 2, none⟩ = some (.int .u8 m) ∧ w'.cell? ⟨ga, oa + k, none⟩ = some (.int .u8 m) ∧ w'.cell? ⟨gg, og + k, none⟩ = some (.int .u8 m)) (by kernel_rfl) ?_ (fun hHeld => ?_)
    · (try dsimp only)
      exact ⟨b0, b1, b2, x1, x2⟩
    refine wpAnyH_take (i := 0) (oi := { dst := some 12, op := Op.fieldAddr 32 (Operand.tmp 1) 0, type := 0, pos := "wirelaw.go:67", after := #[], guard := none }) (v := ?_) rfl (by kernel_rfl) (by kernel_rfl) (by kernel_rfl) (fun _ _ _ h => h) (Or.inl ⟨by rfl, ?_⟩) (by assumption) ?_
    rotate_left
    · intro wz hSz; (try dsimp only at hSz); go_simp; all_goals (with_reducible rfl)
    (try simp only [Act.put, List.setIfInBounds_toArray, List.set_cons_zero, List.set_cons_succ])
    refine wpAnyH_take (i := 1) (oi := { dst := some 13, op := Op.load 23 (Operand.tmp 12), type := 23, pos := "wirelaw.go:67", after := #[{ on := 0, ground := Ground.data }], guard := none }) (v := ?_) rfl (by kernel_rfl) (by kernel_rfl) (by kernel_rfl) (fun _ _ _ h => h) (Or.inl ⟨by rfl, ?_⟩) (by assumption) ?_
    rotate_left
    · intro wz hSz; (try dsimp only at hSz); go_simp; all_goals (with_reducible rfl)
    (try simp only [Act.put, List.setIfInBounds_toArray, List.set_cons_zero, List.set_cons_succ])
    refine wpAnyH_take (i := 2) (oi := { dst := some 14, op := Op.move (Operand.tmp 3), type := 3, pos := "wirelaw.go:67", after := #[], guard := none }) (v := ?_) rfl (by kernel_rfl) (by kernel_rfl) (by kernel_rfl) (fun _ _ _ h => h) (Or.inl ⟨by rfl, ?_⟩) (by assumption) ?_
    rotate_left
    · intro wz hSz; (try dsimp only at hSz); go_simp; all_goals (with_reducible rfl)
    (try simp only [Act.put, List.setIfInBounds_toArray, List.set_cons_zero, List.set_cons_succ])
    refine wpAnyH_take (i := 3) (oi := { dst := some 15, op := Op.indexAddr 23 (Operand.tmp 13) (Operand.tmp 14), type := 0, pos := "wirelaw.go:67", after := #[{ on := 1, ground := Ground.data }, { on := 2, ground := Ground.data }], guard := none }) (v := ?_) rfl (by kernel_rfl) (by kernel_rfl) (by kernel_rfl) (fun _ _ _ h => h) (Or.inl ⟨by rfl, ?_⟩) (by assumption) ?_
    rotate_left
    · intro wz hSz; (try dsimp only at hSz); go_simp; all_goals (with_reducible rfl)
    (try simp only [Act.put, List.setIfInBounds_toArray, List.set_cons_zero, List.set_cons_succ])
    refine wpAnyH_take (i := 4) (oi := { dst := some 16, op := Op.load 5 (Operand.tmp 15), type := 5, pos := "wirelaw.go:67", after := #[{ on := 3, ground := Ground.data }], guard := none }) (v := ?_) rfl (by kernel_rfl) (by kernel_rfl) (by kernel_rfl) (fun _ _ _ h => h) (Or.inl ⟨by rfl, ?_⟩) (by assumption) ?_
    rotate_left
    · intro wz hSz; (try dsimp only at hSz); go_simp; all_goals (with_reducible rfl)
    (try simp only [Act.put, List.setIfInBounds_toArray, List.set_cons_zero, List.set_cons_succ])
    refine wpAnyH_take (i := 5) (oi := { dst := some 17, op := Op.fieldAddr 32 (Operand.tmp 1) 2, type := 0, pos := "wirelaw.go:67", after := #[], guard := none }) (v := ?_) rfl (by kernel_rfl) (by kernel_rfl) (by kernel_rfl) (fun _ _ _ h => h) (Or.inl ⟨by rfl, ?_⟩) (by assumption) ?_
    rotate_left
    · intro wz hSz; (try dsimp only at hSz); go_simp; all_goals (with_reducible rfl)
    (try simp only [Act.put, List.setIfInBounds_toArray, List.set_cons_zero, List.set_cons_succ])
    refine wpAnyH_take (i := 6) (oi := { dst := some 18, op := Op.load 5 (Operand.tmp 17), type := 5, pos := "wirelaw.go:67", after := #[{ on := 5, ground := Ground.data }], guard := none }) (v := ?_) rfl (by kernel_rfl) (by kernel_rfl) (by kernel_rfl) (fun _ _ _ h => h) (Or.inl ⟨by rfl, ?_⟩) (by assumption) ?_
    rotate_left
    · intro wz hSz; (try dsimp only at hSz); go_simp; all_goals (with_reducible rfl)
    (try simp only [Act.put, List.setIfInBounds_toArray, List.set_cons_zero, List.set_cons_succ])
    refine wpAnyH_take (i := 7) (oi := { dst := some 19, op := Op.binOp BinOp.neq 5 (Operand.tmp 16) (Operand.tmp 18) 5, type := 4, pos := "wirelaw.go:67", after := #[{ on := 4, ground := Ground.data }, { on := 6, ground := Ground.data }], guard := none }) (v := ?_) rfl (by kernel_rfl) (by kernel_rfl) (by kernel_rfl) (fun _ _ _ h => h) (Or.inl ⟨by rfl, ?_⟩) (by assumption) ?_
    rotate_left
    · intro wz hSz; (try dsimp only at hSz); go_simp; all_goals (with_reducible rfl)
    (try simp only [Act.put, List.setIfInBounds_toArray, List.set_cons_zero, List.set_cons_succ])
    refine wpAnyH_take (i := 8) (oi := { dst := some 20, op := Op.move (Operand.tmp 19), type := 4, pos := "wirelaw.go:67", after := #[{ on := 7, ground := Ground.data }], guard := none }) (v := ?_) rfl (by kernel_rfl) (by kernel_rfl) (by kernel_rfl) (fun _ _ _ h => h) (Or.inl ⟨by rfl, ?_⟩) (by assumption) ?_
    rotate_left
    · intro wz hSz; (try dsimp only at hSz); go_simp; all_goals (with_reducible rfl)
    (try simp only [Act.put, List.setIfInBounds_toArray, List.set_cons_zero, List.set_cons_succ])
    refine wpAnyH_take (i := 9) (oi := { dst := some 21, op := Op.fieldAddr 32 (Operand.tmp 1) 1, type := 0, pos := "wirelaw.go:67", after := #[{ on := 8, ground := Ground.guard }], guard := some (8, false) }) (v := ?_) rfl (by kernel_rfl) (by kernel_rfl) (by kernel_rfl) (fun _ _ _ h => h) (Or.inl ⟨by rfl, ?_⟩) (by assumption) ?_
    rotate_left
    · intro wz hSz; (try dsimp only at hSz); go_simp; all_goals (with_reducible rfl)
    (try simp only [Act.put, List.setIfInBounds_toArray, List.set_cons_zero, List.set_cons_succ])
    refine wpAnyH_take (i := 10) (oi := { dst := some 22, op := Op.load 23 (Operand.tmp 21), type := 23, pos := "wirelaw.go:67", after := #[{ on := 9, ground := Ground.data }, { on := 8, ground := Ground.guard }], guard := some (8, false) }) (v := ?_) rfl (by kernel_rfl) (by kernel_rfl) (by kernel_rfl) (fun _ _ _ h => h) (Or.inl ⟨by rfl, ?_⟩) (by assumption) ?_
    rotate_left
    · intro wz hSz; (try dsimp only at hSz); go_simp; all_goals (with_reducible rfl)
    (try simp only [Act.put, List.setIfInBounds_toArray, List.set_cons_zero, List.set_cons_succ])
    refine wpAnyH_take (i := 11) (oi := { dst := some 23, op := Op.move (Operand.tmp 3), type := 3, pos := "wirelaw.go:67", after := #[{ on := 8, ground := Ground.guard }], guard := some (8, false) }) (v := ?_) rfl (by kernel_rfl) (by kernel_rfl) (by kernel_rfl) (fun _ _ _ h => h) (Or.inl ⟨by rfl, ?_⟩) (by assumption) ?_
    rotate_left
    · intro wz hSz; (try dsimp only at hSz); go_simp; all_goals (with_reducible rfl)
    (try simp only [Act.put, List.setIfInBounds_toArray, List.set_cons_zero, List.set_cons_succ])
    refine wpAnyH_take (i := 12) (oi := { dst := some 24, op := Op.indexAddr 23 (Operand.tmp 22) (Operand.tmp 23), type := 0, pos := "wirelaw.go:67", after := #[{ on := 10, ground := Ground.data }, { on := 11, ground := Ground.data }, { on := 8, ground := Ground.guard }], guard := some (8, false) }) (v := ?_) rfl (by kernel_rfl) (by kernel_rfl) (by kernel_rfl) (fun _ _ _ h => h) (Or.inl ⟨by rfl, ?_⟩) (by assumption) ?_
    rotate_left
    · intro wz hSz; (try dsimp only at hSz); go_simp; all_goals (with_reducible rfl)
    (try simp only [Act.put, List.setIfInBounds_toArray, List.set_cons_zero, List.set_cons_succ])
    refine wpAnyH_take (i := 13) (oi := { dst := some 25, op := Op.load 5 (Operand.tmp 24), type := 5, pos := "wirelaw.go:67", after := #[{ on := 12, ground := Ground.data }, { on := 8, ground := Ground.guard }], guard := some (8, false) }) (v := ?_) rfl (by kernel_rfl) (by kernel_rfl) (by kernel_rfl) (fun _ _ _ h => h) (Or.inl ⟨by rfl, ?_⟩) (by assumption) ?_
    rotate_left
    · intro wz hSz; (try dsimp only at hSz); go_simp; all_goals (with_reducible rfl)
    (try simp only [Act.put, List.setIfInBounds_toArray, List.set_cons_zero, List.set_cons_succ])
    refine wpAnyH_take (i := 14) (oi := { dst := some 26, op := Op.fieldAddr 32 (Operand.tmp 1) 2, type := 0, pos := "wirelaw.go:67", after := #[{ on := 8, ground := Ground.guard }], guard := some (8, false) }) (v := ?_) rfl (by kernel_rfl) (by kernel_rfl) (by kernel_rfl) (fun _ _ _ h => h) (Or.inl ⟨by rfl, ?_⟩) (by assumption) ?_
    rotate_left
    · intro wz hSz; (try dsimp only at hSz); go_simp; all_goals (with_reducible rfl)
    (try simp only [Act.put, List.setIfInBounds_toArray, List.set_cons_zero, List.set_cons_succ])
    refine wpAnyH_take (i := 15) (oi := { dst := some 27, op := Op.load 5 (Operand.tmp 26), type := 5, pos := "wirelaw.go:67", after := #[{ on := 14, ground := Ground.data }, { on := 8, ground := Ground.guard }], guard := some (8, false) }) (v := ?_) rfl (by kernel_rfl) (by kernel_rfl) (by kernel_rfl) (fun _ _ _ h => h) (Or.inl ⟨by rfl, ?_⟩) (by assumption) ?_
    rotate_left
    · intro wz hSz; (try dsimp only at hSz); go_simp; all_goals (with_reducible rfl)
    (try simp only [Act.put, List.setIfInBounds_toArray, List.set_cons_zero, List.set_cons_succ])
    refine wpAnyH_take (i := 16) (oi := { dst := some 28, op := Op.binOp BinOp.neq 5 (Operand.tmp 25) (Operand.tmp 27) 5, type := 4, pos := "wirelaw.go:67", after := #[{ on := 13, ground := Ground.data }, { on := 15, ground := Ground.data }, { on := 8, ground := Ground.guard }], guard := some (8, false) }) (v := ?_) rfl (by kernel_rfl) (by kernel_rfl) (by kernel_rfl) (fun _ _ _ h => h) (Or.inl ⟨by rfl, ?_⟩) (by assumption) ?_
    rotate_left
    · intro wz hSz; (try dsimp only at hSz); go_simp; all_goals (with_reducible rfl)
    (try simp only [Act.put, List.setIfInBounds_toArray, List.set_cons_zero, List.set_cons_succ])
    refine wpAnyH_take (i := 17) (oi := { dst := some 29, op := Op.pick (Operand.tmp 20) (Operand.const (Value.bool true)) (Operand.tmp 28), type := 4, pos := "wirelaw.go:67", after := #[{ on := 8, ground := Ground.data }, { on := 16, ground := Ground.data }], guard := none }) (v := ?_) rfl (by kernel_rfl) (by kernel_rfl) (by kernel_rfl) (fun _ _ _ h => h) (Or.inl ⟨by rfl, ?_⟩) (by assumption) ?_
    rotate_left
    · intro wz hSz; (try dsimp only at hSz); go_simp; all_goals (with_reducible rfl)
    (try simp only [Act.put, List.setIfInBounds_toArray, List.set_cons_zero, List.set_cons_succ])
    refine wpAnyH_done (by kernel_rfl) ?_ _
    refine NoPanic.normal ?_
    go_wp2_with fail
    go_roundw
    case rel => exact ⟨k + 1, by omega, by go_num, Has.drew hx''.out, hb.drew⟩
    case measure => simp [intOf]; omega
end Go.Proofs.Ytahheagfgfpdmaa
