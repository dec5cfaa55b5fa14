import Derived.Test.YtahheagfgfpdmaaWmJ
import Derived.Test.YtahheagfgfpdmaaWmE
import Derived.Test.YtahheagfgfpdmaaWmG
namespace Go.Proofs.Ytahheagfgfpdmaa
open Go.RowKit
set_option linter.unusedVariables false
set_option linter.unusedSimpArgs false

set_option maxRecDepth 100000 in
set_option maxHeartbeats 2000000 in
theorem unpack12 (S : Nat → Prop) (L : List Int) (l c : Nat) (va : Option Addr) (w : World) (hL : L.length = l) (hB : By S w (.slice va l c) L) (hr : ∀ x ∈ L, 0 ≤ x ∧ x ≤ 255) (hl : l ≤ 140737488355000) : Calls Try.prog 12 #[.slice va l c] w fun e w' => (∃ v, e = .returned (uV L v) ∧ Ob w.heap.size w' v (uD L)) ∧ Below w.heap.size w w' := by
  by_cases h10 : 10 ≤ l
  case neg =>
    have hno : uOk L = false := by simp [uOk, hL, h10]
    have t1 : (l : Int) < 10 := by omega
    have eV : ∀ v, uV L v = .tuple #[.agg #[.int .i64 0, .int .i64 0, .int .u32 0, .int .u32 0, v], .int .i64 173] := fun v => by simp [uV, uX, uE, hno]
    have eD : uD L = [] := by simp [uD, hno]
    simp only [eV, eD]
    go_enter Try.func12, Try.ntmps12
    go_wp2_with fail
    exact bodyPost_ret (v := .tuple #[.agg #[.int .i64 0, .int .i64 0, .int .u32 0, .int .u32 0, .slice none 0 0], .int .i64 173]) (by simp [results, Try.results12, go_sem]) rfl ⟨⟨_, rfl, .inl ⟨rfl, rfl⟩⟩, belN1⟩
  have t1 : ¬ (l : Int) < 10 := by omega
  have hdl : (L.drop 10).length = l - 10 := by rw [List.length_drop, hL]
  obtain ⟨g, o, rfl, hc, rd⟩ := hB.get hL (by omega)
  have htl := fun (X : World) (hX : Below w.heap.size w X) => ((hB.keep (Mv.below hX)).tail hL h10)
  have hst := slice_tl g o l c h10 hc
  have hs2 := slice_at g o l c 2 (by omega) hc (by omega)
  have hs6 := slice_at g o l c 6 (by omega) hc (by omega)
  rw [show ((2 : Nat) : Int) = 2 from rfl] at hs2
  rw [show ((6 : Nat) : Int) = 6 from rfl] at hs6
  have x0 := gd_in hr 0
  have x1 := gd_in hr 1
  have g0 : IntKind.i64.wrap (gd L 0) = gd L 0 := wrap64 _ (by omega)
  have g1 : IntKind.i64.wrap (gd L 1) = gd L 1 := wrap64 _ (by omega)
  have u0 : 0 < l := by omega
  have u1 : 1 < l := by omega
  have i0 : (0 : Int) < (l : Int) := by omega
  have i1 : (1 : Int) < (l : Int) := by omega
  have hL' : Hid (L.length = l) := hL
  have hr' : Hid (∀ x ∈ L, 0 ≤ x ∧ x ≤ 255) := hr
  have rd' : Hid (∀ X : World, Below w.heap.size w X → ∀ i, i < l → X.cell? ⟨g, o + i, none⟩ = some (.int .u8 (gd L i))) := rd
  have htl' : Hid (∀ X : World, Below w.heap.size w X → By S X (.slice (tlA g o c) (l - 10) (c - 10)) (L.drop 10)) := htl
  clear hB hL hr rd htl x0 x1
  go_enter Try.func12, Try.ntmps12
  go_upto_region 3 with fail
  refine wp_region_noPanic ?_
  refine wp_region_held_drew (S := fun w' => w'.cell? ⟨g, o, none⟩ = some (.int .u8 (gd L 0)) ∧ w'.cell? ⟨g, o + 1, none⟩ = some (.int .u8 (gd L 1))) (by kernel_rfl) ?_ (fun hHeld => ?_)
  · (try dsimp only)
    exact ⟨rd'.out _ ((belN1).drew) 0 u0, rd'.out _ ((belN1).drew) 1 u1⟩
  have hR0 : Has (w.alloc (.cells #[.int .i64 0, .int .i64 0, .int .u32 0, .int .u32 0, .slice none 0 0] 25)).drew w.heap.size #[.int .i64 0, .int .i64 0, .int .u32 0, .int .u32 0, .slice none 0 0] := (Has.new w #[.int .i64 0, .int .i64 0, .int .u32 0, .int .u32 0, .slice none 0 0] 25 rfl).drew
  have hb0 : Below w.heap.size w (w.alloc (.cells #[.int .i64 0, .int .i64 0, .int .u32 0, .int .u32 0, .slice none 0 0] 25)).drew := (belN1).drew
  generalize (w.alloc (.cells #[.int .i64 0, .int .i64 0, .int .u32 0, .int .u32 0, .slice none 0 0] 25)).drew = c0 at *
  refine wpAnyH_take (i := 0) (oi := { dst := some 9, op := Op.move (Operand.tmp 0), type := 23, pos := "message.go:31", after := #[], guard := none }) (v := ?_) rfl (by kernel_rfl) (by kernel_rfl) (by kernel_rfl) (fun _ _ _ h => h) (Or.inl ⟨by rfl, ?_⟩) (by assumption) ?_
  rotate_left
  · intro wz hSz; (try dsimp only at hSz); go_simp; all_goals (with_reducible rfl)
  (try simp only [Act.put, List.setIfInBounds_toArray, List.set_cons_zero, List.set_cons_succ])
  refine wpAnyH_take (i := 1) (oi := { dst := some 10, op := Op.indexAddr 23 (Operand.tmp 9) (Operand.const (Value.int IntKind.i64 0)), type := 0, pos := "message.go:31", after := #[{ on := 0, ground := Ground.data }], guard := none }) (v := ?_) rfl (by kernel_rfl) (by kernel_rfl) (by kernel_rfl) (fun _ _ _ h => h) (Or.inl ⟨by rfl, ?_⟩) (by assumption) ?_
  rotate_left
  · intro wz hSz; (try dsimp only at hSz); go_simp; all_goals (with_reducible rfl)
  (try simp only [Act.put, List.setIfInBounds_toArray, List.set_cons_zero, List.set_cons_succ])
  refine wpAnyH_take (i := 2) (oi := { dst := some 11, op := Op.load 5 (Operand.tmp 10), type := 5, pos := "message.go:31", after := #[{ on := 1, ground := Ground.data }], guard := none }) (v := ?_) rfl (by kernel_rfl) (by kernel_rfl) (by kernel_rfl) (fun _ _ _ h => h) (Or.inl ⟨by rfl, ?_⟩) (by assumption) ?_
  rotate_left
  · intro wz hSz; (try dsimp only at hSz); go_simp; all_goals (with_reducible rfl)
  (try simp only [Act.put, List.setIfInBounds_toArray, List.set_cons_zero, List.set_cons_succ])
  refine wpAnyH_take (i := 3) (oi := { dst := some 12, op := Op.convert 5 3 (Operand.tmp 11), type := 3, pos := "message.go:31", after := #[{ on := 2, ground := Ground.data }], guard := none }) (v := ?_) rfl (by kernel_rfl) (by kernel_rfl) (by kernel_rfl) (fun _ _ _ h => h) (Or.inl ⟨by rfl, ?_⟩) (by assumption) ?_
  rotate_left
  · intro wz hSz; (try dsimp only at hSz); go_simp; all_goals (with_reducible rfl)
  (try simp only [Act.put, List.setIfInBounds_toArray, List.set_cons_zero, List.set_cons_succ])
  refine wpAnyH_take (i := 4) (oi := { dst := some 13, op := Op.move (Operand.tmp 0), type := 23, pos := "message.go:31", after := #[], guard := none }) (v := ?_) rfl (by kernel_rfl) (by kernel_rfl) (by kernel_rfl) (fun _ _ _ h => h) (Or.inl ⟨by rfl, ?_⟩) (by assumption) ?_
  rotate_left
  · intro wz hSz; (try dsimp only at hSz); go_simp; all_goals (with_reducible rfl)
  (try simp only [Act.put, List.setIfInBounds_toArray, List.set_cons_zero, List.set_cons_succ])
  refine wpAnyH_take (i := 5) (oi := { dst := some 14, op := Op.indexAddr 23 (Operand.tmp 13) (Operand.const (Value.int IntKind.i64 1)), type := 0, pos := "message.go:31", after := #[{ on := 4, ground := Ground.data }], guard := none }) (v := ?_) rfl (by kernel_rfl) (by kernel_rfl) (by kernel_rfl) (fun _ _ _ h => h) (Or.inl ⟨by rfl, ?_⟩) (by assumption) ?_
  rotate_left
  · intro wz hSz; (try dsimp only at hSz); go_simp; all_goals (with_reducible rfl)
  (try simp only [Act.put, List.setIfInBounds_toArray, List.set_cons_zero, List.set_cons_succ])
  refine wpAnyH_take (i := 6) (oi := { dst := some 15, op := Op.load 5 (Operand.tmp 14), type := 5, pos := "message.go:31", after := #[{ on := 5, ground := Ground.data }], guard := none }) (v := ?_) rfl (by kernel_rfl) (by kernel_rfl) (by kernel_rfl) (fun _ _ _ h => h) (Or.inl ⟨by rfl, ?_⟩) (by assumption) ?_
  rotate_left
  · intro wz hSz; (try dsimp only at hSz); go_simp; all_goals (with_reducible rfl)
  (try simp only [Act.put, List.setIfInBounds_toArray, List.set_cons_zero, List.set_cons_succ])
  refine wpAnyH_take (i := 7) (oi := { dst := some 16, op := Op.convert 5 3 (Operand.tmp 15), type := 3, pos := "message.go:31", after := #[{ on := 6, ground := Ground.data }], guard := none }) (v := ?_) rfl (by kernel_rfl) (by kernel_rfl) (by kernel_rfl) (fun _ _ _ h => h) (Or.inl ⟨by rfl, ?_⟩) (by assumption) ?_
  rotate_left
  · intro wz hSz; (try dsimp only at hSz); go_simp; all_goals (with_reducible rfl)
  (try simp only [Act.put, List.setIfInBounds_toArray, List.set_cons_zero, List.set_cons_succ])
  refine wpAnyH_take (i := 8) (oi := { dst := some 17, op := Op.move (Operand.tmp 0), type := 23, pos := "message.go:31", after := #[], guard := none }) (v := ?_) rfl (by kernel_rfl) (by kernel_rfl) (by kernel_rfl) (fun _ _ _ h => h) (Or.inl ⟨by rfl, ?_⟩) (by assumption) ?_
  rotate_left
  · intro wz hSz; (try dsimp only at hSz); go_simp; all_goals (with_reducible rfl)
  (try simp only [Act.put, List.setIfInBounds_toArray, List.set_cons_zero, List.set_cons_succ])
  refine wpAnyH_take (i := 9) (oi := { dst := some 18, op := Op.slice 23 (Operand.tmp 17) (some (Operand.const (Value.int IntKind.i64 2))) none none, type := 23, pos := "message.go:31", after := #[{ on := 8, ground := Ground.data }], guard := none }) (v := ?_) rfl (by kernel_rfl) (by kernel_rfl) (by kernel_rfl) (fun _ _ _ h => h) (Or.inl ⟨by rfl, ?_⟩) (by assumption) ?_
  rotate_left
  · intro wz hSz; (try dsimp only at hSz); go_simp; all_goals (with_reducible rfl)
  (try simp only [Act.put, List.setIfInBounds_toArray, List.set_cons_zero, List.set_cons_succ])
  refine wpAnyH_take (i := 11) (oi := { dst := some 20, op := Op.move (Operand.tmp 0), type := 23, pos := "message.go:31", after := #[], guard := none }) (v := ?_) rfl (by kernel_rfl) (by kernel_rfl) (by kernel_rfl) (fun _ _ _ h => h) (Or.inl ⟨by rfl, ?_⟩) (by assumption) ?_
  rotate_left
  · intro wz hSz; (try dsimp only at hSz); go_simp; all_goals (with_reducible rfl)
  (try simp only [Act.put, List.setIfInBounds_toArray, List.set_cons_zero, List.set_cons_succ])
  refine wpAnyH_take (i := 12) (oi := { dst := some 21, op := Op.slice 23 (Operand.tmp 20) (some (Operand.const (Value.int IntKind.i64 6))) none none, type := 23, pos := "message.go:31", after := #[{ on := 11, ground := Ground.data }], guard := none }) (v := ?_) rfl (by kernel_rfl) (by kernel_rfl) (by kernel_rfl) (fun _ _ _ h => h) (Or.inl ⟨by rfl, ?_⟩) (by assumption) ?_
  rotate_left
  · intro wz hSz; (try dsimp only at hSz); go_simp; all_goals (with_reducible rfl)
  (try simp only [Act.put, List.setIfInBounds_toArray, List.set_cons_zero, List.set_cons_succ])
  refine wpAnyH_take (i := 14) (oi := { dst := some 23, op := Op.move (Operand.tmp 0), type := 23, pos := "message.go:31", after := #[], guard := none }) (v := ?_) rfl (by kernel_rfl) (by kernel_rfl) (by kernel_rfl) (fun _ _ _ h => h) (Or.inl ⟨by rfl, ?_⟩) (by assumption) ?_
  rotate_left
  · intro wz hSz; (try dsimp only at hSz); go_simp; all_goals (with_reducible rfl)
  (try simp only [Act.put, List.setIfInBounds_toArray, List.set_cons_zero, List.set_cons_succ])
  refine wpAnyH_take (i := 15) (oi := { dst := some 24, op := Op.slice 23 (Operand.tmp 23) (some (Operand.const (Value.int IntKind.i64 10))) none none, type := 23, pos := "message.go:31", after := #[{ on := 14, ground := Ground.data }], guard := none }) (v := ?_) rfl (by kernel_rfl) (by kernel_rfl) (by kernel_rfl) (fun _ _ _ h => h) (Or.inl ⟨by rfl, ?_⟩) (by assumption) ?_
  rotate_left
  · intro wz hSz; (try dsimp only at hSz); go_simp; all_goals (with_reducible rfl)
  (try simp only [Act.put, List.setIfInBounds_toArray, List.set_cons_zero, List.set_cons_succ])
  refine wpAnyH_ready (rs := [10, 17]) (by kernel_rfl) (by simp) ?_
  refine (AllReadyH.cons (o := { dst := some 19, op := Op.call { callee := Callee.value (Operand.func 19), args := #[Operand.tmp 18], argTypes := #[23] }, type := 22, pos := "message.go:31", after := #[{ on := 9, ground := Ground.data }], guard := none }) rfl (fun K hK => ?_) (AllReadyH.cons (o := { dst := some 4, op := Op.alloc 25, type := 0, pos := "message.go:31", after := #[], guard := none }) rfl (fun K hK => ?_) AllReadyH.nil))
  · skip
    go_simp
    have hq := word_any g (o + 2) (l - 2) (c - 2) (gd L 2) (gd L 3) (gd L 4) (gd L 5) c0 (by omega) (by omega) (rd'.out _ hb0 2 (by omega)) (rd'.out _ hb0 3 (by omega)) (rd'.out _ hb0 4 (by omega)) (rd'.out _ hb0 5 (by omega)) (gd_in hr'.out 2) (gd_in hr'.out 3) (gd_in hr'.out 4) (gd_in hr'.out 5)
    rw [show gd L 2 + 256 * gd L 3 + 65536 * gd L 4 + 16777216 * gd L 5 = wd L 2 from rfl] at hq
    go_at_call 19; (with_reducible refine Calls.mono hq ?_); clear hq; rintro e w_1 ⟨rfl, hx⟩; have hb_1 := hb0.trans (hx.mono hb0.size); have hR_1 := hR0.below hx; clear hx
    go_wp2_with fail
    refine hK.out _ _ ?_ (fun hHeld => ?_)
    · (try dsimp only)
      exact ⟨rd'.out _ hb_1 0 u0, rd'.out _ hb_1 1 u1⟩
    clear hK K
    (try simp only [Act.put, List.setIfInBounds_toArray, List.set_cons_zero, List.set_cons_succ])
    refine wpAnyH_ready (rs := [13, 17]) (by kernel_rfl) (by simp) ?_
    refine (AllReadyH.cons (o := { dst := some 22, op := Op.call { callee := Callee.value (Operand.func 19), args := #[Operand.tmp 21], argTypes := #[23] }, type := 22, pos := "message.go:31", after := #[{ on := 12, ground := Ground.data }, { on := 10, ground := Ground.chain }], guard := none }) rfl (fun K hK => ?_) (AllReadyH.cons (o := { dst := some 4, op := Op.alloc 25, type := 0, pos := "message.go:31", after := #[], guard := none }) rfl (fun K hK => ?_) AllReadyH.nil))
    · skip
      go_simp
      have hq := word_any g (o + 6) (l - 6) (c - 6) (gd L 6) (gd L 7) (gd L 8) (gd L 9) w_1 (by omega) (by omega) (rd'.out _ hb_1 6 (by omega)) (rd'.out _ hb_1 7 (by omega)) (rd'.out _ hb_1 8 (by omega)) (rd'.out _ hb_1 9 (by omega)) (gd_in hr'.out 6) (gd_in hr'.out 7) (gd_in hr'.out 8) (gd_in hr'.out 9)
      rw [show gd L 6 + 256 * gd L 7 + 65536 * gd L 8 + 16777216 * gd L 9 = wd L 6 from rfl] at hq
      go_at_call 19; (with_reducible refine Calls.mono hq ?_); clear hq; rintro e w_2 ⟨rfl, hx⟩; have hb_2 := hb_1.trans (hx.mono hb_1.size); have hR_2 := hR_1.below hx; clear hx
      go_wp2_with fail
      refine hK.out _ _ ?_ (fun hHeld => ?_)
      · (try dsimp only)
        exact ⟨rd'.out _ hb_2 0 u0, rd'.out _ hb_2 1 u1⟩
      clear hK K
      (try simp only [Act.put, List.setIfInBounds_toArray, List.set_cons_zero, List.set_cons_succ])
      refine wpAnyH_take (i := 16) (oi := { dst := some 25, op := Op.build 25 #[(0, Operand.tmp 12), (1, Operand.tmp 16), (2, Operand.tmp 19), (3, Operand.tmp 22), (4, Operand.tmp 24)], type := 25, pos := "message.go:31", after := #[{ on := 3, ground := Ground.data }, { on := 7, ground := Ground.data }, { on := 10, ground := Ground.data }, { on := 13, ground := Ground.data }, { on := 15, ground := Ground.data }], guard := none }) (v := ?_) rfl (by kernel_rfl) (by kernel_rfl) (by kernel_rfl) (fun _ _ _ h => h) (Or.inl ⟨by rfl, ?_⟩) (by assumption) ?_
      rotate_left
      · intro wz hSz; (try dsimp only at hSz); go_simp; all_goals (with_reducible rfl)
      (try simp only [Act.put, List.setIfInBounds_toArray, List.set_cons_zero, List.set_cons_succ])
      refine wpAnyH_ready (rs := [17]) (by kernel_rfl) (by simp) ?_
      refine (AllReadyH.cons (o := { dst := some 4, op := Op.alloc 25, type := 0, pos := "message.go:31", after := #[], guard := none }) rfl (fun K hK => ?_) AllReadyH.nil)
      go_simp
      refine hK.out _ _ ?_ (fun hHeld => ?_)
      · (try dsimp only)
        exact ⟨rd'.out _ (hb_2.alloc hb_2.size _) 0 u0, rd'.out _ (hb_2.alloc hb_2.size _) 1 u1⟩
      clear hK K
      (try simp only [Act.put, List.setIfInBounds_toArray, List.set_cons_zero, List.set_cons_succ])
      have hM_3 : Has (w_2.alloc (.cells #[.int .i64 0, .int .i64 0, .int .u32 0, .int .u32 0, .slice none 0 0] 25)) w_2.heap.size #[.int .i64 0, .int .i64 0, .int .u32 0, .int .u32 0, .slice none 0 0] := Has.new _ _ _ rfl
      have hR_3 := hR_2.alloc (.cells #[.int .i64 0, .int .i64 0, .int .u32 0, .int .u32 0, .slice none 0 0] 25)
      have hb_3 : Below w.heap.size w (w_2.alloc (.cells #[.int .i64 0, .int .i64 0, .int .u32 0, .int .u32 0, .slice none 0 0] 25)) := hb_2.alloc hb_2.size _
      have hp : w.heap.size < w_2.heap.size := hR_2.1
      generalize w_2.alloc (.cells #[.int .i64 0, .int .i64 0, .int .u32 0, .int .u32 0, .slice none 0 0] 25) = w_3 at *
      generalize w_2.heap.size = p4 at *
      refine wpAnyH_ready (rs := [18]) (by kernel_rfl) (by simp) ?_
      refine (AllReadyH.cons (o := { dst := none, op := Op.store 25 (Operand.tmp 4) (Operand.tmp 25), type := 0, pos := "message.go:31", after := #[{ on := 17, ground := Ground.data }, { on := 16, ground := Ground.data }, { on := 13, ground := Ground.chain }, { on := 0, ground := Ground.phase }, { on := 1, ground := Ground.phase }, { on := 2, ground := Ground.phase }, { on := 3, ground := Ground.phase }, { on := 4, ground := Ground.phase }, { on := 5, ground := Ground.phase }, { on := 6, ground := Ground.phase }, { on := 7, ground := Ground.phase }, { on := 8, ground := Ground.phase }, { on := 9, ground := Ground.phase }, { on := 10, ground := Ground.phase }, { on := 11, ground := Ground.phase }, { on := 12, ground := Ground.phase }, { on := 13, ground := Ground.phase }, { on := 14, ground := Ground.phase }, { on := 15, ground := Ground.phase }, { on := 16, ground := Ground.phase }, { on := 17, ground := Ground.phase }], guard := none }) rfl (fun K hK => ?_) AllReadyH.nil)
      have q0 := hM_3.2.1 0
      have q1 := hM_3.2.1 1
      have q2 := hM_3.2.1 2
      have q3 := hM_3.2.1 3
      have q4 := hM_3.2.1 4
      have qf := hM_3.2.2
      have hM_4 := hM_3.set5 (.int .i64 (gd L 0)) (.int .i64 (gd L 1)) (.int .u32 (wd L 2)) (.int .u32 (wd L 6)) (.slice (tlA g o c) (l - 10) (c - 10))
      have hb_4 := bel5 hb_3 (Nat.le_of_lt hp) (.int .i64 (gd L 0)) (.int .i64 (gd L 1)) (.int .u32 (wd L 2)) (.int .u32 (wd L 6)) (.slice (tlA g o c) (l - 10) (c - 10))
      have hR_4 := hR_3.only (only5 (w := w_3) (g := p4) (x0 := .int .i64 (gd L 0)) (x1 := .int .i64 (gd L 1)) (x2 := .int .u32 (wd L 2)) (x3 := .int .u32 (wd L 6)) (x4 := (.slice (tlA g o c) (l - 10) (c - 10)))) (by omega)
      go_simp
      refine hK.out _ _ ?_ (fun hHeld => ?_)
      · (try dsimp only)
        exact ⟨rd'.out _ hb_4 0 u0, rd'.out _ hb_4 1 u1⟩
      clear hK K q0 q1 q2 q3 q4 qf
      (try simp only [Act.put, List.setIfInBounds_toArray, List.set_cons_zero, List.set_cons_succ])
      generalize (((((w_3.setCell ⟨p4, 0, none⟩ (.int .i64 (gd L 0))).setCell ⟨p4, 1, none⟩ (.int .i64 (gd L 1))).setCell ⟨p4, 2, none⟩ (.int .u32 (wd L 2))).setCell ⟨p4, 3, none⟩ (.int .u32 (wd L 6))).setCell ⟨p4, 4, none⟩ (.slice (tlA g o c) (l - 10) (c - 10))) = w_4 at *
      refine wpAnyH_done (by kernel_rfl) ?_ _
      refine NoPanic.normal ?_
      have hM := hM_4
      have hR := hR_4
      have hb := hb_4
      clear hM_4 hR_4 hb_4
      clear hHeld
      have m0 := hM.2.1 0
      have m1 := hM.2.1 1
      have m2 := hM.2.1 2
      have m3 := hM.2.1 3
      have m4 := hM.2.1 4
      cases hf : fmB (gd L 0) (gd L 1) (wd L 2) (wd L 6) (l - 10) with
      | false =>
        have hno : uOk L = false := by simp [uOk, hL'.out, hf]
        have eV : ∀ v, uV L v = .tuple #[.agg #[.int .i64 0, .int .i64 0, .int .u32 0, .int .u32 0, v], .int .i64 173] := fun v => by simp [uV, uX, uE, hno]
        have eD : uD L = [] := by simp [uD, hno]
        have hfm : ∀ X : World, Calls Try.prog 17 #[.agg #[.int .i64 (gd L 0), .int .i64 (gd L 1), .int .u32 (wd L 2), .int .u32 (wd L 6), (.slice (tlA g o c) (l - 10) (c - 10))]] X fun e w' => e = .returned (.bool false) ∧ Below X.heap.size X w' := fun X => by have := wfm_any (gd L 0) (gd L 1) (wd L 2) (wd L 6) (l - 10) (c - 10) (tlA g o c) X (by omega); rwa [hf] at this
        go_wp2_with (go_at_call 17; (with_reducible refine Calls.mono (hfm _) ?_); rintro e w2 ⟨rfl, hb2⟩; have hR2 := hR.below hb2; have r0 := hR2.2.1 0; have r1 := hR2.2.1 1; have r2 := hR2.2.1 2; have r3 := hR2.2.1 3; have r4 := hR2.2.1 4; have rf := hR2.2.2)
        have hF := hR2.set5 (.int .i64 0) (.int .i64 0) (.int .u32 0) (.int .u32 0) (.slice none 0 0)
        have hBF := bel5 (hb.trans (hb2.mono hb.size)) (Nat.le_refl w.heap.size) (.int .i64 0) (.int .i64 0) (.int .u32 0) (.int .u32 0) (.slice none 0 0)
        have iF := hF.2.1
        exact bodyPost_ret (v := .tuple #[.agg #[.int .i64 0, .int .i64 0, .int .u32 0, .int .u32 0, .slice none 0 0], .int .i64 173]) (by simp [results, Try.results12, go_sem, iF]) rfl ⟨⟨.slice none 0 0, by rw [eV], by rw [eD]; exact .inl ⟨rfl, rfl⟩⟩, hBF⟩
      | true =>
        have hyes : uOk L = true := by simp [uOk, hL'.out, hf, h10]
        have eV : ∀ v, uV L v = .tuple #[.agg #[.int .i64 (gd L 0), .int .i64 (gd L 1), .int .u32 (wd L 2), .int .u32 (wd L 6), v], .int .i64 0] := fun v => by simp [uV, uX, uE, hyes]
        have eD : uD L = L.drop 10 := by simp [uD, hyes]
        have hfm : ∀ X : World, Calls Try.prog 17 #[.agg #[.int .i64 (gd L 0), .int .i64 (gd L 1), .int .u32 (wd L 2), .int .u32 (wd L 6), (.slice (tlA g o c) (l - 10) (c - 10))]] X fun e w' => e = .returned (.bool true) ∧ Below X.heap.size X w' := fun X => by have := wfm_any (gd L 0) (gd L 1) (wd L 2) (wd L 6) (l - 10) (c - 10) (tlA g o c) X (by omega); rwa [hf] at this
        go_wp2_with (first | (go_at_call 17; (with_reducible refine Calls.mono (hfm _) ?_); rintro e w2 ⟨rfl, hb2⟩; have hM2 := hM.below hb2; have n0 := hM2.2.1 0; have n1 := hM2.2.1 1; have n2 := hM2.2.1 2; have n3 := hM2.2.1 3; have n4 := hM2.2.1 4; have hR2 := hR.below hb2; have hB2 := hb.trans (hb2.mono hb.size); have hq := clone_any S (L.drop 10) (l - 10) (tlA g o c) (c - 10) w2 hdl (htl'.out _ hB2)) | (go_at_call 20; (with_reducible refine Calls.mono hq ?_); rintro e w3 ⟨⟨v, rfl, hO⟩, hb3⟩; obtain ⟨va', vc', ev⟩ := hO.form; rw [hdl] at ev; subst ev; have hM3 := hM2.below hb3; have k0 := hM3.2.1 0; have k1 := hM3.2.1 1; have k2 := hM3.2.1 2; have k3 := hM3.2.1 3; have k4 := hM3.2.1 4; have kf := hM3.2.2; have hR3 := hR2.below hb3; have r0 := hR3.2.1 0; have r1 := hR3.2.1 1; have r2 := hR3.2.1 2; have r3 := hR3.2.1 3; have r4 := hR3.2.1 4; have rf := hR3.2.2))
        have hR4 := hR3.far (c := p4) (i := 4) (by omega) (.slice va' (l - 10) vc')
        have hF := hR4.set5 (.int .i64 (gd L 0)) (.int .i64 (gd L 1)) (.int .u32 (wd L 2)) (.int .u32 (wd L 6)) (.slice va' (l - 10) vc')
        have hB4 : Below w.heap.size w (w3.setCell ⟨p4, 4, none⟩ (.slice va' (l - 10) vc')) := (hB2.trans (hb3.mono hB2.size)).setCell (p := ⟨p4, 4, none⟩) (Nat.le_of_lt hp) _
        have hBF := bel5 hB4 (Nat.le_refl w.heap.size) (.int .i64 (gd L 0)) (.int .i64 (gd L 1)) (.int .u32 (wd L 2)) (.int .u32 (wd L 6)) (.slice va' (l - 10) vc')
        have zM := hM2.1
        have hO4 := (hO.only (only_of_set w3 p4 4 (.slice va' (l - 10) vc')) (fun q hq e => by have h6 := (hO.lt q hq).1; omega)).only (only5 (w := w3.setCell ⟨p4, 4, none⟩ (.slice va' (l - 10) vc')) (g := w.heap.size) (x0 := .int .i64 (gd L 0)) (x1 := .int .i64 (gd L 1)) (x2 := .int .u32 (wd L 2)) (x3 := .int .u32 (wd L 6)) (x4 := .slice va' (l - 10) vc')) (fun q hq e => by have h6 := (hO.lt q hq).1; omega)
        have iF := hF.2.1
        exact bodyPost_ret (v := .tuple #[.agg #[.int .i64 (gd L 0), .int .i64 (gd L 1), .int .u32 (wd L 2), .int .u32 (wd L 6), (.slice va' (l - 10) vc')], .int .i64 0]) (by simp [results, Try.results12, go_sem, iF]) rfl ⟨⟨.slice va' (l - 10) vc', by rw [eV], by rw [eD]; exact hO4.mono hB2.size⟩, hBF⟩
    · skip
      go_simp
      refine hK.out _ _ ?_ (fun hHeld => ?_)
      · (try dsimp only)
        exact ⟨rd'.out _ (hb_1.alloc hb_1.size _) 0 u0, rd'.out _ (hb_1.alloc hb_1.size _) 1 u1⟩
      clear hK K
      (try simp only [Act.put, List.setIfInBounds_toArray, List.set_cons_zero, List.set_cons_succ])
      have hM_5 : Has (w_1.alloc (.cells #[.int .i64 0, .int .i64 0, .int .u32 0, .int .u32 0, .slice none 0 0] 25)) w_1.heap.size #[.int .i64 0, .int .i64 0, .int .u32 0, .int .u32 0, .slice none 0 0] := Has.new _ _ _ rfl
      have hR_5 := hR_1.alloc (.cells #[.int .i64 0, .int .i64 0, .int .u32 0, .int .u32 0, .slice none 0 0] 25)
      have hb_5 : Below w.heap.size w (w_1.alloc (.cells #[.int .i64 0, .int .i64 0, .int .u32 0, .int .u32 0, .slice none 0 0] 25)) := hb_1.alloc hb_1.size _
      have hp : w.heap.size < w_1.heap.size := hR_1.1
      generalize w_1.alloc (.cells #[.int .i64 0, .int .i64 0, .int .u32 0, .int .u32 0, .slice none 0 0] 25) = w_5 at *
      generalize w_1.heap.size = p4 at *
      refine wpAnyH_ready (rs := [13]) (by kernel_rfl) (by simp) ?_
      refine (AllReadyH.cons (o := { dst := some 22, op := Op.call { callee := Callee.value (Operand.func 19), args := #[Operand.tmp 21], argTypes := #[23] }, type := 22, pos := "message.go:31", after := #[{ on := 12, ground := Ground.data }, { on := 10, ground := Ground.chain }], guard := none }) rfl (fun K hK => ?_) AllReadyH.nil)
      go_simp
      have hq := word_any g (o + 6) (l - 6) (c - 6) (gd L 6) (gd L 7) (gd L 8) (gd L 9) w_5 (by omega) (by omega) (rd'.out _ hb_5 6 (by omega)) (rd'.out _ hb_5 7 (by omega)) (rd'.out _ hb_5 8 (by omega)) (rd'.out _ hb_5 9 (by omega)) (gd_in hr'.out 6) (gd_in hr'.out 7) (gd_in hr'.out 8) (gd_in hr'.out 9)
      rw [show gd L 6 + 256 * gd L 7 + 65536 * gd L 8 + 16777216 * gd L 9 = wd L 6 from rfl] at hq
      go_at_call 19; (with_reducible refine Calls.mono hq ?_); clear hq; rintro e w_6 ⟨rfl, hx⟩; have hb_6 := hb_5.trans (hx.mono hb_5.size); have hR_6 := hR_5.below hx; have hM_6 := hM_5.below hx; clear hx
      go_wp2_with fail
      refine hK.out _ _ ?_ (fun hHeld => ?_)
      · (try dsimp only)
        exact ⟨rd'.out _ hb_6 0 u0, rd'.out _ hb_6 1 u1⟩
      clear hK K
      (try simp only [Act.put, List.setIfInBounds_toArray, List.set_cons_zero, List.set_cons_succ])
      refine wpAnyH_take (i := 16) (oi := { dst := some 25, op := Op.build 25 #[(0, Operand.tmp 12), (1, Operand.tmp 16), (2, Operand.tmp 19), (3, Operand.tmp 22), (4, Operand.tmp 24)], type := 25, pos := "message.go:31", after := #[{ on := 3, ground := Ground.data }, { on := 7, ground := Ground.data }, { on := 10, ground := Ground.data }, { on := 13, ground := Ground.data }, { on := 15, ground := Ground.data }], guard := none }) (v := ?_) rfl (by kernel_rfl) (by kernel_rfl) (by kernel_rfl) (fun _ _ _ h => h) (Or.inl ⟨by rfl, ?_⟩) (by assumption) ?_
      rotate_left
      · intro wz hSz; (try dsimp only at hSz); go_simp; all_goals (with_reducible rfl)
      (try simp only [Act.put, List.setIfInBounds_toArray, List.set_cons_zero, List.set_cons_succ])
      refine wpAnyH_ready (rs := [18]) (by kernel_rfl) (by simp) ?_
      refine (AllReadyH.cons (o := { dst := none, op := Op.store 25 (Operand.tmp 4) (Operand.tmp 25), type := 0, pos := "message.go:31", after := #[{ on := 17, ground := Ground.data }, { on := 16, ground := Ground.data }, { on := 13, ground := Ground.chain }, { on := 0, ground := Ground.phase }, { on := 1, ground := Ground.phase }, { on := 2, ground := Ground.phase }, { on := 3, ground := Ground.phase }, { on := 4, ground := Ground.phase }, { on := 5, ground := Ground.phase }, { on := 6, ground := Ground.phase }, { on := 7, ground := Ground.phase }, { on := 8, ground := Ground.phase }, { on := 9, ground := Ground.phase }, { on := 10, ground := Ground.phase }, { on := 11, ground := Ground.phase }, { on := 12, ground := Ground.phase }, { on := 13, ground := Ground.phase }, { on := 14, ground := Ground.phase }, { on := 15, ground := Ground.phase }, { on := 16, ground := Ground.phase }, { on := 17, ground := Ground.phase }], guard := none }) rfl (fun K hK => ?_) AllReadyH.nil)
      have q0 := hM_6.2.1 0
      have q1 := hM_6.2.1 1
      have q2 := hM_6.2.1 2
      have q3 := hM_6.2.1 3
      have q4 := hM_6.2.1 4
      have qf := hM_6.2.2
      have hM_7 := hM_6.set5 (.int .i64 (gd L 0)) (.int .i64 (gd L 1)) (.int .u32 (wd L 2)) (.int .u32 (wd L 6)) (.slice (tlA g o c) (l - 10) (c - 10))
      have hb_7 := bel5 hb_6 (Nat.le_of_lt hp) (.int .i64 (gd L 0)) (.int .i64 (gd L 1)) (.int .u32 (wd L 2)) (.int .u32 (wd L 6)) (.slice (tlA g o c) (l - 10) (c - 10))
      have hR_7 := hR_6.only (only5 (w := w_6) (g := p4) (x0 := .int .i64 (gd L 0)) (x1 := .int .i64 (gd L 1)) (x2 := .int .u32 (wd L 2)) (x3 := .int .u32 (wd L 6)) (x4 := (.slice (tlA g o c) (l - 10) (c - 10)))) (by omega)
      go_simp
      refine hK.out _ _ ?_ (fun hHeld => ?_)
      · (try dsimp only)
        exact ⟨rd'.out _ hb_7 0 u0, rd'.out _ hb_7 1 u1⟩
      clear hK K q0 q1 q2 q3 q4 qf
      (try simp only [Act.put, List.setIfInBounds_toArray, List.set_cons_zero, List.set_cons_succ])
      generalize (((((w_6.setCell ⟨p4, 0, none⟩ (.int .i64 (gd L 0))).setCell ⟨p4, 1, none⟩ (.int .i64 (gd L 1))).setCell ⟨p4, 2, none⟩ (.int .u32 (wd L 2))).setCell ⟨p4, 3, none⟩ (.int .u32 (wd L 6))).setCell ⟨p4, 4, none⟩ (.slice (tlA g o c) (l - 10) (c - 10))) = w_7 at *
      refine wpAnyH_done (by kernel_rfl) ?_ _
      refine NoPanic.normal ?_
      have hM := hM_7
      have hR := hR_7
      have hb := hb_7
      clear hM_7 hR_7 hb_7
      clear hHeld
      have m0 := hM.2.1 0
      have m1 := hM.2.1 1
      have m2 := hM.2.1 2
      have m3 := hM.2.1 3
      have m4 := hM.2.1 4
      cases hf : fmB (gd L 0) (gd L 1) (wd L 2) (wd L 6) (l - 10) with
      | false =>
        have hno : uOk L = false := by simp [uOk, hL'.out, hf]
        have eV : ∀ v, uV L v = .tuple #[.agg #[.int .i64 0, .int .i64 0, .int .u32 0, .int .u32 0, v], .int .i64 173] := fun v => by simp [uV, uX, uE, hno]
        have eD : uD L = [] := by simp [uD, hno]
        have hfm : ∀ X : World, Calls Try.prog 17 #[.agg #[.int .i64 (gd L 0), .int .i64 (gd L 1), .int .u32 (wd L 2), .int .u32 (wd L 6), (.slice (tlA g o c) (l - 10) (c - 10))]] X fun e w' => e = .returned (.bool false) ∧ Below X.heap.size X w' := fun X => by have := wfm_any (gd L 0) (gd L 1) (wd L 2) (wd L 6) (l - 10) (c - 10) (tlA g o c) X (by omega); rwa [hf] at this
        go_wp2_with (go_at_call 17; (with_reducible refine Calls.mono (hfm _) ?_); rintro e w2 ⟨rfl, hb2⟩; have hR2 := hR.below hb2; have r0 := hR2.2.1 0; have r1 := hR2.2.1 1; have r2 := hR2.2.1 2; have r3 := hR2.2.1 3; have r4 := hR2.2.1 4; have rf := hR2.2.2)
        have hF := hR2.set5 (.int .i64 0) (.int .i64 0) (.int .u32 0) (.int .u32 0) (.slice none 0 0)
        have hBF := bel5 (hb.trans (hb2.mono hb.size)) (Nat.le_refl w.heap.size) (.int .i64 0) (.int .i64 0) (.int .u32 0) (.int .u32 0) (.slice none 0 0)
        have iF := hF.2.1
        exact bodyPost_ret (v := .tuple #[.agg #[.int .i64 0, .int .i64 0, .int .u32 0, .int .u32 0, .slice none 0 0], .int .i64 173]) (by simp [results, Try.results12, go_sem, iF]) rfl ⟨⟨.slice none 0 0, by rw [eV], by rw [eD]; exact .inl ⟨rfl, rfl⟩⟩, hBF⟩
      | true =>
        have hyes : uOk L = true := by simp [uOk, hL'.out, hf, h10]
        have eV : ∀ v, uV L v = .tuple #[.agg #[.int .i64 (gd L 0), .int .i64 (gd L 1), .int .u32 (wd L 2), .int .u32 (wd L 6), v], .int .i64 0] := fun v => by simp [uV, uX, uE, hyes]
        have eD : uD L = L.drop 10 := by simp [uD, hyes]
        have hfm : ∀ X : World, Calls Try.prog 17 #[.agg #[.int .i64 (gd L 0), .int .i64 (gd L 1), .int .u32 (wd L 2), .int .u32 (wd L 6), (.slice (tlA g o c) (l - 10) (c - 10))]] X fun e w' => e = .returned (.bool true) ∧ Below X.heap.size X w' := fun X => by have := wfm_any (gd L 0) (gd L 1) (wd L 2) (wd L 6) (l - 10) (c - 10) (tlA g o c) X (by omega); rwa [hf] at this
        go_wp2_with (first | (go_at_call 17; (with_reducible refine Calls.mono (hfm _) ?_); rintro e w2 ⟨rfl, hb2⟩; have hM2 := hM.below hb2; have n0 := hM2.2.1 0; have n1 := hM2.2.1 1; have n2 := hM2.2.1 2; have n3 := hM2.2.1 3; have n4 := hM2.2.1 4; have hR2 := hR.below hb2; have hB2 := hb.trans (hb2.mono hb.size); have hq := clone_any S (L.drop 10) (l - 10) (tlA g o c) (c - 10) w2 hdl (htl'.out _ hB2)) | (go_at_call 20; (with_reducible refine Calls.mono hq ?_); rintro e w3 ⟨⟨v, rfl, hO⟩, hb3⟩; obtain ⟨va', vc', ev⟩ := hO.form; rw [hdl] at ev; subst ev; have hM3 := hM2.below hb3; have k0 := hM3.2.1 0; have k1 := hM3.2.1 1; have k2 := hM3.2.1 2; have k3 := hM3.2.1 3; have k4 := hM3.2.1 4; have kf := hM3.2.2; have hR3 := hR2.below hb3; have r0 := hR3.2.1 0; have r1 := hR3.2.1 1; have r2 := hR3.2.1 2; have r3 := hR3.2.1 3; have r4 := hR3.2.1 4; have rf := hR3.2.2))
        have hR4 := hR3.far (c := p4) (i := 4) (by omega) (.slice va' (l - 10) vc')
        have hF := hR4.set5 (.int .i64 (gd L 0)) (.int .i64 (gd L 1)) (.int .u32 (wd L 2)) (.int .u32 (wd L 6)) (.slice va' (l - 10) vc')
        have hB4 : Below w.heap.size w (w3.setCell ⟨p4, 4, none⟩ (.slice va' (l - 10) vc')) := (hB2.trans (hb3.mono hB2.size)).setCell (p := ⟨p4, 4, none⟩) (Nat.le_of_lt hp) _
        have hBF := bel5 hB4 (Nat.le_refl w.heap.size) (.int .i64 (gd L 0)) (.int .i64 (gd L 1)) (.int .u32 (wd L 2)) (.int .u32 (wd L 6)) (.slice va' (l - 10) vc')
        have zM := hM2.1
        have hO4 := (hO.only (only_of_set w3 p4 4 (.slice va' (l - 10) vc')) (fun q hq e => by have h6 := (hO.lt q hq).1; omega)).only (only5 (w := w3.setCell ⟨p4, 4, none⟩ (.slice va' (l - 10) vc')) (g := w.heap.size) (x0 := .int .i64 (gd L 0)) (x1 := .int .i64 (gd L 1)) (x2 := .int .u32 (wd L 2)) (x3 := .int .u32 (wd L 6)) (x4 := .slice va' (l - 10) vc')) (fun q hq e => by have h6 := (hO.lt q hq).1; omega)
        have iF := hF.2.1
        exact bodyPost_ret (v := .tuple #[.agg #[.int .i64 (gd L 0), .int .i64 (gd L 1), .int .u32 (wd L 2), .int .u32 (wd L 6), (.slice va' (l - 10) vc')], .int .i64 0]) (by simp [results, Try.results12, go_sem, iF]) rfl ⟨⟨.slice va' (l - 10) vc', by rw [eV], by rw [eD]; exact hO4.mono hB2.size⟩, hBF⟩
  · skip
    go_simp
    refine hK.out _ _ ?_ (fun hHeld => ?_)
    · (try dsimp only)
      exact ⟨rd'.out _ (hb0.alloc hb0.size _) 0 u0, rd'.out _ (hb0.alloc hb0.size _) 1 u1⟩
    clear hK K
    (try simp only [Act.put, List.setIfInBounds_toArray, List.set_cons_zero, List.set_cons_succ])
    have hM_8 : Has (c0.alloc (.cells #[.int .i64 0, .int .i64 0, .int .u32 0, .int .u32 0, .slice none 0 0] 25)) c0.heap.size #[.int .i64 0, .int .i64 0, .int .u32 0, .int .u32 0, .slice none 0 0] := Has.new _ _ _ rfl
    have hR_8 := hR0.alloc (.cells #[.int .i64 0, .int .i64 0, .int .u32 0, .int .u32 0, .slice none 0 0] 25)
    have hb_8 : Below w.heap.size w (c0.alloc (.cells #[.int .i64 0, .int .i64 0, .int .u32 0, .int .u32 0, .slice none 0 0] 25)) := hb0.alloc hb0.size _
    have hp : w.heap.size < c0.heap.size := hR0.1
    generalize c0.alloc (.cells #[.int .i64 0, .int .i64 0, .int .u32 0, .int .u32 0, .slice none 0 0] 25) = w_8 at *
    generalize c0.heap.size = p4 at *
    refine wpAnyH_ready (rs := [10]) (by kernel_rfl) (by simp) ?_
    refine (AllReadyH.cons (o := { dst := some 19, op := Op.call { callee := Callee.value (Operand.func 19), args := #[Operand.tmp 18], argTypes := #[23] }, type := 22, pos := "message.go:31", after := #[{ on := 9, ground := Ground.data }], guard := none }) rfl (fun K hK => ?_) AllReadyH.nil)
    go_simp
    have hq := word_any g (o + 2) (l - 2) (c - 2) (gd L 2) (gd L 3) (gd L 4) (gd L 5) w_8 (by omega) (by omega) (rd'.out _ hb_8 2 (by omega)) (rd'.out _ hb_8 3 (by omega)) (rd'.out _ hb_8 4 (by omega)) (rd'.out _ hb_8 5 (by omega)) (gd_in hr'.out 2) (gd_in hr'.out 3) (gd_in hr'.out 4) (gd_in hr'.out 5)
    rw [show gd L 2 + 256 * gd L 3 + 65536 * gd L 4 + 16777216 * gd L 5 = wd L 2 from rfl] at hq
    go_at_call 19; (with_reducible refine Calls.mono hq ?_); clear hq; rintro e w_9 ⟨rfl, hx⟩; have hb_9 := hb_8.trans (hx.mono hb_8.size); have hR_9 := hR_8.below hx; have hM_9 := hM_8.below hx; clear hx
    go_wp2_with fail
    refine hK.out _ _ ?_ (fun hHeld => ?_)
    · (try dsimp only)
      exact ⟨rd'.out _ hb_9 0 u0, rd'.out _ hb_9 1 u1⟩
    clear hK K
    (try simp only [Act.put, List.setIfInBounds_toArray, List.set_cons_zero, List.set_cons_succ])
    refine wpAnyH_ready (rs := [13]) (by kernel_rfl) (by simp) ?_
    refine (AllReadyH.cons (o := { dst := some 22, op := Op.call { callee := Callee.value (Operand.func 19), args := #[Operand.tmp 21], argTypes := #[23] }, type := 22, pos := "message.go:31", after := #[{ on := 12, ground := Ground.data }, { on := 10, ground := Ground.chain }], guard := none }) rfl (fun K hK => ?_) AllReadyH.nil)
    go_simp
    have hq := word_any g (o + 6) (l - 6) (c - 6) (gd L 6) (gd L 7) (gd L 8) (gd L 9) w_9 (by omega) (by omega) (rd'.out _ hb_9 6 (by omega)) (rd'.out _ hb_9 7 (by omega)) (rd'.out _ hb_9 8 (by omega)) (rd'.out _ hb_9 9 (by omega)) (gd_in hr'.out 6) (gd_in hr'.out 7) (gd_in hr'.out 8) (gd_in hr'.out 9)
    rw [show gd L 6 + 256 * gd L 7 + 65536 * gd L 8 + 16777216 * gd L 9 = wd L 6 from rfl] at hq
    go_at_call 19; (with_reducible refine Calls.mono hq ?_); clear hq; rintro e w_10 ⟨rfl, hx⟩; have hb_10 := hb_9.trans (hx.mono hb_9.size); have hR_10 := hR_9.below hx; have hM_10 := hM_9.below hx; clear hx
    go_wp2_with fail
    refine hK.out _ _ ?_ (fun hHeld => ?_)
    · (try dsimp only)
      exact ⟨rd'.out _ hb_10 0 u0, rd'.out _ hb_10 1 u1⟩
    clear hK K
    (try simp only [Act.put, List.setIfInBounds_toArray, List.set_cons_zero, List.set_cons_succ])
    refine wpAnyH_take (i := 16) (oi := { dst := some 25, op := Op.build 25 #[(0, Operand.tmp 12), (1, Operand.tmp 16), (2, Operand.tmp 19), (3, Operand.tmp 22), (4, Operand.tmp 24)], type := 25, pos := "message.go:31", after := #[{ on := 3, ground := Ground.data }, { on := 7, ground := Ground.data }, { on := 10, ground := Ground.data }, { on := 13, ground := Ground.data }, { on := 15, ground := Ground.data }], guard := none }) (v := ?_) rfl (by kernel_rfl) (by kernel_rfl) (by kernel_rfl) (fun _ _ _ h => h) (Or.inl ⟨by rfl, ?_⟩) (by assumption) ?_
    rotate_left
    · intro wz hSz; (try dsimp only at hSz); go_simp; all_goals (with_reducible rfl)
    (try simp only [Act.put, List.setIfInBounds_toArray, List.set_cons_zero, List.set_cons_succ])
    refine wpAnyH_ready (rs := [18]) (by kernel_rfl) (by simp) ?_
    refine (AllReadyH.cons (o := { dst := none, op := Op.store 25 (Operand.tmp 4) (Operand.tmp 25), type := 0, pos := "message.go:31", after := #[{ on := 17, ground := Ground.data }, { on := 16, ground := Ground.data }, { on := 13, ground := Ground.chain }, { on := 0, ground := Ground.phase }, { on := 1, ground := Ground.phase }, { on := 2, ground := Ground.phase }, { on := 3, ground := Ground.phase }, { on := 4, ground := Ground.phase }, { on := 5, ground := Ground.phase }, { on := 6, ground := Ground.phase }, { on := 7, ground := Ground.phase }, { on := 8, ground := Ground.phase }, { on := 9, ground := Ground.phase }, { on := 10, ground := Ground.phase }, { on := 11, ground := Ground.phase }, { on := 12, ground := Ground.phase }, { on := 13, ground := Ground.phase }, { on := 14, ground := Ground.phase }, { on := 15, ground := Ground.phase }, { on := 16, ground := Ground.phase }, { on := 17, ground := Ground.phase }], guard := none }) rfl (fun K hK => ?_) AllReadyH.nil)
    have q0 := hM_10.2.1 0
    have q1 := hM_10.2.1 1
    have q2 := hM_10.2.1 2
    have q3 := hM_10.2.1 3
    have q4 := hM_10.2.1 4
    have qf := hM_10.2.2
    have hM_11 := hM_10.set5 (.int .i64 (gd L 0)) (.int .i64 (gd L 1)) (.int .u32 (wd L 2)) (.int .u32 (wd L 6)) (.slice (tlA g o c) (l - 10) (c - 10))
    have hb_11 := bel5 hb_10 (Nat.le_of_lt hp) (.int .i64 (gd L 0)) (.int .i64 (gd L 1)) (.int .u32 (wd L 2)) (.int .u32 (wd L 6)) (.slice (tlA g o c) (l - 10) (c - 10))
    have hR_11 := hR_10.only (only5 (w := w_10) (g := p4) (x0 := .int .i64 (gd L 0)) (x1 := .int .i64 (gd L 1)) (x2 := .int .u32 (wd L 2)) (x3 := .int .u32 (wd L 6)) (x4 := (.slice (tlA g o c) (l - 10) (c - 10)))) (by omega)
    go_simp
    refine hK.out _ _ ?_ (fun hHeld => ?_)
    · (try dsimp only)
      exact ⟨rd'.out _ hb_11 0 u0, rd'.out _ hb_11 1 u1⟩
    clear hK K q0 q1 q2 q3 q4 qf
    (try simp only [Act.put, List.setIfInBounds_toArray, List.set_cons_zero, List.set_cons_succ])
    generalize (((((w_10.setCell ⟨p4, 0, none⟩ (.int .i64 (gd L 0))).setCell ⟨p4, 1, none⟩ (.int .i64 (gd L 1))).setCell ⟨p4, 2, none⟩ (.int .u32 (wd L 2))).setCell ⟨p4, 3, none⟩ (.int .u32 (wd L 6))).setCell ⟨p4, 4, none⟩ (.slice (tlA g o c) (l - 10) (c - 10))) = w_11 at *
    refine wpAnyH_done (by kernel_rfl) ?_ _
    refine NoPanic.normal ?_
    have hM := hM_11
    have hR := hR_11
    have hb := hb_11
    clear hM_11 hR_11 hb_11
    clear hHeld
    have m0 := hM.2.1 0
    have m1 := hM.2.1 1
    have m2 := hM.2.1 2
    have m3 := hM.2.1 3
    have m4 := hM.2.1 4
    cases hf : fmB (gd L 0) (gd L 1) (wd L 2) (wd L 6) (l - 10) with
    | false =>
      have hno : uOk L = false := by simp [uOk, hL'.out, hf]
      have eV : ∀ v, uV L v = .tuple #[.agg #[.int .i64 0, .int .i64 0, .int .u32 0, .int .u32 0, v], .int .i64 173] := fun v => by simp [uV, uX, uE, hno]
      have eD : uD L = [] := by simp [uD, hno]
      have hfm : ∀ X : World, Calls Try.prog 17 #[.agg #[.int .i64 (gd L 0), .int .i64 (gd L 1), .int .u32 (wd L 2), .int .u32 (wd L 6), (.slice (tlA g o c) (l - 10) (c - 10))]] X fun e w' => e = .returned (.bool false) ∧ Below X.heap.size X w' := fun X => by have := wfm_any (gd L 0) (gd L 1) (wd L 2) (wd L 6) (l - 10) (c - 10) (tlA g o c) X (by omega); rwa [hf] at this
      go_wp2_with (go_at_call 17; (with_reducible refine Calls.mono (hfm _) ?_); rintro e w2 ⟨rfl, hb2⟩; have hR2 := hR.below hb2; have r0 := hR2.2.1 0; have r1 := hR2.2.1 1; have r2 := hR2.2.1 2; have r3 := hR2.2.1 3; have r4 := hR2.2.1 4; have rf := hR2.2.2)
      have hF := hR2.set5 (.int .i64 0) (.int .i64 0) (.int .u32 0) (.int .u32 0) (.slice none 0 0)
      have hBF := bel5 (hb.trans (hb2.mono hb.size)) (Nat.le_refl w.heap.size) (.int .i64 0) (.int .i64 0) (.int .u32 0) (.int .u32 0) (.slice none 0 0)
      have iF := hF.2.1
      exact bodyPost_ret (v := .tuple #[.agg #[.int .i64 0, .int .i64 0, .int .u32 0, .int .u32 0, .slice none 0 0], .int .i64 173]) (by simp [results, Try.results12, go_sem, iF]) rfl ⟨⟨.slice none 0 0, by rw [eV], by rw [eD]; exact .inl ⟨rfl, rfl⟩⟩, hBF⟩
    | true =>
      have hyes : uOk L = true := by simp [uOk, hL'.out, hf, h10]
      have eV : ∀ v, uV L v = .tuple #[.agg #[.int .i64 (gd L 0), .int .i64 (gd L 1), .int .u32 (wd L 2), .int .u32 (wd L 6), v], .int .i64 0] := fun v => by simp [uV, uX, uE, hyes]
      have eD : uD L = L.drop 10 := by simp [uD, hyes]
      have hfm : ∀ X : World, Calls Try.prog 17 #[.agg #[.int .i64 (gd L 0), .int .i64 (gd L 1), .int .u32 (wd L 2), .int .u32 (wd L 6), (.slice (tlA g o c) (l - 10) (c - 10))]] X fun e w' => e = .returned (.bool true) ∧ Below X.heap.size X w' := fun X => by have := wfm_any (gd L 0) (gd L 1) (wd L 2) (wd L 6) (l - 10) (c - 10) (tlA g o c) X (by omega); rwa [hf] at this
      go_wp2_with (first | (go_at_call 17; (with_reducible refine Calls.mono (hfm _) ?_); rintro e w2 ⟨rfl, hb2⟩; have hM2 := hM.below hb2; have n0 := hM2.2.1 0; have n1 := hM2.2.1 1; have n2 := hM2.2.1 2; have n3 := hM2.2.1 3; have n4 := hM2.2.1 4; have hR2 := hR.below hb2; have hB2 := hb.trans (hb2.mono hb.size); have hq := clone_any S (L.drop 10) (l - 10) (tlA g o c) (c - 10) w2 hdl (htl'.out _ hB2)) | (go_at_call 20; (with_reducible refine Calls.mono hq ?_); rintro e w3 ⟨⟨v, rfl, hO⟩, hb3⟩; obtain ⟨va', vc', ev⟩ := hO.form; rw [hdl] at ev; subst ev; have hM3 := hM2.below hb3; have k0 := hM3.2.1 0; have k1 := hM3.2.1 1; have k2 := hM3.2.1 2; have k3 := hM3.2.1 3; have k4 := hM3.2.1 4; have kf := hM3.2.2; have hR3 := hR2.below hb3; have r0 := hR3.2.1 0; have r1 := hR3.2.1 1; have r2 := hR3.2.1 2; have r3 := hR3.2.1 3; have r4 := hR3.2.1 4; have rf := hR3.2.2))
      have hR4 := hR3.far (c := p4) (i := 4) (by omega) (.slice va' (l - 10) vc')
      have hF := hR4.set5 (.int .i64 (gd L 0)) (.int .i64 (gd L 1)) (.int .u32 (wd L 2)) (.int .u32 (wd L 6)) (.slice va' (l - 10) vc')
      have hB4 : Below w.heap.size w (w3.setCell ⟨p4, 4, none⟩ (.slice va' (l - 10) vc')) := (hB2.trans (hb3.mono hB2.size)).setCell (p := ⟨p4, 4, none⟩) (Nat.le_of_lt hp) _
      have hBF := bel5 hB4 (Nat.le_refl w.heap.size) (.int .i64 (gd L 0)) (.int .i64 (gd L 1)) (.int .u32 (wd L 2)) (.int .u32 (wd L 6)) (.slice va' (l - 10) vc')
      have zM := hM2.1
      have hO4 := (hO.only (only_of_set w3 p4 4 (.slice va' (l - 10) vc')) (fun q hq e => by have h6 := (hO.lt q hq).1; omega)).only (only5 (w := w3.setCell ⟨p4, 4, none⟩ (.slice va' (l - 10) vc')) (g := w.heap.size) (x0 := .int .i64 (gd L 0)) (x1 := .int .i64 (gd L 1)) (x2 := .int .u32 (wd L 2)) (x3 := .int .u32 (wd L 6)) (x4 := .slice va' (l - 10) vc')) (fun q hq e => by have h6 := (hO.lt q hq).1; omega)
      have iF := hF.2.1
      exact bodyPost_ret (v := .tuple #[.agg #[.int .i64 (gd L 0), .int .i64 (gd L 1), .int .u32 (wd L 2), .int .u32 (wd L 6), (.slice va' (l - 10) vc')], .int .i64 0]) (by simp [results, Try.results12, go_sem, iF]) rfl ⟨⟨.slice va' (l - 10) vc', by rw [eV], by rw [eD]; exact hO4.mono hB2.size⟩, hBF⟩
end Go.Proofs.Ytahheagfgfpdmaa
