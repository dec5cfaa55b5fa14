import Derived.Test.YtahheagfgfpdmaaWmJ
import Derived.Test.YtahheagfgfpdmaaWmD
import Derived.Test.YtahheagfgfpdmaaWmG
namespace Go.Proofs.Ytahheagfgfpdmaa
open Go.RowKit
set_option linter.unusedVariables false
set_option linter.unusedSimpArgs false

set_option maxRecDepth 100000 in
set_option maxHeartbeats 2000000 in
theorem unpack11 (S : Nat → Prop) (L : List Int) (l c : Nat) (va : Option Addr) (w : World) (hL : L.length = l) (hB : By S w (.slice va l c) L) (hr : ∀ x ∈ L, 0 ≤ x ∧ x ≤ 255) (hl : l ≤ 140737488355000) : Calls Try.prog 11 #[.slice va l c] w fun e w' => (∃ v, e = .returned (uV L v) ∧ Ob w.heap.size w' v (uD L)) ∧ Below w.heap.size w w' := by
  by_cases h10 : 10 ≤ l
  case neg =>
    have hno : uOk L = false := by simp [uOk, hL, h10]
    have t1 : (l : Int) < 10 := by omega
    have eV : ∀ v, uV L v = .tuple #[.agg #[.int .i64 0, .int .i64 0, .int .u32 0, .int .u32 0, v], .int .i64 173] := fun v => by simp [uV, uX, uE, hno]
    have eD : uD L = [] := by simp [uD, hno]
    simp only [eV, eD]
    go_enter Try.func11, Try.ntmps11
    go_wp2_with fail
    exact bodyPost_ret (v := .tuple #[.agg #[.int .i64 0, .int .i64 0, .int .u32 0, .int .u32 0, .slice none 0 0], .int .i64 173]) (by simp [results, Try.results11, go_sem]) rfl ⟨⟨_, rfl, .inl ⟨rfl, rfl⟩⟩, belN1⟩
  have t1 : ¬ (l : Int) < 10 := by omega
  obtain ⟨ti, hi, hx⟩ := Option.map_eq_some_iff.1 infoB
  have hi0 : ti.zero = some (.int .u8 0) := congrArg (·.1) hx
  have hi1 : ti.size = 1 := congrArg (·.2.1) hx
  have hi2 : ti.bytes = 1 := congrArg (·.2.2) hx
  obtain ⟨g, o, rfl, hc, rd⟩ := hB.get hL (by omega)
  have htl := fun (X : World) (hX : Below w.heap.size w X) => ((hB.keep (Mv.below hX)).tail hL h10)
  have hst := slice_tl g o l c h10 hc
  have x0 := gd_in hr 0
  have x1 := gd_in hr 1
  have g0 : IntKind.i64.wrap (gd L 0) = gd L 0 := wrap64 _ (by omega)
  have g1 : IntKind.i64.wrap (gd L 1) = gd L 1 := wrap64 _ (by omega)
  have u0 : 0 < l := by omega
  have u1 : 1 < l := by omega
  have i0 : (0 : Int) < (l : Int) := by omega
  have i1 : (1 : Int) < (l : Int) := by omega
  have hL' : Hid (L.length = l) := hL
  have hr' : Hid (∀ x ∈ L, 0 ≤ x ∧ x ≤ 255) := hr
  have rd' : Hid (∀ X : World, Below w.heap.size w X → ∀ i, i < l → X.cell? ⟨g, o + i, none⟩ = some (.int .u8 (gd L i))) := rd
  have htl' : Hid (∀ X : World, Below w.heap.size w X → By S X (.slice (tlA g o c) (l - 10) (c - 10)) (L.drop 10)) := htl
  clear hB hL hr rd htl x0 x1
  go_enter Try.func11, Try.ntmps11
  go_upto_region 3 with fail
  refine wp_region_noPanic ?_
  refine wp_region_held_drew (S := fun w' => w'.cell? ⟨g, o, none⟩ = some (.int .u8 (gd L 0)) ∧ w'.cell? ⟨g, o + 1, none⟩ = some (.int .u8 (gd L 1))) (by kernel_rfl) ?_ (fun hHeld => ?_)
  · (try dsimp only)
    exact ⟨rd'.out _ ((belN1).drew) 0 u0, rd'.out _ ((belN1).drew) 1 u1⟩
  refine wpAnyH_take (i := 0) (oi := { dst := some 10, op := Op.move (Operand.tmp 0), type := 23, pos := "frames.go:176", after := #[], guard := none }) (v := ?_) rfl (by kernel_rfl) (by kernel_rfl) (by kernel_rfl) (fun _ _ _ h => h) (Or.inl ⟨by rfl, ?_⟩) (by assumption) ?_
  rotate_left
  · intro wz hSz; (try dsimp only at hSz); go_simp; all_goals (with_reducible rfl)
  (try simp only [Act.put, List.setIfInBounds_toArray, List.set_cons_zero, List.set_cons_succ])
  refine wpAnyH_take (i := 1) (oi := { dst := some 11, op := Op.indexAddr 23 (Operand.tmp 10) (Operand.const (Value.int IntKind.i64 0)), type := 0, pos := "frames.go:176", after := #[{ on := 0, ground := Ground.data }], guard := none }) (v := ?_) rfl (by kernel_rfl) (by kernel_rfl) (by kernel_rfl) (fun _ _ _ h => h) (Or.inl ⟨by rfl, ?_⟩) (by assumption) ?_
  rotate_left
  · intro wz hSz; (try dsimp only at hSz); go_simp; all_goals (with_reducible rfl)
  (try simp only [Act.put, List.setIfInBounds_toArray, List.set_cons_zero, List.set_cons_succ])
  refine wpAnyH_take (i := 2) (oi := { dst := some 12, op := Op.load 5 (Operand.tmp 11), type := 5, pos := "frames.go:176", after := #[{ on := 1, ground := Ground.data }], guard := none }) (v := ?_) rfl (by kernel_rfl) (by kernel_rfl) (by kernel_rfl) (fun _ _ _ h => h) (Or.inl ⟨by rfl, ?_⟩) (by assumption) ?_
  rotate_left
  · intro wz hSz; (try dsimp only at hSz); go_simp; all_goals (with_reducible rfl)
  (try simp only [Act.put, List.setIfInBounds_toArray, List.set_cons_zero, List.set_cons_succ])
  refine wpAnyH_take (i := 3) (oi := { dst := some 13, op := Op.convert 5 3 (Operand.tmp 12), type := 3, pos := "frames.go:176", after := #[{ on := 2, ground := Ground.data }], guard := none }) (v := ?_) rfl (by kernel_rfl) (by kernel_rfl) (by kernel_rfl) (fun _ _ _ h => h) (Or.inl ⟨by rfl, ?_⟩) (by assumption) ?_
  rotate_left
  · intro wz hSz; (try dsimp only at hSz); go_simp; all_goals (with_reducible rfl)
  (try simp only [Act.put, List.setIfInBounds_toArray, List.set_cons_zero, List.set_cons_succ])
  refine wpAnyH_take (i := 4) (oi := { dst := some 14, op := Op.move (Operand.tmp 0), type := 23, pos := "frames.go:176", after := #[], guard := none }) (v := ?_) rfl (by kernel_rfl) (by kernel_rfl) (by kernel_rfl) (fun _ _ _ h => h) (Or.inl ⟨by rfl, ?_⟩) (by assumption) ?_
  rotate_left
  · intro wz hSz; (try dsimp only at hSz); go_simp; all_goals (with_reducible rfl)
  (try simp only [Act.put, List.setIfInBounds_toArray, List.set_cons_zero, List.set_cons_succ])
  refine wpAnyH_take (i := 5) (oi := { dst := some 15, op := Op.indexAddr 23 (Operand.tmp 14) (Operand.const (Value.int IntKind.i64 1)), type := 0, pos := "frames.go:176", after := #[{ on := 4, ground := Ground.data }], guard := none }) (v := ?_) rfl (by kernel_rfl) (by kernel_rfl) (by kernel_rfl) (fun _ _ _ h => h) (Or.inl ⟨by rfl, ?_⟩) (by assumption) ?_
  rotate_left
  · intro wz hSz; (try dsimp only at hSz); go_simp; all_goals (with_reducible rfl)
  (try simp only [Act.put, List.setIfInBounds_toArray, List.set_cons_zero, List.set_cons_succ])
  refine wpAnyH_take (i := 6) (oi := { dst := some 16, op := Op.load 5 (Operand.tmp 15), type := 5, pos := "frames.go:176", after := #[{ on := 5, ground := Ground.data }], guard := none }) (v := ?_) rfl (by kernel_rfl) (by kernel_rfl) (by kernel_rfl) (fun _ _ _ h => h) (Or.inl ⟨by rfl, ?_⟩) (by assumption) ?_
  rotate_left
  · intro wz hSz; (try dsimp only at hSz); go_simp; all_goals (with_reducible rfl)
  (try simp only [Act.put, List.setIfInBounds_toArray, List.set_cons_zero, List.set_cons_succ])
  refine wpAnyH_take (i := 7) (oi := { dst := some 17, op := Op.convert 5 3 (Operand.tmp 16), type := 3, pos := "frames.go:176", after := #[{ on := 6, ground := Ground.data }], guard := none }) (v := ?_) rfl (by kernel_rfl) (by kernel_rfl) (by kernel_rfl) (fun _ _ _ h => h) (Or.inl ⟨by rfl, ?_⟩) (by assumption) ?_
  rotate_left
  · intro wz hSz; (try dsimp only at hSz); go_simp; all_goals (with_reducible rfl)
  (try simp only [Act.put, List.setIfInBounds_toArray, List.set_cons_zero, List.set_cons_succ])
  refine wpAnyH_take (i := 8) (oi := { dst := some 18, op := Op.build 25 #[(0, Operand.tmp 13), (1, Operand.tmp 17)], type := 25, pos := "frames.go:176", after := #[{ on := 3, ground := Ground.data }, { on := 7, ground := Ground.data }], guard := none }) (v := ?_) rfl (by kernel_rfl) (by kernel_rfl) (by kernel_rfl) (fun _ _ _ h => h) (Or.inl ⟨by rfl, ?_⟩) (by assumption) ?_
  rotate_left
  · intro wz hSz; (try dsimp only at hSz); go_simp; all_goals (with_reducible rfl)
  (try simp only [Act.put, List.setIfInBounds_toArray, List.set_cons_zero, List.set_cons_succ])
  refine wpAnyH_ready (rs := [9]) (by kernel_rfl) (by simp) ?_
  refine AllReadyH.cons (o := { dst := some 4, op := Op.alloc 25, type := 0, pos := "frames.go:176", after := #[], guard := none }) rfl (fun K hK => ?_) AllReadyH.nil
  go_simp
  refine hK.out _ _ ?_ (fun hHeld => ?_)
  · (try dsimp only)
    exact ⟨rd'.out _ ((belN2).drew) 0 u0, rd'.out _ ((belN2).drew) 1 u1⟩
  clear hK K
  (try simp only [Act.put, List.setIfInBounds_toArray, List.set_cons_zero, List.set_cons_succ])
  refine wpAnyH_ready (rs := [10]) (by kernel_rfl) (by simp) ?_
  refine AllReadyH.cons (o := { dst := none, op := Op.store 25 (Operand.tmp 4) (Operand.tmp 18), type := 0, pos := "frames.go:176", after := #[{ on := 9, ground := Ground.data }, { on := 8, ground := Ground.data }, { on := 0, ground := Ground.phase }, { on := 1, ground := Ground.phase }, { on := 2, ground := Ground.phase }, { on := 3, ground := Ground.phase }, { on := 4, ground := Ground.phase }, { on := 5, ground := Ground.phase }, { on := 6, ground := Ground.phase }, { on := 7, ground := Ground.phase }, { on := 8, ground := Ground.phase }, { on := 9, ground := Ground.phase }], guard := none }) rfl (fun K hK => ?_) AllReadyH.nil
  go_simp
  refine hK.out _ _ ?_ (fun hHeld => ?_)
  · (try dsimp only)
    exact ⟨rd'.out _ ((belN2).drew) 0 u0, rd'.out _ ((belN2).drew) 1 u1⟩
  clear hK K
  (try simp only [Act.put, List.setIfInBounds_toArray, List.set_cons_zero, List.set_cons_succ])
  refine wpAnyH_done (by kernel_rfl) ?_ _
  refine NoPanic.normal ?_
  have hR0 : Hid (Has ((w.alloc (.cells #[.int .i64 0, .int .i64 0, .int .u32 0, .int .u32 0, .slice none 0 0] 25)).alloc (.cells #[.int .i64 (gd L 0), .int .i64 (gd L 1), .int .u32 0, .int .u32 0, .slice none 0 0] 25)).drew w.heap.size #[.int .i64 0, .int .i64 0, .int .u32 0, .int .u32 0, .slice none 0 0]) := ((Has.new w #[.int .i64 0, .int .i64 0, .int .u32 0, .int .u32 0, .slice none 0 0] 25 rfl).alloc _).drew
  have hM0 : Hid (Has ((w.alloc (.cells #[.int .i64 0, .int .i64 0, .int .u32 0, .int .u32 0, .slice none 0 0] 25)).alloc (.cells #[.int .i64 (gd L 0), .int .i64 (gd L 1), .int .u32 0, .int .u32 0, .slice none 0 0] 25)).drew (w.heap.size + 1) #[.int .i64 (gd L 0), .int .i64 (gd L 1), .int .u32 0, .int .u32 0, .slice none 0 0]) := (Has.new (w.alloc (.cells #[.int .i64 0, .int .i64 0, .int .u32 0, .int .u32 0, .slice none 0 0] 25)) #[.int .i64 (gd L 0), .int .i64 (gd L 1), .int .u32 0, .int .u32 0, .slice none 0 0] 25 (by simp)).drew
  have hb0 : Hid (Below w.heap.size w ((w.alloc (.cells #[.int .i64 0, .int .i64 0, .int .u32 0, .int .u32 0, .slice none 0 0] 25)).alloc (.cells #[.int .i64 (gd L 0), .int .i64 (gd L 1), .int .u32 0, .int .u32 0, .slice none 0 0] 25)).drew) := (belN2).drew
  clear hHeld
  generalize ((w.alloc (.cells #[.int .i64 0, .int .i64 0, .int .u32 0, .int .u32 0, .slice none 0 0] 25)).alloc (.cells #[.int .i64 (gd L 0), .int .i64 (gd L 1), .int .u32 0, .int .u32 0, .slice none 0 0] 25)).drew = V at *
  go_wp2_with fail
  go_loopw [5] (fun s wr => ∃ j : Nat, 1 ≤ j ∧ j ≤ 5 ∧ s = .int .i64 (j : Int) ∧ Hid (Has wr w.heap.size #[.int .i64 0, .int .i64 0, .int .u32 0, .int .u32 0, .slice none 0 0]) ∧ Hid (Has wr (w.heap.size + 1) #[.int .i64 (gd L 0), .int .i64 (gd L 1), .int .u32 (acL L 2 (5 - j)), .int .u32 (acL L 6 (5 - j)), .slice none 0 0]) ∧ Hid (Below w.heap.size w wr)) (fun s _ => (intOf s).toNat)
  case atStart => exact ⟨5, by omega, by omega, rfl, hR0, hM0, hb0⟩
  case round =>
    clear hR0 hM0 hb0
    obtain ⟨j, h1, h5, rfl, hR', hM', hb'⟩ := hrel
    have hR := hR'.out
    have hM := hM'.out
    have hb := hb'.out
    clear hR' hM' hb'
    by_cases hj : 1 < j
    case neg =>
      obtain rfl : j = 1 := by omega
      rw [show 5 - 1 = 4 from rfl, acL_end, acL_end] at hM
      have hdl : (L.drop 10).length = l - 10 := by rw [List.length_drop, hL'.out]
      obtain ⟨hs1, hs2, -⟩ := (htl'.out _ hb.drew).srcN hdl
      have hL := hL'.out
      go_upto_region 9 with fail
      refine wp_region_noPanic ?_
      refine wp_region_E (S := fun w' => w'.cell? ⟨w.heap.size + 1, 4, none⟩ = some (.slice none 0 0)) (E := 6) (by kernel_rfl) ?_ (fun hHeld => ?_)
      · (try dsimp only)
        exact hM.2.1 4
      refine wpAnyE_take (i := 0) (oi := { dst := some 44, op := Op.fieldAddr 25 (Operand.tmp 4) 4, type := 0, pos := "frames.go:181", after := #[], guard := none }) (v := ?_) rfl (by kernel_rfl) (by kernel_rfl) (by kernel_rfl) (by kernel_rfl) (fun _ _ _ h => h) (Or.inl ⟨by rfl, ?_⟩) (by assumption) ?_
      rotate_left
      · intro wz hSz; (try dsimp only at hSz); go_simp; all_goals (with_reducible rfl)
      (try simp only [Act.put, List.setIfInBounds_toArray, List.set_cons_zero, List.set_cons_succ])
      refine wpAnyE_take (i := 1) (oi := { dst := some 45, op := Op.load 23 (Operand.tmp 44), type := 23, pos := "frames.go:181", after := #[{ on := 0, ground := Ground.data }], guard := none }) (v := ?_) rfl (by kernel_rfl) (by kernel_rfl) (by kernel_rfl) (by kernel_rfl) (fun _ _ _ h => h) (Or.inl ⟨by rfl, ?_⟩) (by assumption) ?_
      rotate_left
      · intro wz hSz; (try dsimp only at hSz); go_simp; all_goals (with_reducible rfl)
      (try simp only [Act.put, List.setIfInBounds_toArray, List.set_cons_zero, List.set_cons_succ])
      refine wpAnyE_take (i := 2) (oi := { dst := some 46, op := Op.move (Operand.tmp 0), type := 23, pos := "frames.go:181", after := #[], guard := none }) (v := ?_) rfl (by kernel_rfl) (by kernel_rfl) (by kernel_rfl) (by kernel_rfl) (fun _ _ _ h => h) (Or.inl ⟨by rfl, ?_⟩) (by assumption) ?_
      rotate_left
      · intro wz hSz; (try dsimp only at hSz); go_simp; all_goals (with_reducible rfl)
      (try simp only [Act.put, List.setIfInBounds_toArray, List.set_cons_zero, List.set_cons_succ])
      refine wpAnyE_take (i := 3) (oi := { dst := some 47, op := Op.slice 23 (Operand.tmp 46) (some (Operand.const (Value.int IntKind.i64 10))) none none, type := 23, pos := "frames.go:181", after := #[{ on := 2, ground := Ground.data }], guard := none }) (v := ?_) rfl (by kernel_rfl) (by kernel_rfl) (by kernel_rfl) (by kernel_rfl) (fun _ _ _ h => h) (Or.inl ⟨by rfl, ?_⟩) (by assumption) ?_
      rotate_left
      · intro wz hSz; (try dsimp only at hSz); go_simp; all_goals (with_reducible rfl)
      (try simp only [Act.put, List.setIfInBounds_toArray, List.set_cons_zero, List.set_cons_succ])
      refine wpAnyE_one (i := 4) (o := { dst := some 48, op := Op.call { callee := Callee.builtin Builtin.append, args := #[Operand.tmp 45, Operand.tmp 47], argTypes := #[23, 23] }, type := 23, pos := "frames.go:181", after := #[{ on := 1, ground := Ground.data }, { on := 3, ground := Ground.data }], guard := none }) (by kernel_rfl) rfl (by rfl) (fun K hK => ?_)
      refine wp_copy _ _ 23 rfl 5 ti _ 1 1 Try.underlying23 hi hi0 hi1 hi2 rfl (by decide) (tlA g o c) (l - 10) (c - 10) ((L.drop 10).map bv) rfl rfl (by simp [hL]) hs1 (bv_one _) hs2 (by unfold maxLen; omega) (by omega) ?_
      intro a' c' w1 own1 hb1
      have hM1 := (hM.drew).below hb1
      have hR1 := (hR.drew).below hb1
      have hB1 : Below w.heap.size w w1 := hb.drew.trans (hb1.mono hb.drew.size)
      have cM4 := hM1.2.1 4
      have fM4 := hM1.2.2 4
      refine hK.out _ _ cM4 (fun hHeld => ?_)
      clear hK K
      (try simp only [Act.put, List.setIfInBounds_toArray, List.set_cons_zero, List.set_cons_succ])
      refine wpAnyE_take (i := 5) (oi := { dst := some 49, op := Op.fieldAddr 25 (Operand.tmp 4) 4, type := 0, pos := "frames.go:181", after := #[{ on := 0, ground := Ground.phase }, { on := 1, ground := Ground.phase }, { on := 2, ground := Ground.phase }, { on := 3, ground := Ground.phase }, { on := 4, ground := Ground.phase }], guard := none }) (v := ?_) rfl (by kernel_rfl) (by kernel_rfl) (by kernel_rfl) (by kernel_rfl) (fun _ _ _ h => h) (Or.inl ⟨by rfl, ?_⟩) (by assumption) ?_
      rotate_left
      · intro wz hSz; (try dsimp only at hSz); go_simp; all_goals (with_reducible rfl)
      (try simp only [Act.put, List.setIfInBounds_toArray, List.set_cons_zero, List.set_cons_succ])
      refine wpAnyE_last (o := { dst := none, op := Op.store 23 (Operand.tmp 49) (Operand.tmp 48), type := 0, pos := "frames.go:181", after := #[{ on := 5, ground := Ground.data }, { on := 4, ground := Ground.data }, { on := 4, ground := Ground.chain }, { on := 0, ground := Ground.phase }, { on := 1, ground := Ground.phase }, { on := 2, ground := Ground.phase }, { on := 3, ground := Ground.phase }, { on := 4, ground := Ground.phase }], guard := none }) (by kernel_rfl) rfl (by kernel_rfl) (by rfl) (fun K hK => ?_)
      go_simp
      refine hK _ _ ?_
      refine NoPanic.normal ?_
      have zB := hM.1
      have hM9 : Has (w1.setCell ⟨w.heap.size + 1, 4, none⟩ (.slice a' (l - 10) c')) (w.heap.size + 1) #[.int .i64 (gd L 0), .int .i64 (gd L 1), .int .u32 (wd L 2), .int .u32 (wd L 6), (.slice a' (l - 10) c')] := hM1.set 4 (by simp) _
      have hR9 : Has (w1.setCell ⟨w.heap.size + 1, 4, none⟩ (.slice a' (l - 10) c')) w.heap.size #[.int .i64 0, .int .i64 0, .int .u32 0, .int .u32 0, .slice none 0 0] := hR1.far (by omega) _
      have hB9 : Below w.heap.size w (w1.setCell ⟨w.heap.size + 1, 4, none⟩ (.slice a' (l - 10) c')) := hB1.setCell (p := ⟨w.heap.size + 1, 4, none⟩) (by simp) _
      have own9 := own_only2 own1 (only_of_set w1 (w.heap.size + 1) 4 (.slice a' (l - 10) c')) (fun q hq e => by have h6 := (own_lt own1 q hq).1; have h7 : wr.drew.heap.size = wr.heap.size := rfl; omega)
      clear hM1 hR1 hB1 own1 hb1 hM hR cM4 fM4 hHeld hs1 hs2
      generalize w1.setCell ⟨w.heap.size + 1, 4, none⟩ (.slice a' (l - 10) c') = W9 at *
      have m0 := hM9.2.1 0
      have m1 := hM9.2.1 1
      have m2 := hM9.2.1 2
      have m3 := hM9.2.1 3
      have m4 := hM9.2.1 4
      have hob : wr.drew.heap.size = wr.heap.size := rfl
      have zb := hb.size
      rw [hob] at own9
      cases hf : fmB (gd L 0) (gd L 1) (wd L 2) (wd L 6) (l - 10) with
      | false =>
        have hno : uOk L = false := by simp [uOk, hL, hf]
        have eV : ∀ v, uV L v = .tuple #[.agg #[.int .i64 0, .int .i64 0, .int .u32 0, .int .u32 0, v], .int .i64 173] := fun v => by simp [uV, uX, uE, hno]
        have eD : uD L = [] := by simp [uD, hno]
        have hfm : ∀ X : World, Calls Try.prog 15 #[.agg #[.int .i64 (gd L 0), .int .i64 (gd L 1), .int .u32 (wd L 2), .int .u32 (wd L 6), (.slice a' (l - 10) c')]] X fun e w' => e = .returned (.bool false) ∧ Below X.heap.size X w' := fun X => by have := rfm_any (gd L 0) (gd L 1) (wd L 2) (wd L 6) (l - 10) c' a' X (by omega); rwa [hf] at this
        go_wp2_with (go_at_call 15; (with_reducible refine Calls.mono (hfm _) ?_); rintro e w2 ⟨rfl, hb2⟩; have hR2 := hR9.below hb2; have r0 := hR2.2.1 0; have r1 := hR2.2.1 1; have r2 := hR2.2.1 2; have r3 := hR2.2.1 3; have r4 := hR2.2.1 4; have rf := hR2.2.2)
        have hF := hR2.set5 (.int .i64 0) (.int .i64 0) (.int .u32 0) (.int .u32 0) (.slice none 0 0)
        have hBF := bel5 (hB9.trans (hb2.mono hB9.size)) (Nat.le_refl w.heap.size) (.int .i64 0) (.int .i64 0) (.int .u32 0) (.int .u32 0) (.slice none 0 0)
        have iF := hF.2.1
        exact bodyPost_ret (v := .tuple #[.agg #[.int .i64 0, .int .i64 0, .int .u32 0, .int .u32 0, .slice none 0 0], .int .i64 173]) (by simp [results, Try.results11, go_sem, iF]) rfl ⟨⟨.slice none 0 0, by rw [eV], by rw [eD]; exact .inl ⟨rfl, rfl⟩⟩, hBF⟩
      | true =>
        have hyes : uOk L = true := by simp [uOk, hL, hf, h10]
        have eV : ∀ v, uV L v = .tuple #[.agg #[.int .i64 (gd L 0), .int .i64 (gd L 1), .int .u32 (wd L 2), .int .u32 (wd L 6), v], .int .i64 0] := fun v => by simp [uV, uX, uE, hyes]
        have eD : uD L = L.drop 10 := by simp [uD, hyes]
        have hfm : ∀ X : World, Calls Try.prog 15 #[.agg #[.int .i64 (gd L 0), .int .i64 (gd L 1), .int .u32 (wd L 2), .int .u32 (wd L 6), (.slice a' (l - 10) c')]] X fun e w' => e = .returned (.bool true) ∧ Below X.heap.size X w' := fun X => by have := rfm_any (gd L 0) (gd L 1) (wd L 2) (wd L 6) (l - 10) c' a' X (by omega); rwa [hf] at this
        go_wp2_with (go_at_call 15; (with_reducible refine Calls.mono (hfm _) ?_); rintro e w2 ⟨rfl, hb2⟩; have hR2 := hR9.below hb2; have r0 := hR2.2.1 0; have r1 := hR2.2.1 1; have r2 := hR2.2.1 2; have r3 := hR2.2.1 3; have r4 := hR2.2.1 4; have rf := hR2.2.2; have hM2 := hM9.below hb2; have n0 := hM2.2.1 0; have n1 := hM2.2.1 1; have n2 := hM2.2.1 2; have n3 := hM2.2.1 3; have n4 := hM2.2.1 4)
        have hF := hR2.set5 (.int .i64 (gd L 0)) (.int .i64 (gd L 1)) (.int .u32 (wd L 2)) (.int .u32 (wd L 6)) (.slice a' (l - 10) c')
        have hBF := bel5 (hB9.trans (hb2.mono hB9.size)) (Nat.le_refl w.heap.size) (.int .i64 (gd L 0)) (.int .i64 (gd L 1)) (.int .u32 (wd L 2)) (.int .u32 (wd L 6)) (.slice a' (l - 10) c')
        have own2 := own_only2 (own_bel own9 hb2) (only5 (w := w2) (g := w.heap.size) (x0 := .int .i64 (gd L 0)) (x1 := .int .i64 (gd L 1)) (x2 := .int .u32 (wd L 2)) (x3 := .int .u32 (wd L 6)) (x4 := .slice a' (l - 10) c')) (fun q hq e => by have h6 := (own_lt own9 q hq).1; omega)
        have iF := hF.2.1
        exact bodyPost_ret (v := .tuple #[.agg #[.int .i64 (gd L 0), .int .i64 (gd L 1), .int .u32 (wd L 2), .int .u32 (wd L 6), (.slice a' (l - 10) c')], .int .i64 0]) (by simp [results, Try.results11, go_sem, iF]) rfl ⟨⟨.slice a' (l - 10) c', by rw [eV], by rw [eD]; exact (Ob.of_rowN hdl own2 (by omega)).mono hb.size⟩, hBF⟩
    have t2 : (1 : Int) < (j : Int) := by omega
    have t3 : (0 : Int) ≤ (j : Int) := by omega
    have t4 : (j : Int) < (l : Int) := by omega
    have t5 : (0 : Int) ≤ (j : Int) + 4 := by omega
    have t6 : (j : Int) + 4 < (l : Int) := by omega
    have t7 : ((j : Int) + 4).toNat = j + 4 := by omega
    have t8 : IntKind.i64.wrap ((j : Int) + 4) = (j : Int) + 4 := wrap64 _ (by omega)
    have hr := hr'.out
    have aN := acL_in hr 2 (5 - j) (by omega)
    have aU := acL_in hr 6 (5 - j) (by omega)
    have eN := acL_next L 2 j (by omega) (by omega)
    have eU := acL_next L 6 j (by omega) (by omega)
    rw [show 2 + j - 2 = j by omega] at eN
    rw [show 6 + j - 2 = j + 4 by omega] at eU
    have eN' : Hid (acL L 2 (5 - j) * 256 + gd L j = acL L 2 (5 - (j - 1))) := eN
    have eU' : Hid (acL L 6 (5 - j) * 256 + gd L (j + 4) = acL L 6 (5 - (j - 1))) := eU
    clear eN eU
    have y0 := gd_in hr j
    have z0 := gd_in hr (j + 4)
    have cy := rd'.out wr hb j (by omega)
    have cz := rd'.out wr hb (j + 4) (by omega)
    have aN3 := aN.2.2 (by omega)
    have aU3 := aU.2.2 (by omega)
    generalize gd L j = y at *
    generalize hez0 : gd L (j + 4) = z at *
    have hez : Hid (gd L (j + 4) = z) := hez0
    clear hez0
    generalize acL L 2 (5 - j) = N at *
    generalize acL L 6 (5 - j) = U at *
    have w1 : IntKind.u32.wrap (N * 256) = N * 256 := wrapU _ (by omega)
    have w2 : IntKind.u32.wrap y = y := wrapU _ (by omega)
    have w3 : IntKind.u32.wrap (N * 256 + y) = N * 256 + y := wrapU _ (by omega)
    have w4 : IntKind.u32.wrap (U * 256) = U * 256 := wrapU _ (by omega)
    have w5 : IntKind.u32.wrap z = z := wrapU _ (by omega)
    have w6 : IntKind.u32.wrap (U * 256 + z) = U * 256 + z := wrapU _ (by omega)
    have m2 := hM.2.1 2
    have f2 := hM.2.2 2
    have hMz := hM.1
    go_upto_region 7 with fail
    refine wp_region_noPanic ?_
    refine wp_region_E (S := fun w' => w'.cell? ⟨w.heap.size + 1, 2, none⟩ = some (.int .u32 N) ∧ w'.cell? ⟨g, o + j, none⟩ = some (.int .u8 y) ∧ w'.frozen? ⟨w.heap.size + 1, 2, none⟩ = false) (E := 10) (by kernel_rfl) ?_ (fun hHeld => ?_)
    · (try dsimp only)
      exact ⟨m2, cy, f2⟩
    refine wpAnyE_take (i := 0) (oi := { dst := some 23, op := Op.fieldAddr 25 (Operand.tmp 4) 2, type := 0, pos := "frames.go:178", after := #[], guard := none }) (v := ?_) rfl (by kernel_rfl) (by kernel_rfl) (by kernel_rfl) (by kernel_rfl) (fun _ _ _ h => h) (Or.inl ⟨by rfl, ?_⟩) (by assumption) ?_
    rotate_left
    · intro wz hSz; (try dsimp only at hSz); go_simp; all_goals (with_reducible rfl)
    (try simp only [Act.put, List.setIfInBounds_toArray, List.set_cons_zero, List.set_cons_succ])
    refine wpAnyE_take (i := 1) (oi := { dst := some 24, op := Op.load 22 (Operand.tmp 23), type := 22, pos := "frames.go:178", after := #[{ on := 0, ground := Ground.data }], guard := none }) (v := ?_) rfl (by kernel_rfl) (by kernel_rfl) (by kernel_rfl) (by kernel_rfl) (fun _ _ _ h => h) (Or.inl ⟨by rfl, ?_⟩) (by assumption) ?_
    rotate_left
    · intro wz hSz; (try dsimp only at hSz); go_simp; all_goals (with_reducible rfl)
    (try simp only [Act.put, List.setIfInBounds_toArray, List.set_cons_zero, List.set_cons_succ])
    refine wpAnyE_take (i := 2) (oi := { dst := some 25, op := Op.binOp BinOp.mul 22 (Operand.tmp 24) (Operand.const (Value.int IntKind.u32 256)) 22, type := 22, pos := "frames.go:178", after := #[{ on := 1, ground := Ground.data }], guard := none }) (v := ?_) rfl (by kernel_rfl) (by kernel_rfl) (by kernel_rfl) (by kernel_rfl) (fun _ _ _ h => h) (Or.inl ⟨by rfl, ?_⟩) (by assumption) ?_
    rotate_left
    · intro wz hSz; (try dsimp only at hSz); go_simp; all_goals (with_reducible rfl)
    (try simp only [Act.put, List.setIfInBounds_toArray, List.set_cons_zero, List.set_cons_succ])
    refine wpAnyE_take (i := 3) (oi := { dst := some 26, op := Op.move (Operand.tmp 0), type := 23, pos := "frames.go:178", after := #[], guard := none }) (v := ?_) rfl (by kernel_rfl) (by kernel_rfl) (by kernel_rfl) (by kernel_rfl) (fun _ _ _ h => h) (Or.inl ⟨by rfl, ?_⟩) (by assumption) ?_
    rotate_left
    · intro wz hSz; (try dsimp only at hSz); go_simp; all_goals (with_reducible rfl)
    (try simp only [Act.put, List.setIfInBounds_toArray, List.set_cons_zero, List.set_cons_succ])
    refine wpAnyE_take (i := 4) (oi := { dst := some 27, op := Op.move (Operand.tmp 5), type := 3, pos := "frames.go:178", after := #[], guard := none }) (v := ?_) rfl (by kernel_rfl) (by kernel_rfl) (by kernel_rfl) (by kernel_rfl) (fun _ _ _ h => h) (Or.inl ⟨by rfl, ?_⟩) (by assumption) ?_
    rotate_left
    · intro wz hSz; (try dsimp only at hSz); go_simp; all_goals (with_reducible rfl)
    (try simp only [Act.put, List.setIfInBounds_toArray, List.set_cons_zero, List.set_cons_succ])
    refine wpAnyE_take (i := 5) (oi := { dst := some 28, op := Op.indexAddr 23 (Operand.tmp 26) (Operand.tmp 27), type := 0, pos := "frames.go:178", after := #[{ on := 3, ground := Ground.data }, { on := 4, ground := Ground.data }], guard := none }) (v := ?_) rfl (by kernel_rfl) (by kernel_rfl) (by kernel_rfl) (by kernel_rfl) (fun _ _ _ h => h) (Or.inl ⟨by rfl, ?_⟩) (by assumption) ?_
    rotate_left
    · intro wz hSz; (try dsimp only at hSz); go_simp; all_goals (with_reducible rfl)
    (try simp only [Act.put, List.setIfInBounds_toArray, List.set_cons_zero, List.set_cons_succ])
    refine wpAnyE_take (i := 6) (oi := { dst := some 29, op := Op.load 5 (Operand.tmp 28), type := 5, pos := "frames.go:178", after := #[{ on := 5, ground := Ground.data }], guard := none }) (v := ?_) rfl (by kernel_rfl) (by kernel_rfl) (by kernel_rfl) (by kernel_rfl) (fun _ _ _ h => h) (Or.inl ⟨by rfl, ?_⟩) (by assumption) ?_
    rotate_left
    · intro wz hSz; (try dsimp only at hSz); go_simp; all_goals (with_reducible rfl)
    (try simp only [Act.put, List.setIfInBounds_toArray, List.set_cons_zero, List.set_cons_succ])
    refine wpAnyE_take (i := 7) (oi := { dst := some 30, op := Op.convert 5 22 (Operand.tmp 29), type := 22, pos := "frames.go:178", after := #[{ on := 6, ground := Ground.data }], guard := none }) (v := ?_) rfl (by kernel_rfl) (by kernel_rfl) (by kernel_rfl) (by kernel_rfl) (fun _ _ _ h => h) (Or.inl ⟨by rfl, ?_⟩) (by assumption) ?_
    rotate_left
    · intro wz hSz; (try dsimp only at hSz); go_simp; all_goals (with_reducible rfl)
    (try simp only [Act.put, List.setIfInBounds_toArray, List.set_cons_zero, List.set_cons_succ])
    refine wpAnyE_take (i := 8) (oi := { dst := some 31, op := Op.binOp BinOp.add 22 (Operand.tmp 25) (Operand.tmp 30) 22, type := 22, pos := "frames.go:178", after := #[{ on := 2, ground := Ground.data }, { on := 7, ground := Ground.data }], guard := none }) (v := ?_) rfl (by kernel_rfl) (by kernel_rfl) (by kernel_rfl) (by kernel_rfl) (fun _ _ _ h => h) (Or.inl ⟨by rfl, ?_⟩) (by assumption) ?_
    rotate_left
    · intro wz hSz; (try dsimp only at hSz); go_simp; all_goals (with_reducible rfl)
    (try simp only [Act.put, List.setIfInBounds_toArray, List.set_cons_zero, List.set_cons_succ])
    refine wpAnyE_take (i := 9) (oi := { dst := some 32, op := Op.fieldAddr 25 (Operand.tmp 4) 2, type := 0, pos := "frames.go:178", after := #[{ on := 0, ground := Ground.phase }, { on := 1, ground := Ground.phase }, { on := 2, ground := Ground.phase }, { on := 3, ground := Ground.phase }, { on := 4, ground := Ground.phase }, { on := 5, ground := Ground.phase }, { on := 6, ground := Ground.phase }, { on := 7, ground := Ground.phase }, { on := 8, ground := Ground.phase }], guard := none }) (v := ?_) rfl (by kernel_rfl) (by kernel_rfl) (by kernel_rfl) (by kernel_rfl) (fun _ _ _ h => h) (Or.inl ⟨by rfl, ?_⟩) (by assumption) ?_
    rotate_left
    · intro wz hSz; (try dsimp only at hSz); go_simp; all_goals (with_reducible rfl)
    (try simp only [Act.put, List.setIfInBounds_toArray, List.set_cons_zero, List.set_cons_succ])
    refine wpAnyE_last (o := { dst := none, op := Op.store 22 (Operand.tmp 32) (Operand.tmp 31), type := 0, pos := "frames.go:178", after := #[{ on := 9, ground := Ground.data }, { on := 8, ground := Ground.data }, { on := 0, ground := Ground.phase }, { on := 1, ground := Ground.phase }, { on := 2, ground := Ground.phase }, { on := 3, ground := Ground.phase }, { on := 4, ground := Ground.phase }, { on := 5, ground := Ground.phase }, { on := 6, ground := Ground.phase }, { on := 7, ground := Ground.phase }, { on := 8, ground := Ground.phase }], guard := none }) (by kernel_rfl) rfl (by kernel_rfl) (by rfl) (fun K hK => ?_)
    have xD : wr.drew.cell? ⟨w.heap.size + 1, 2, none⟩ = some (.int .u32 N) := m2
    have zD : wr.drew.frozen? ⟨w.heap.size + 1, 2, none⟩ = false := f2
    go_simp
    refine hK _ _ ?_
    refine NoPanic.normal ?_
    have hM7 : Has (wr.setCell ⟨w.heap.size + 1, 2, none⟩ (.int .u32 (N * 256 + y))).drew (w.heap.size + 1) #[.int .i64 (gd L 0), .int .i64 (gd L 1), .int .u32 (N * 256 + y), .int .u32 U, .slice none 0 0] := (hM.set 2 (by simp) _).drew
    have hR7 : Has (wr.setCell ⟨w.heap.size + 1, 2, none⟩ (.int .u32 (N * 256 + y))).drew w.heap.size #[.int .i64 0, .int .i64 0, .int .u32 0, .int .u32 0, .slice none 0 0] := (hR.far (by omega) _).drew
    have hB7 : Below w.heap.size w (wr.setCell ⟨w.heap.size + 1, 2, none⟩ (.int .u32 (N * 256 + y))).drew := (hb.setCell (p := ⟨w.heap.size + 1, 2, none⟩) (by simp) _).drew
    clear hM hR hb m2 f2 xD zD hHeld cy cz hK K
    generalize (wr.setCell ⟨w.heap.size + 1, 2, none⟩ (.int .u32 (N * 256 + y))).drew = W7 at *
    have cz := rd'.out W7 hB7 (j + 4) (by omega)
    rw [hez.out] at cz
    have m3 := hM7.2.1 3
    have f3 := hM7.2.2 3
    go_upto_region 8 with fail
    refine wp_region_noPanic ?_
    refine wp_region_E (S := fun w' => w'.cell? ⟨w.heap.size + 1, 3, none⟩ = some (.int .u32 U) ∧ w'.cell? ⟨g, o + (j + 4), none⟩ = some (.int .u8 z) ∧ w'.frozen? ⟨w.heap.size + 1, 3, none⟩ = false) (E := 11) (by kernel_rfl) ?_ (fun hHeld => ?_)
    · (try dsimp only)
      exact ⟨m3, cz, f3⟩
    refine wpAnyE_take (i := 0) (oi := { dst := some 33, op := Op.fieldAddr 25 (Operand.tmp 4) 3, type := 0, pos := "frames.go:179", after := #[], guard := none }) (v := ?_) rfl (by kernel_rfl) (by kernel_rfl) (by kernel_rfl) (by kernel_rfl) (fun _ _ _ h => h) (Or.inl ⟨by rfl, ?_⟩) (by assumption) ?_
    rotate_left
    · intro wz hSz; (try dsimp only at hSz); go_simp; all_goals (with_reducible rfl)
    (try simp only [Act.put, List.setIfInBounds_toArray, List.set_cons_zero, List.set_cons_succ])
    refine wpAnyE_take (i := 1) (oi := { dst := some 34, op := Op.load 22 (Operand.tmp 33), type := 22, pos := "frames.go:179", after := #[{ on := 0, ground := Ground.data }], guard := none }) (v := ?_) rfl (by kernel_rfl) (by kernel_rfl) (by kernel_rfl) (by kernel_rfl) (fun _ _ _ h => h) (Or.inl ⟨by rfl, ?_⟩) (by assumption) ?_
    rotate_left
    · intro wz hSz; (try dsimp only at hSz); go_simp; all_goals (with_reducible rfl)
    (try simp only [Act.put, List.setIfInBounds_toArray, List.set_cons_zero, List.set_cons_succ])
    refine wpAnyE_take (i := 2) (oi := { dst := some 35, op := Op.binOp BinOp.mul 22 (Operand.tmp 34) (Operand.const (Value.int IntKind.u32 256)) 22, type := 22, pos := "frames.go:179", after := #[{ on := 1, ground := Ground.data }], guard := none }) (v := ?_) rfl (by kernel_rfl) (by kernel_rfl) (by kernel_rfl) (by kernel_rfl) (fun _ _ _ h => h) (Or.inl ⟨by rfl, ?_⟩) (by assumption) ?_
    rotate_left
    · intro wz hSz; (try dsimp only at hSz); go_simp; all_goals (with_reducible rfl)
    (try simp only [Act.put, List.setIfInBounds_toArray, List.set_cons_zero, List.set_cons_succ])
    refine wpAnyE_take (i := 3) (oi := { dst := some 36, op := Op.move (Operand.tmp 0), type := 23, pos := "frames.go:179", after := #[], guard := none }) (v := ?_) rfl (by kernel_rfl) (by kernel_rfl) (by kernel_rfl) (by kernel_rfl) (fun _ _ _ h => h) (Or.inl ⟨by rfl, ?_⟩) (by assumption) ?_
    rotate_left
    · intro wz hSz; (try dsimp only at hSz); go_simp; all_goals (with_reducible rfl)
    (try simp only [Act.put, List.setIfInBounds_toArray, List.set_cons_zero, List.set_cons_succ])
    refine wpAnyE_take (i := 4) (oi := { dst := some 37, op := Op.move (Operand.tmp 5), type := 3, pos := "frames.go:179", after := #[], guard := none }) (v := ?_) rfl (by kernel_rfl) (by kernel_rfl) (by kernel_rfl) (by kernel_rfl) (fun _ _ _ h => h) (Or.inl ⟨by rfl, ?_⟩) (by assumption) ?_
    rotate_left
    · intro wz hSz; (try dsimp only at hSz); go_simp; all_goals (with_reducible rfl)
    (try simp only [Act.put, List.setIfInBounds_toArray, List.set_cons_zero, List.set_cons_succ])
    refine wpAnyE_take (i := 5) (oi := { dst := some 38, op := Op.binOp BinOp.add 3 (Operand.tmp 37) (Operand.const (Value.int IntKind.i64 4)) 3, type := 3, pos := "frames.go:179", after := #[{ on := 4, ground := Ground.data }], guard := none }) (v := ?_) rfl (by kernel_rfl) (by kernel_rfl) (by kernel_rfl) (by kernel_rfl) (fun _ _ _ h => h) (Or.inl ⟨by rfl, ?_⟩) (by assumption) ?_
    rotate_left
    · intro wz hSz; (try dsimp only at hSz); go_simp; all_goals (with_reducible rfl)
    (try simp only [Act.put, List.setIfInBounds_toArray, List.set_cons_zero, List.set_cons_succ])
    refine wpAnyE_take (i := 6) (oi := { dst := some 39, op := Op.indexAddr 23 (Operand.tmp 36) (Operand.tmp 38), type := 0, pos := "frames.go:179", after := #[{ on := 3, ground := Ground.data }, { on := 5, ground := Ground.data }], guard := none }) (v := ?_) rfl (by kernel_rfl) (by kernel_rfl) (by kernel_rfl) (by kernel_rfl) (fun _ _ _ h => h) (Or.inl ⟨by rfl, ?_⟩) (by assumption) ?_
    rotate_left
    · intro wz hSz; (try dsimp only at hSz); go_simp; all_goals (with_reducible rfl)
    (try simp only [Act.put, List.setIfInBounds_toArray, List.set_cons_zero, List.set_cons_succ])
    refine wpAnyE_take (i := 7) (oi := { dst := some 40, op := Op.load 5 (Operand.tmp 39), type := 5, pos := "frames.go:179", after := #[{ on := 6, ground := Ground.data }], guard := none }) (v := ?_) rfl (by kernel_rfl) (by kernel_rfl) (by kernel_rfl) (by kernel_rfl) (fun _ _ _ h => h) (Or.inl ⟨by rfl, ?_⟩) (by assumption) ?_
    rotate_left
    · intro wz hSz; (try dsimp only at hSz); go_simp; all_goals (with_reducible rfl)
    (try simp only [Act.put, List.setIfInBounds_toArray, List.set_cons_zero, List.set_cons_succ])
    refine wpAnyE_take (i := 8) (oi := { dst := some 41, op := Op.convert 5 22 (Operand.tmp 40), type := 22, pos := "frames.go:179", after := #[{ on := 7, ground := Ground.data }], guard := none }) (v := ?_) rfl (by kernel_rfl) (by kernel_rfl) (by kernel_rfl) (by kernel_rfl) (fun _ _ _ h => h) (Or.inl ⟨by rfl, ?_⟩) (by assumption) ?_
    rotate_left
    · intro wz hSz; (try dsimp only at hSz); go_simp; all_goals (with_reducible rfl)
    (try simp only [Act.put, List.setIfInBounds_toArray, List.set_cons_zero, List.set_cons_succ])
    refine wpAnyE_take (i := 9) (oi := { dst := some 42, op := Op.binOp BinOp.add 22 (Operand.tmp 35) (Operand.tmp 41) 22, type := 22, pos := "frames.go:179", after := #[{ on := 2, ground := Ground.data }, { on := 8, ground := Ground.data }], guard := none }) (v := ?_) rfl (by kernel_rfl) (by kernel_rfl) (by kernel_rfl) (by kernel_rfl) (fun _ _ _ h => h) (Or.inl ⟨by rfl, ?_⟩) (by assumption) ?_
    rotate_left
    · intro wz hSz; (try dsimp only at hSz); go_simp; all_goals (with_reducible rfl)
    (try simp only [Act.put, List.setIfInBounds_toArray, List.set_cons_zero, List.set_cons_succ])
    refine wpAnyE_take (i := 10) (oi := { dst := some 43, op := Op.fieldAddr 25 (Operand.tmp 4) 3, type := 0, pos := "frames.go:179", after := #[{ on := 0, ground := Ground.phase }, { on := 1, ground := Ground.phase }, { on := 2, ground := Ground.phase }, { on := 3, ground := Ground.phase }, { on := 4, ground := Ground.phase }, { on := 5, ground := Ground.phase }, { on := 6, ground := Ground.phase }, { on := 7, ground := Ground.phase }, { on := 8, ground := Ground.phase }, { on := 9, ground := Ground.phase }], guard := none }) (v := ?_) rfl (by kernel_rfl) (by kernel_rfl) (by kernel_rfl) (by kernel_rfl) (fun _ _ _ h => h) (Or.inl ⟨by rfl, ?_⟩) (by assumption) ?_
    rotate_left
    · intro wz hSz; (try dsimp only at hSz); go_simp; all_goals (with_reducible rfl)
    (try simp only [Act.put, List.setIfInBounds_toArray, List.set_cons_zero, List.set_cons_succ])
    refine wpAnyE_last (o := { dst := none, op := Op.store 22 (Operand.tmp 43) (Operand.tmp 42), type := 0, pos := "frames.go:179", after := #[{ on := 10, ground := Ground.data }, { on := 9, ground := Ground.data }, { on := 0, ground := Ground.phase }, { on := 1, ground := Ground.phase }, { on := 2, ground := Ground.phase }, { on := 3, ground := Ground.phase }, { on := 4, ground := Ground.phase }, { on := 5, ground := Ground.phase }, { on := 6, ground := Ground.phase }, { on := 7, ground := Ground.phase }, { on := 8, ground := Ground.phase }, { on := 9, ground := Ground.phase }], guard := none }) (by kernel_rfl) rfl (by kernel_rfl) (by rfl) (fun K hK => ?_)
    have xD : W7.drew.cell? ⟨w.heap.size + 1, 3, none⟩ = some (.int .u32 U) := m3
    have zD : W7.drew.frozen? ⟨w.heap.size + 1, 3, none⟩ = false := f3
    go_simp
    refine hK _ _ ?_
    refine NoPanic.normal ?_
    have hM8 : Has (W7.setCell ⟨w.heap.size + 1, 3, none⟩ (.int .u32 (U * 256 + z))).drew (w.heap.size + 1) #[.int .i64 (gd L 0), .int .i64 (gd L 1), .int .u32 (N * 256 + y), .int .u32 (U * 256 + z), .slice none 0 0] := (hM7.set 3 (by simp) _).drew
    have hR8 : Has (W7.setCell ⟨w.heap.size + 1, 3, none⟩ (.int .u32 (U * 256 + z))).drew w.heap.size #[.int .i64 0, .int .i64 0, .int .u32 0, .int .u32 0, .slice none 0 0] := (hR7.far (by omega) _).drew
    have hB8 : Below w.heap.size w (W7.setCell ⟨w.heap.size + 1, 3, none⟩ (.int .u32 (U * 256 + z))).drew := (hB7.setCell (p := ⟨w.heap.size + 1, 3, none⟩) (by simp) _).drew
    clear hM7 hR7 hB7 m3 f3 xD zD hHeld cz hK K
    generalize (W7.setCell ⟨w.heap.size + 1, 3, none⟩ (.int .u32 (U * 256 + z))).drew = W8 at *
    go_wp2_with fail
    go_roundw
    case rel =>
      refine ⟨j - 1, by omega, by omega, by go_num, hR8, ?_, hB8⟩
      show Has _ _ _
      rw [← eN'.out, ← eU'.out]
      exact hM8
    case measure => simp [intOf]; omega
end Go.Proofs.Ytahheagfgfpdmaa
