import Derived.Test.YtnicolaphmffkaaGreatDoorTkk
import Derived.Test.YtnicolaphmffkaaGreatDoorGdA
namespace Go.Proofs.YtnicolaphmffkaaGreatDoor
open Go.RowKit
set_option linter.unusedVariables false
set_option linter.unusedSimpArgs false

theorem has2b {w' : World} {b : Nat} {v0 v1 : Value} (h : Has w' b #[v0, v1]) : w'.cell? ⟨b, 0, none⟩ = some v0 ∧ w'.cell? ⟨b, 1, none⟩ = some v1 := ⟨h.2.1 0, h.2.1 1⟩

set_option maxRecDepth 100000 in
set_option maxHeartbeats 4000000 in
theorem grid_any (G : List Gp) (C : List Cf) (vg vc : Value) (w : World) (h1 : Fl 5 Gp.cs w vg G) (h2 : Fl 4 Cf.cs w vc C) (lG : G.length ≤ 2932031007317) (lC : C.length ≤ 4398046511000) :
    Calls Tryz.prog 8 #[.agg #[vg, vc]] w fun e w' => e = .returned (.bool (gridB G C)) ∧ Below w.heap.size w w' := by
  obtain ⟨va, cg, rfl, kG⟩ := h1.any
  obtain ⟨vb, cc, rfl, kC⟩ := h2.any
  clear h1 h2
  have B0 : Has (w.alloc (.cells #[.slice va G.length cg, .slice vb C.length cc] 25)) w.heap.size #[.slice va G.length cg, .slice vb C.length cc] := Has.new _ _ _ rfl
  have hb0 : Below w.heap.size w (w.alloc (.cells #[.slice va G.length cg, .slice vb C.length cc] 25)) := belN1
  by_cases h64 : G.length ≤ 64
  · generalize hA : gridB G C = A
    have hA0 : (G.all gpB && rowsB G.length none C) = A := by rw [← hA]; simp [gridB, h64]
    clear hA
    have i64 : ¬ (G.length : Int) > 64 := by omega
    go_enter Tryz.func8, Tryz.ntmps8
    go_wp2
    generalize (w.alloc (.cells #[.slice va G.length cg, .slice vb C.length cc] 25)) = W0 at *
    go_loopw [14] (fun t wr => ∃ k : Nat, k ≤ G.length ∧ t = .int .i64 (k : Int) ∧ Hid (((G.drop k).all gpB && rowsB G.length none C) = A) ∧ Hid (Has wr w.heap.size #[.slice va G.length cg, .slice vb C.length cc]) ∧ Hid (Below w.heap.size w wr)) (fun t _ => G.length - (intOf t).toNat)
    case atStart => exact ⟨0, by omega, rfl, hA0, B0, hb0⟩
    case round =>
      clear B0 hb0
      obtain ⟨k, hkl, rfl, hs, B, hb⟩ := hrel
      obtain ⟨_, b1, _⟩ := id B.out
      by_cases hlt : k < G.length
      · obtain ⟨g, o, rfl, hg, P⟩ := kG.resolve_left (by intro e; rw [e] at hlt; simp at hlt)
        have p0 := (hb.out.cell (p := ⟨g, _, none⟩) hg).trans (P k hlt 0 _ rfl)
        have p1 := (hb.out.cell (p := ⟨g, _, none⟩) hg).trans (P k hlt 1 _ rfl)
        have p2 := (hb.out.cell (p := ⟨g, _, none⟩) hg).trans (P k hlt 2 _ rfl)
        have p3 := (hb.out.cell (p := ⟨g, _, none⟩) hg).trans (P k hlt 3 _ rfl)
        have p4 := (hb.out.cell (p := ⟨g, _, none⟩) hg).trans (P k hlt 4 _ rfl)
        simp only [Nat.add_zero] at p0
        have hstep := all_step G k hlt
        have hs' := hs.out
        rw [hstep] at hs'
        have hG := fun (W : World) => soundGroup_any G[k].name G[k].sort G[k].min G[k].amber G[k].lead W
        have t1 : (k : Int) < (G.length : Int) := by omega
        have t0 : (0 : Int) ≤ (k : Int) := by omega
        have t2 : k + 1 ≤ G.length := hlt
        have eG : gpB ⟨G[k].name, G[k].sort, G[k].min, G[k].amber, G[k].lead⟩ = gpB G[k] := rfl
        rw [eG] at hG
        generalize gpB G[k] = v at *
        generalize G[k].name = x0 at *
        generalize G[k].sort = x1 at *
        generalize G[k].min = x2 at *
        generalize G[k].amber = x3 at *
        generalize G[k].lead = x4 at *
        clear P kG hstep eG hs
        have hbN : Below w.heap.size w (wr.alloc (.cells #[.string x0, .int .i64 x1, .int .i64 x2, .int .i64 x3, .int .i64 x4] 90)) := hb.out.alloc hb.out.size _
        have BN := B.out.alloc (.cells #[.string x0, .int .i64 x1, .int .i64 x2, .int .i64 x3, .int .i64 x4] 90)
        cases v with
        | true =>
          have hs2 : Hid (((G.drop (k + 1)).all gpB && rowsB G.length none C) = A) := by show _ = _; rw [← hs']; simp
          clear hs'
          go_wp2_with (go_at_call 28; (with_reducible refine Calls.mono (hG _) ?_); rintro e w2 ⟨rfl, hb2⟩; have BM := BN.below hb2; have hbM := bel_after hbN hbN.size hb2; clear hb2)
          go_roundw
          case rel => exact ⟨k + 1, by omega, by go_num, hs2, BM, hbM⟩
          case measure => simp [intOf]; omega
        | false =>
          have hA' : A = false := by rw [← hs']; simp
          subst hA'
          clear hs'
          go_wp2_with (go_at_call 28; (with_reducible refine Calls.mono (hG _) ?_); rintro e w2 ⟨rfl, hb2⟩; have hbM := bel_after hbN hbN.size hb2; clear hb2)
          go_ret
          exact ⟨rfl, hbM⟩
      · have t1 : ¬ (k : Int) < (G.length : Int) := by omega
        have hA1 : rowsB G.length (prevK C 0) (C.drop 0) = A := by have := hs.out; rw [all_end G k (by omega)] at this; simpa [prevK] using this
        clear kG hs
        go_wp2
        go_loopw [25] (fun t wr => ∃ k : Nat, k ≤ C.length ∧ t = .int .i64 (k : Int) ∧ Hid (rowsB G.length (prevK C k) (C.drop k) = A) ∧ Hid (Has wr w.heap.size #[.slice va G.length cg, .slice vb C.length cc]) ∧ Hid (Below w.heap.size w wr)) (fun t _ => C.length - (intOf t).toNat)
        case atStart => exact ⟨0, by omega, rfl, hA1, B, hb⟩
        case round =>
          clear b1 hA1 B hb t1
          obtain ⟨m, hml, rfl, hs, B, hb⟩ := hrel
          obtain ⟨_, b1, _⟩ := id B.out
          by_cases hlt : m < C.length
          · obtain ⟨g, o, rfl, hg, P⟩ := kC.resolve_left (by intro e; rw [e] at hlt; simp at hlt)
            have p0 := (hb.out.cell (p := ⟨g, _, none⟩) hg).trans (P m hlt 0 _ rfl)
            have p1 := (hb.out.cell (p := ⟨g, _, none⟩) hg).trans (P m hlt 1 _ rfl)
            have p2 := (hb.out.cell (p := ⟨g, _, none⟩) hg).trans (P m hlt 2 _ rfl)
            have p3 := (hb.out.cell (p := ⟨g, _, none⟩) hg).trans (P m hlt 3 _ rfl)
            simp only [Nat.add_zero] at p0
            have hstep := rows_step G.length C m hlt
            have hs' := hs.out
            rw [hstep] at hs'
            have hC := fun (W : World) => soundConflict_any G.length C[m].a C[m].b C[m].ab C[m].ba W
            have eC : cfB G.length ⟨C[m].a, C[m].b, C[m].ab, C[m].ba⟩ = cfB G.length C[m] := rfl
            rw [eC] at hC
            have hD := fun (b : Cf) (W : World) => comparePairs_any b C[m] W
            have hO := fun (b : Cf) => cmpP_ord b C[m]
            have t1 : (m : Int) < (C.length : Int) := by omega
            have t0 : (0 : Int) ≤ (m : Int) := by omega
            have t2 : m + 1 ≤ C.length := hlt
            clear hstep eC hs
            generalize hx : C[m] = x at *
            generalize cfB G.length x = v at *
            generalize hxa : x.a = xa at *
            generalize hxb : x.b = xb at *
            generalize hxab : x.ab = xab at *
            generalize hxba : x.ba = xba at *
            have hbN : Below w.heap.size w (wr.alloc (.cells #[.int .i64 xa, .int .i64 xb, .int .i64 xab, .int .i64 xba] 93)) := hb.out.alloc hb.out.size _
            have BN := B.out.alloc (.cells #[.int .i64 xa, .int .i64 xb, .int .i64 xab, .int .i64 xba] 93)
            have CN : Has (wr.alloc (.cells #[.int .i64 xa, .int .i64 xb, .int .i64 xab, .int .i64 xba] 93)) wr.heap.size #[.int .i64 xa, .int .i64 xb, .int .i64 xab, .int .i64 xba] := Has.new _ _ _ rfl
            go_upto_region 12 with fail
            generalize (wr.alloc (.cells #[.int .i64 xa, .int .i64 xb, .int .i64 xab, .int .i64 xba] 93)) = W1 at *
            obtain ⟨_, b2, _⟩ := id BN
            obtain ⟨_, c2, _⟩ := id CN
            cases v with
            | false =>
              have hA' : A = false := by rw [← hs']; simp
              subst hA'
              clear hs' hD hO P kC p0 p1 p2 p3 b1
              refine wp_region_noPanic ?_
              refine wp_region_held_drew (S := fun w' => (w'.cell? ⟨w.heap.size, 0, none⟩ = some (.slice va G.length cg) ∧ w'.cell? ⟨w.heap.size, 1, none⟩ = some (.slice (some ⟨g, o, none⟩) C.length cc)) ∧ w'.cell? ⟨wr.heap.size, 0, none⟩ = some (.int .i64 xa) ∧ w'.cell? ⟨wr.heap.size, 1, none⟩ = some (.int .i64 xb) ∧ w'.cell? ⟨wr.heap.size, 2, none⟩ = some (.int .i64 xab) ∧ w'.cell? ⟨wr.heap.size, 3, none⟩ = some (.int .i64 xba)) (by kernel_rfl) ?_ (fun hHeld => ?_)
              · (try dsimp only)
                exact ⟨has2b BN.drew, has4 CN.drew⟩
              refine tkY 0 ⟨some 30, .load 93 (.tmp 6), 93, "sound.go:20", #[], none⟩ ?_ rfl ⟨by rfl, ?_⟩ ?_
              rotate_left
              · intro wz hSz; (try dsimp only at hSz); go_simp; all_goals (with_reducible rfl)
              (try simp only [Act.put, List.setIfInBounds_toArray, List.set_cons_zero, List.set_cons_succ])
              refine tkY 1 ⟨some 31, .fieldAddr 25 (.tmp 1) 0, 0, "sound.go:20", #[], none⟩ ?_ rfl ⟨by rfl, ?_⟩ ?_
              rotate_left
              · intro wz hSz; (try dsimp only at hSz); go_simp; all_goals (with_reducible rfl)
              (try simp only [Act.put, List.setIfInBounds_toArray, List.set_cons_zero, List.set_cons_succ])
              refine tkY 2 ⟨some 32, .load 22 (.tmp 31), 22, "sound.go:20", #[⟨1, .data⟩], none⟩ ?_ rfl ⟨by rfl, ?_⟩ ?_
              rotate_left
              · intro wz hSz; (try dsimp only at hSz); go_simp; all_goals (with_reducible rfl)
              (try simp only [Act.put, List.setIfInBounds_toArray, List.set_cons_zero, List.set_cons_succ])
              refine tkY 3 ⟨some 33, .call { callee := Callee.builtin Builtin.len, args := #[.tmp 32], argTypes := #[22] }, 3, "sound.go:20", #[⟨2, .data⟩], none⟩ ?_ rfl ⟨by rfl, ?_⟩ ?_
              rotate_left
              · intro wz hSz; (try dsimp only at hSz); go_simp; all_goals (with_reducible rfl)
              (try simp only [Act.put, List.setIfInBounds_toArray, List.set_cons_zero, List.set_cons_succ])
              refine wpAnyH_ready (rs := [4]) (by kernel_rfl) (by simp) ?_
              refine AllReadyH.cons (o := ⟨some 34, .call { callee := Callee.value (.func 29), args := #[.tmp 30, .tmp 33], argTypes := #[93, 3] }, 4, "sound.go:20", #[⟨0, .data⟩, ⟨3, .data⟩], none⟩) rfl (fun K hK => ?_) AllReadyH.nil
              go_simp
              (go_at_call 29; (with_reducible refine Calls.mono (hC _) ?_); rintro e w2 ⟨rfl, hb2⟩; have B2 := BN.drew.below hb2; have C2 := CN.drew.below hb2; have hbM := bel_after hbN.drew hbN.size hb2; clear hb2)
              go_wp2_with fail
              refine hK.out _ _ ?_ (fun hHeld => ?_)
              · (try dsimp only)
                exact ⟨has2b B2, has4 C2⟩
              clear hK K
              (try simp only [Act.put, List.setIfInBounds_toArray, List.set_cons_zero, List.set_cons_succ])
              refine tkY 5 ⟨some 35, .unOp UnOp.not 4 (.tmp 34), 4, "sound.go:20", #[⟨4, .data⟩], none⟩ ?_ rfl ⟨by rfl, ?_⟩ ?_
              rotate_left
              · intro wz hSz; (try dsimp only at hSz); go_simp; all_goals (with_reducible rfl)
              (try simp only [Act.put, List.setIfInBounds_toArray, List.set_cons_zero, List.set_cons_succ])
              refine tkY 6 ⟨some 36, .move (.tmp 35), 4, "sound.go:20", #[⟨5, .data⟩, ⟨4, .chain⟩], none⟩ ?_ rfl ⟨by rfl, ?_⟩ ?_
              rotate_left
              · intro wz hSz; (try dsimp only at hSz); go_simp; all_goals (with_reducible rfl)
              (try simp only [Act.put, List.setIfInBounds_toArray, List.set_cons_zero, List.set_cons_succ])
              refine tkN 7 ⟨some 37, .move (.tmp 5), 3, "sound.go:20", #[⟨6, .guard⟩], some (6, false)⟩ rfl (by rfl) ?_
              (try simp only [Act.put, List.setIfInBounds_toArray, List.set_cons_zero, List.set_cons_succ])
              refine tkN 8 ⟨some 38, .binOp BinOp.gtr 3 (.tmp 37) (.const (Value.int IntKind.i64 0)) 3, 4, "sound.go:20", #[⟨7, .data⟩, ⟨6, .guard⟩], some (6, false)⟩ rfl (by rfl) ?_
              (try simp only [Act.put, List.setIfInBounds_toArray, List.set_cons_zero, List.set_cons_succ])
              refine tkN 9 ⟨some 39, .move (.tmp 38), 4, "sound.go:20", #[⟨8, .data⟩, ⟨6, .chain⟩, ⟨6, .guard⟩], some (6, false)⟩ rfl (by rfl) ?_
              (try simp only [Act.put, List.setIfInBounds_toArray, List.set_cons_zero, List.set_cons_succ])
              refine tkN 10 ⟨some 40, .fieldAddr 25 (.tmp 1) 1, 0, "sound.go:20", #[⟨9, .guard⟩], some (9, true)⟩ rfl (by rfl) ?_
              (try simp only [Act.put, List.setIfInBounds_toArray, List.set_cons_zero, List.set_cons_succ])
              refine tkN 11 ⟨some 41, .load 23 (.tmp 40), 23, "sound.go:20", #[⟨10, .data⟩, ⟨9, .guard⟩], some (9, true)⟩ rfl (by rfl) ?_
              (try simp only [Act.put, List.setIfInBounds_toArray, List.set_cons_zero, List.set_cons_succ])
              refine tkN 12 ⟨some 42, .move (.tmp 5), 3, "sound.go:20", #[⟨9, .guard⟩], some (9, true)⟩ rfl (by rfl) ?_
              (try simp only [Act.put, List.setIfInBounds_toArray, List.set_cons_zero, List.set_cons_succ])
              refine tkN 13 ⟨some 43, .binOp BinOp.sub 3 (.tmp 42) (.const (Value.int IntKind.i64 1)) 3, 3, "sound.go:20", #[⟨12, .data⟩, ⟨9, .guard⟩], some (9, true)⟩ rfl (by rfl) ?_
              (try simp only [Act.put, List.setIfInBounds_toArray, List.set_cons_zero, List.set_cons_succ])
              refine tkN 14 ⟨some 44, .indexAddr 23 (.tmp 41) (.tmp 43), 0, "sound.go:20", #[⟨11, .data⟩, ⟨13, .data⟩, ⟨9, .guard⟩], some (9, true)⟩ rfl (by rfl) ?_
              (try simp only [Act.put, List.setIfInBounds_toArray, List.set_cons_zero, List.set_cons_succ])
              refine tkN 15 ⟨some 45, .load 93 (.tmp 44), 93, "sound.go:20", #[⟨14, .data⟩, ⟨9, .guard⟩], some (9, true)⟩ rfl (by rfl) ?_
              (try simp only [Act.put, List.setIfInBounds_toArray, List.set_cons_zero, List.set_cons_succ])
              refine tkN 16 ⟨some 46, .load 93 (.tmp 6), 93, "sound.go:20", #[⟨9, .guard⟩], some (9, true)⟩ rfl (by rfl) ?_
              (try simp only [Act.put, List.setIfInBounds_toArray, List.set_cons_zero, List.set_cons_succ])
              refine tkN 17 ⟨some 47, .call { callee := Callee.value (.func 30), args := #[.tmp 45, .tmp 46], argTypes := #[93, 93] }, 3, "sound.go:20", #[⟨15, .data⟩, ⟨16, .data⟩, ⟨9, .chain⟩, ⟨9, .guard⟩], some (9, true)⟩ rfl (by rfl) ?_
              (try simp only [Act.put, List.setIfInBounds_toArray, List.set_cons_zero, List.set_cons_succ])
              refine tkN 18 ⟨some 48, .binOp BinOp.geq 3 (.tmp 47) (.const (Value.int IntKind.i64 0)) 3, 4, "sound.go:20", #[⟨17, .data⟩, ⟨9, .guard⟩], some (9, true)⟩ rfl (by rfl) ?_
              (try simp only [Act.put, List.setIfInBounds_toArray, List.set_cons_zero, List.set_cons_succ])
              refine tkN 19 ⟨some 49, .pick (.tmp 39) (.tmp 48) (.const (Value.bool false)), 4, "sound.go:20", #[⟨9, .data⟩, ⟨18, .data⟩, ⟨6, .guard⟩], some (6, false)⟩ rfl (by rfl) ?_
              (try simp only [Act.put, List.setIfInBounds_toArray, List.set_cons_zero, List.set_cons_succ])
              refine tkY 20 ⟨some 50, .pick (.tmp 36) (.const (Value.bool true)) (.tmp 49), 4, "sound.go:20", #[⟨6, .data⟩, ⟨19, .data⟩], none⟩ ?_ rfl ⟨by rfl, ?_⟩ ?_
              rotate_left
              · intro wz hSz; (try dsimp only at hSz); go_simp; all_goals (with_reducible rfl)
              (try simp only [Act.put, List.setIfInBounds_toArray, List.set_cons_zero, List.set_cons_succ])
              refine wpAnyH_done (by kernel_rfl) ?_ _
              refine NoPanic.normal ?_
              go_wp2
              go_ret
              exact ⟨rfl, hbM⟩
            | true =>
              rcases Nat.eq_zero_or_pos m with hm0 | hm0
              · subst hm0
                have hs2 : Hid (rowsB G.length (prevK C (0 + 1)) (C.drop (0 + 1)) = A) := by show _ = _; rw [← hs']; simp [prevK, ordP]
                clear hs' hD hO P kC p0 p1 p2 p3 b1
                refine wp_region_noPanic ?_
                refine wp_region_held_drew (S := fun w' => (w'.cell? ⟨w.heap.size, 0, none⟩ = some (.slice va G.length cg) ∧ w'.cell? ⟨w.heap.size, 1, none⟩ = some (.slice (some ⟨g, o, none⟩) C.length cc)) ∧ w'.cell? ⟨wr.heap.size, 0, none⟩ = some (.int .i64 xa) ∧ w'.cell? ⟨wr.heap.size, 1, none⟩ = some (.int .i64 xb) ∧ w'.cell? ⟨wr.heap.size, 2, none⟩ = some (.int .i64 xab) ∧ w'.cell? ⟨wr.heap.size, 3, none⟩ = some (.int .i64 xba)) (by kernel_rfl) ?_ (fun hHeld => ?_)
                · (try dsimp only)
                  exact ⟨has2b BN.drew, has4 CN.drew⟩
                refine tkY 0 ⟨some 30, .load 93 (.tmp 6), 93, "sound.go:20", #[], none⟩ ?_ rfl ⟨by rfl, ?_⟩ ?_
                rotate_left
                · intro wz hSz; (try dsimp only at hSz); go_simp; all_goals (with_reducible rfl)
                (try simp only [Act.put, List.setIfInBounds_toArray, List.set_cons_zero, List.set_cons_succ])
                refine tkY 1 ⟨some 31, .fieldAddr 25 (.tmp 1) 0, 0, "sound.go:20", #[], none⟩ ?_ rfl ⟨by rfl, ?_⟩ ?_
                rotate_left
                · intro wz hSz; (try dsimp only at hSz); go_simp; all_goals (with_reducible rfl)
                (try simp only [Act.put, List.setIfInBounds_toArray, List.set_cons_zero, List.set_cons_succ])
                refine tkY 2 ⟨some 32, .load 22 (.tmp 31), 22, "sound.go:20", #[⟨1, .data⟩], none⟩ ?_ rfl ⟨by rfl, ?_⟩ ?_
                rotate_left
                · intro wz hSz; (try dsimp only at hSz); go_simp; all_goals (with_reducible rfl)
                (try simp only [Act.put, List.setIfInBounds_toArray, List.set_cons_zero, List.set_cons_succ])
                refine tkY 3 ⟨some 33, .call { callee := Callee.builtin Builtin.len, args := #[.tmp 32], argTypes := #[22] }, 3, "sound.go:20", #[⟨2, .data⟩], none⟩ ?_ rfl ⟨by rfl, ?_⟩ ?_
                rotate_left
                · intro wz hSz; (try dsimp only at hSz); go_simp; all_goals (with_reducible rfl)
                (try simp only [Act.put, List.setIfInBounds_toArray, List.set_cons_zero, List.set_cons_succ])
                refine wpAnyH_ready (rs := [4]) (by kernel_rfl) (by simp) ?_
                refine AllReadyH.cons (o := ⟨some 34, .call { callee := Callee.value (.func 29), args := #[.tmp 30, .tmp 33], argTypes := #[93, 3] }, 4, "sound.go:20", #[⟨0, .data⟩, ⟨3, .data⟩], none⟩) rfl (fun K hK => ?_) AllReadyH.nil
                go_simp
                (go_at_call 29; (with_reducible refine Calls.mono (hC _) ?_); rintro e w2 ⟨rfl, hb2⟩; have B2 := BN.drew.below hb2; have C2 := CN.drew.below hb2; have hbM := bel_after hbN.drew hbN.size hb2; clear hb2)
                go_wp2_with fail
                refine hK.out _ _ ?_ (fun hHeld => ?_)
                · (try dsimp only)
                  exact ⟨has2b B2, has4 C2⟩
                clear hK K
                (try simp only [Act.put, List.setIfInBounds_toArray, List.set_cons_zero, List.set_cons_succ])
                refine tkY 5 ⟨some 35, .unOp UnOp.not 4 (.tmp 34), 4, "sound.go:20", #[⟨4, .data⟩], none⟩ ?_ rfl ⟨by rfl, ?_⟩ ?_
                rotate_left
                · intro wz hSz; (try dsimp only at hSz); go_simp; all_goals (with_reducible rfl)
                (try simp only [Act.put, List.setIfInBounds_toArray, List.set_cons_zero, List.set_cons_succ])
                refine tkY 6 ⟨some 36, .move (.tmp 35), 4, "sound.go:20", #[⟨5, .data⟩, ⟨4, .chain⟩], none⟩ ?_ rfl ⟨by rfl, ?_⟩ ?_
                rotate_left
                · intro wz hSz; (try dsimp only at hSz); go_simp; all_goals (with_reducible rfl)
                (try simp only [Act.put, List.setIfInBounds_toArray, List.set_cons_zero, List.set_cons_succ])
                refine tkY 7 ⟨some 37, .move (.tmp 5), 3, "sound.go:20", #[⟨6, .guard⟩], some (6, false)⟩ ?_ rfl ⟨by rfl, ?_⟩ ?_
                rotate_left
                · intro wz hSz; (try dsimp only at hSz); go_simp; all_goals (with_reducible rfl)
                (try simp only [Act.put, List.setIfInBounds_toArray, List.set_cons_zero, List.set_cons_succ])
                refine tkY 8 ⟨some 38, .binOp BinOp.gtr 3 (.tmp 37) (.const (Value.int IntKind.i64 0)) 3, 4, "sound.go:20", #[⟨7, .data⟩, ⟨6, .guard⟩], some (6, false)⟩ ?_ rfl ⟨by rfl, ?_⟩ ?_
                rotate_left
                · intro wz hSz; (try dsimp only at hSz); go_simp; all_goals (with_reducible rfl)
                (try simp only [Act.put, List.setIfInBounds_toArray, List.set_cons_zero, List.set_cons_succ])
                refine tkY 9 ⟨some 39, .move (.tmp 38), 4, "sound.go:20", #[⟨8, .data⟩, ⟨6, .chain⟩, ⟨6, .guard⟩], some (6, false)⟩ ?_ rfl ⟨by rfl, ?_⟩ ?_
                rotate_left
                · intro wz hSz; (try dsimp only at hSz); go_simp; all_goals (with_reducible rfl)
                (try simp only [Act.put, List.setIfInBounds_toArray, List.set_cons_zero, List.set_cons_succ])
                refine tkN 10 ⟨some 40, .fieldAddr 25 (.tmp 1) 1, 0, "sound.go:20", #[⟨9, .guard⟩], some (9, true)⟩ rfl (by rfl) ?_
                (try simp only [Act.put, List.setIfInBounds_toArray, List.set_cons_zero, List.set_cons_succ])
                refine tkN 11 ⟨some 41, .load 23 (.tmp 40), 23, "sound.go:20", #[⟨10, .data⟩, ⟨9, .guard⟩], some (9, true)⟩ rfl (by rfl) ?_
                (try simp only [Act.put, List.setIfInBounds_toArray, List.set_cons_zero, List.set_cons_succ])
                refine tkN 12 ⟨some 42, .move (.tmp 5), 3, "sound.go:20", #[⟨9, .guard⟩], some (9, true)⟩ rfl (by rfl) ?_
                (try simp only [Act.put, List.setIfInBounds_toArray, List.set_cons_zero, List.set_cons_succ])
                refine tkN 13 ⟨some 43, .binOp BinOp.sub 3 (.tmp 42) (.const (Value.int IntKind.i64 1)) 3, 3, "sound.go:20", #[⟨12, .data⟩, ⟨9, .guard⟩], some (9, true)⟩ rfl (by rfl) ?_
                (try simp only [Act.put, List.setIfInBounds_toArray, List.set_cons_zero, List.set_cons_succ])
                refine tkN 14 ⟨some 44, .indexAddr 23 (.tmp 41) (.tmp 43), 0, "sound.go:20", #[⟨11, .data⟩, ⟨13, .data⟩, ⟨9, .guard⟩], some (9, true)⟩ rfl (by rfl) ?_
                (try simp only [Act.put, List.setIfInBounds_toArray, List.set_cons_zero, List.set_cons_succ])
                refine tkN 15 ⟨some 45, .load 93 (.tmp 44), 93, "sound.go:20", #[⟨14, .data⟩, ⟨9, .guard⟩], some (9, true)⟩ rfl (by rfl) ?_
                (try simp only [Act.put, List.setIfInBounds_toArray, List.set_cons_zero, List.set_cons_succ])
                refine tkN 16 ⟨some 46, .load 93 (.tmp 6), 93, "sound.go:20", #[⟨9, .guard⟩], some (9, true)⟩ rfl (by rfl) ?_
                (try simp only [Act.put, List.setIfInBounds_toArray, List.set_cons_zero, List.set_cons_succ])
                refine tkN 17 ⟨some 47, .call { callee := Callee.value (.func 30), args := #[.tmp 45, .tmp 46], argTypes := #[93, 93] }, 3, "sound.go:20", #[⟨15, .data⟩, ⟨16, .data⟩, ⟨9, .chain⟩, ⟨9, .guard⟩], some (9, true)⟩ rfl (by rfl) ?_
                (try simp only [Act.put, List.setIfInBounds_toArray, List.set_cons_zero, List.set_cons_succ])
                refine tkN 18 ⟨some 48, .binOp BinOp.geq 3 (.tmp 47) (.const (Value.int IntKind.i64 0)) 3, 4, "sound.go:20", #[⟨17, .data⟩, ⟨9, .guard⟩], some (9, true)⟩ rfl (by rfl) ?_
                (try simp only [Act.put, List.setIfInBounds_toArray, List.set_cons_zero, List.set_cons_succ])
                refine tkY 19 ⟨some 49, .pick (.tmp 39) (.tmp 48) (.const (Value.bool false)), 4, "sound.go:20", #[⟨9, .data⟩, ⟨18, .data⟩, ⟨6, .guard⟩], some (6, false)⟩ ?_ rfl ⟨by rfl, ?_⟩ ?_
                rotate_left
                · intro wz hSz; (try dsimp only at hSz); go_simp; all_goals (with_reducible rfl)
                (try simp only [Act.put, List.setIfInBounds_toArray, List.set_cons_zero, List.set_cons_succ])
                refine tkY 20 ⟨some 50, .pick (.tmp 36) (.const (Value.bool true)) (.tmp 49), 4, "sound.go:20", #[⟨6, .data⟩, ⟨19, .data⟩], none⟩ ?_ rfl ⟨by rfl, ?_⟩ ?_
                rotate_left
                · intro wz hSz; (try dsimp only at hSz); go_simp; all_goals (with_reducible rfl)
                (try simp only [Act.put, List.setIfInBounds_toArray, List.set_cons_zero, List.set_cons_succ])
                refine wpAnyH_done (by kernel_rfl) ?_ _
                refine NoPanic.normal ?_
                go_wp2
                go_roundw
                case rel => exact ⟨0 + 1, by omega, by go_num, hs2, B2, hbM⟩
                case measure => first | (simp [intOf]; omega) | (simp only [intOf]; omega) | (simp [intOf]; intro h; rw [h] at hlt; simp at hlt)
              · obtain ⟨j, rfl⟩ : ∃ j, m = j + 1 := ⟨m - 1, by omega⟩
                have hj : j < C.length := by omega
                have eP : prevK C (j + 1) = some C[j] := List.getElem?_eq_getElem hj
                rw [eP] at hs'
                replace hs' : (ordB C[j] x && rowsB G.length (prevK C (j + 1 + 1)) (C.drop (j + 1 + 1))) = A := by rw [← hs']; simp [ordP]
                have hP : ∀ W : World, Below w.heap.size w W → W.cell? ⟨g, o + j * 4, none⟩ = some (.int .i64 C[j].a) ∧ W.cell? ⟨g, o + j * 4 + 1, none⟩ = some (.int .i64 C[j].b) ∧ W.cell? ⟨g, o + j * 4 + 2, none⟩ = some (.int .i64 C[j].ab) ∧ W.cell? ⟨g, o + j * 4 + 3, none⟩ = some (.int .i64 C[j].ba) := fun W h => ⟨(h.cell (p := ⟨g, _, none⟩) hg).trans (P j hj 0 _ rfl), (h.cell (p := ⟨g, _, none⟩) hg).trans (P j hj 1 _ rfl), (h.cell (p := ⟨g, _, none⟩) hg).trans (P j hj 2 _ rfl), (h.cell (p := ⟨g, _, none⟩) hg).trans (P j hj 3 _ rfl)⟩
                replace hD := fun (W : World) => hD C[j] W
                replace hO := hO C[j]
                generalize cmpP C[j] x = z at *
                generalize ordB C[j] x = v at *
                generalize C[j].a = ya at *
                generalize C[j].b = yb at *
                generalize C[j].ab = yab at *
                generalize C[j].ba = yba at *
                obtain ⟨q0, q1, q2, q3⟩ := hP _ hbN
                have j1 : (j : Int) < (C.length : Int) := by omega
                have j0 : (0 : Int) ≤ (j : Int) := by omega
                have j2 : (0 : Int) < ((j + 1 : Nat) : Int) := by omega
                have j3 : ((j + 1 : Nat) : Int) - 1 = (j : Int) := by omega
                have j4 : IntKind.i64.wrap (j : Int) = (j : Int) := wrap64 _ (by omega)
                clear P kC p0 p1 p2 p3 eP
                cases v with
                | true =>
                  have hz : ¬ (z ≥ 0) := by simpa using hO
                  have hs2 : Hid (rowsB G.length (prevK C (j + 1 + 1)) (C.drop (j + 1 + 1)) = A) := by show _ = _; rw [← hs']; simp
                  clear hs' hO
                  refine wp_region_noPanic ?_
                  refine wp_region_held_drew (S := fun w' => (w'.cell? ⟨g, o + j * 4, none⟩ = some (.int .i64 ya) ∧ w'.cell? ⟨g, o + j * 4 + 1, none⟩ = some (.int .i64 yb) ∧ w'.cell? ⟨g, o + j * 4 + 2, none⟩ = some (.int .i64 yab) ∧ w'.cell? ⟨g, o + j * 4 + 3, none⟩ = some (.int .i64 yba)) ∧ (w'.cell? ⟨w.heap.size, 0, none⟩ = some (.slice va G.length cg) ∧ w'.cell? ⟨w.heap.size, 1, none⟩ = some (.slice (some ⟨g, o, none⟩) C.length cc)) ∧ w'.cell? ⟨wr.heap.size, 0, none⟩ = some (.int .i64 xa) ∧ w'.cell? ⟨wr.heap.size, 1, none⟩ = some (.int .i64 xb) ∧ w'.cell? ⟨wr.heap.size, 2, none⟩ = some (.int .i64 xab) ∧ w'.cell? ⟨wr.heap.size, 3, none⟩ = some (.int .i64 xba)) (by kernel_rfl) ?_ (fun hHeld => ?_)
                  · (try dsimp only)
                    exact ⟨hP _ hbN.drew, has2b BN.drew, has4 CN.drew⟩
                  refine tkY 0 ⟨some 30, .load 93 (.tmp 6), 93, "sound.go:20", #[], none⟩ ?_ rfl ⟨by rfl, ?_⟩ ?_
                  rotate_left
                  · intro wz hSz; (try dsimp only at hSz); go_simp; all_goals (with_reducible rfl)
                  (try simp only [Act.put, List.setIfInBounds_toArray, List.set_cons_zero, List.set_cons_succ])
                  refine tkY 1 ⟨some 31, .fieldAddr 25 (.tmp 1) 0, 0, "sound.go:20", #[], none⟩ ?_ rfl ⟨by rfl, ?_⟩ ?_
                  rotate_left
                  · intro wz hSz; (try dsimp only at hSz); go_simp; all_goals (with_reducible rfl)
                  (try simp only [Act.put, List.setIfInBounds_toArray, List.set_cons_zero, List.set_cons_succ])
                  refine tkY 2 ⟨some 32, .load 22 (.tmp 31), 22, "sound.go:20", #[⟨1, .data⟩], none⟩ ?_ rfl ⟨by rfl, ?_⟩ ?_
                  rotate_left
                  · intro wz hSz; (try dsimp only at hSz); go_simp; all_goals (with_reducible rfl)
                  (try simp only [Act.put, List.setIfInBounds_toArray, List.set_cons_zero, List.set_cons_succ])
                  refine tkY 3 ⟨some 33, .call { callee := Callee.builtin Builtin.len, args := #[.tmp 32], argTypes := #[22] }, 3, "sound.go:20", #[⟨2, .data⟩], none⟩ ?_ rfl ⟨by rfl, ?_⟩ ?_
                  rotate_left
                  · intro wz hSz; (try dsimp only at hSz); go_simp; all_goals (with_reducible rfl)
                  (try simp only [Act.put, List.setIfInBounds_toArray, List.set_cons_zero, List.set_cons_succ])
                  refine wpAnyH_ready (rs := [4]) (by kernel_rfl) (by simp) ?_
                  refine AllReadyH.cons (o := ⟨some 34, .call { callee := Callee.value (.func 29), args := #[.tmp 30, .tmp 33], argTypes := #[93, 3] }, 4, "sound.go:20", #[⟨0, .data⟩, ⟨3, .data⟩], none⟩) rfl (fun K hK => ?_) AllReadyH.nil
                  go_simp
                  (go_at_call 29; (with_reducible refine Calls.mono (hC _) ?_); rintro e w2 ⟨rfl, hb2⟩; have B2 := BN.drew.below hb2; have C2 := CN.drew.below hb2; have hbM := bel_after hbN.drew hbN.size hb2; clear hb2)
                  go_wp2_with fail
                  refine hK.out _ _ ?_ (fun hHeld => ?_)
                  · (try dsimp only)
                    exact ⟨hP _ hbM, has2b B2, has4 C2⟩
                  clear hK K
                  (try simp only [Act.put, List.setIfInBounds_toArray, List.set_cons_zero, List.set_cons_succ])
                  refine tkY 5 ⟨some 35, .unOp UnOp.not 4 (.tmp 34), 4, "sound.go:20", #[⟨4, .data⟩], none⟩ ?_ rfl ⟨by rfl, ?_⟩ ?_
                  rotate_left
                  · intro wz hSz; (try dsimp only at hSz); go_simp; all_goals (with_reducible rfl)
                  (try simp only [Act.put, List.setIfInBounds_toArray, List.set_cons_zero, List.set_cons_succ])
                  refine tkY 6 ⟨some 36, .move (.tmp 35), 4, "sound.go:20", #[⟨5, .data⟩, ⟨4, .chain⟩], none⟩ ?_ rfl ⟨by rfl, ?_⟩ ?_
                  rotate_left
                  · intro wz hSz; (try dsimp only at hSz); go_simp; all_goals (with_reducible rfl)
                  (try simp only [Act.put, List.setIfInBounds_toArray, List.set_cons_zero, List.set_cons_succ])
                  refine tkY 7 ⟨some 37, .move (.tmp 5), 3, "sound.go:20", #[⟨6, .guard⟩], some (6, false)⟩ ?_ rfl ⟨by rfl, ?_⟩ ?_
                  rotate_left
                  · intro wz hSz; (try dsimp only at hSz); go_simp; all_goals (with_reducible rfl)
                  (try simp only [Act.put, List.setIfInBounds_toArray, List.set_cons_zero, List.set_cons_succ])
                  refine tkY 8 ⟨some 38, .binOp BinOp.gtr 3 (.tmp 37) (.const (Value.int IntKind.i64 0)) 3, 4, "sound.go:20", #[⟨7, .data⟩, ⟨6, .guard⟩], some (6, false)⟩ ?_ rfl ⟨by rfl, ?_⟩ ?_
                  rotate_left
                  · intro wz hSz; (try dsimp only at hSz); go_simp; all_goals (with_reducible rfl)
                  (try simp only [Act.put, List.setIfInBounds_toArray, List.set_cons_zero, List.set_cons_succ])
                  refine tkY 9 ⟨some 39, .move (.tmp 38), 4, "sound.go:20", #[⟨8, .data⟩, ⟨6, .chain⟩, ⟨6, .guard⟩], some (6, false)⟩ ?_ rfl ⟨by rfl, ?_⟩ ?_
                  rotate_left
                  · intro wz hSz; (try dsimp only at hSz); go_simp; all_goals (with_reducible rfl)
                  (try simp only [Act.put, List.setIfInBounds_toArray, List.set_cons_zero, List.set_cons_succ])
                  refine tkY 10 ⟨some 40, .fieldAddr 25 (.tmp 1) 1, 0, "sound.go:20", #[⟨9, .guard⟩], some (9, true)⟩ ?_ rfl ⟨by rfl, ?_⟩ ?_
                  rotate_left
                  · intro wz hSz; (try dsimp only at hSz); go_simp; all_goals (with_reducible rfl)
                  (try simp only [Act.put, List.setIfInBounds_toArray, List.set_cons_zero, List.set_cons_succ])
                  refine tkY 11 ⟨some 41, .load 23 (.tmp 40), 23, "sound.go:20", #[⟨10, .data⟩, ⟨9, .guard⟩], some (9, true)⟩ ?_ rfl ⟨by rfl, ?_⟩ ?_
                  rotate_left
                  · intro wz hSz; (try dsimp only at hSz); go_simp; all_goals (with_reducible rfl)
                  (try simp only [Act.put, List.setIfInBounds_toArray, List.set_cons_zero, List.set_cons_succ])
                  refine tkY 12 ⟨some 42, .move (.tmp 5), 3, "sound.go:20", #[⟨9, .guard⟩], some (9, true)⟩ ?_ rfl ⟨by rfl, ?_⟩ ?_
                  rotate_left
                  · intro wz hSz; (try dsimp only at hSz); go_simp; all_goals (with_reducible rfl)
                  (try simp only [Act.put, List.setIfInBounds_toArray, List.set_cons_zero, List.set_cons_succ])
                  refine tkY 13 ⟨some 43, .binOp BinOp.sub 3 (.tmp 42) (.const (Value.int IntKind.i64 1)) 3, 3, "sound.go:20", #[⟨12, .data⟩, ⟨9, .guard⟩], some (9, true)⟩ ?_ rfl ⟨by rfl, ?_⟩ ?_
                  rotate_left
                  · intro wz hSz; (try dsimp only at hSz); go_simp; all_goals (with_reducible rfl)
                  (try simp only [Act.put, List.setIfInBounds_toArray, List.set_cons_zero, List.set_cons_succ])
                  refine tkY 14 ⟨some 44, .indexAddr 23 (.tmp 41) (.tmp 43), 0, "sound.go:20", #[⟨11, .data⟩, ⟨13, .data⟩, ⟨9, .guard⟩], some (9, true)⟩ ?_ rfl ⟨by rfl, ?_⟩ ?_
                  rotate_left
                  · intro wz hSz; (try dsimp only at hSz); go_simp; all_goals (with_reducible rfl)
                  (try simp only [Act.put, List.setIfInBounds_toArray, List.set_cons_zero, List.set_cons_succ])
                  refine tkY 15 ⟨some 45, .load 93 (.tmp 44), 93, "sound.go:20", #[⟨14, .data⟩, ⟨9, .guard⟩], some (9, true)⟩ ?_ rfl ⟨by rfl, ?_⟩ ?_
                  rotate_left
                  · intro wz hSz; (try dsimp only at hSz); go_simp; all_goals (with_reducible rfl)
                  (try simp only [Act.put, List.setIfInBounds_toArray, List.set_cons_zero, List.set_cons_succ])
                  refine tkY 16 ⟨some 46, .load 93 (.tmp 6), 93, "sound.go:20", #[⟨9, .guard⟩], some (9, true)⟩ ?_ rfl ⟨by rfl, ?_⟩ ?_
                  rotate_left
                  · intro wz hSz; (try dsimp only at hSz); go_simp; all_goals (with_reducible rfl)
                  (try simp only [Act.put, List.setIfInBounds_toArray, List.set_cons_zero, List.set_cons_succ])
                  refine wpAnyH_ready (rs := [17]) (by kernel_rfl) (by simp) ?_
                  refine AllReadyH.cons (o := ⟨some 47, .call { callee := Callee.value (.func 30), args := #[.tmp 45, .tmp 46], argTypes := #[93, 93] }, 3, "sound.go:20", #[⟨15, .data⟩, ⟨16, .data⟩, ⟨9, .chain⟩, ⟨9, .guard⟩], some (9, true)⟩) rfl (fun K hK => ?_) AllReadyH.nil
                  go_simp
                  (go_at_call 30; (with_reducible refine Calls.mono (hD _) ?_); rintro e w3 ⟨rfl, hb3⟩; have B3 := B2.below hb3; have C3 := C2.below hb3; have hbK := bel_after hbM hbM.size hb3; clear hb3)
                  go_wp2_with fail
                  refine hK.out _ _ ?_ (fun hHeld => ?_)
                  · (try dsimp only)
                    exact ⟨hP _ hbK, has2b B3, has4 C3⟩
                  clear hK K
                  (try simp only [Act.put, List.setIfInBounds_toArray, List.set_cons_zero, List.set_cons_succ])
                  refine tkY 18 ⟨some 48, .binOp BinOp.geq 3 (.tmp 47) (.const (Value.int IntKind.i64 0)) 3, 4, "sound.go:20", #[⟨17, .data⟩, ⟨9, .guard⟩], some (9, true)⟩ ?_ rfl ⟨by rfl, ?_⟩ ?_
                  rotate_left
                  · intro wz hSz; (try dsimp only at hSz); go_simp; all_goals (with_reducible rfl)
                  (try simp only [Act.put, List.setIfInBounds_toArray, List.set_cons_zero, List.set_cons_succ])
                  refine tkY 19 ⟨some 49, .pick (.tmp 39) (.tmp 48) (.const (Value.bool false)), 4, "sound.go:20", #[⟨9, .data⟩, ⟨18, .data⟩, ⟨6, .guard⟩], some (6, false)⟩ ?_ rfl ⟨by rfl, ?_⟩ ?_
                  rotate_left
                  · intro wz hSz; (try dsimp only at hSz); go_simp; all_goals (with_reducible rfl)
                  (try simp only [Act.put, List.setIfInBounds_toArray, List.set_cons_zero, List.set_cons_succ])
                  refine tkY 20 ⟨some 50, .pick (.tmp 36) (.const (Value.bool true)) (.tmp 49), 4, "sound.go:20", #[⟨6, .data⟩, ⟨19, .data⟩], none⟩ ?_ rfl ⟨by rfl, ?_⟩ ?_
                  rotate_left
                  · intro wz hSz; (try dsimp only at hSz); go_simp; all_goals (with_reducible rfl)
                  (try simp only [Act.put, List.setIfInBounds_toArray, List.set_cons_zero, List.set_cons_succ])
                  refine wpAnyH_done (by kernel_rfl) ?_ _
                  refine NoPanic.normal ?_
                  go_wp2
                  go_roundw
                  case rel => exact ⟨j + 1 + 1, by omega, by go_num, hs2, B3, hbK⟩
                  case measure => simp [intOf]; omega
                | false =>
                  have hz : z ≥ 0 := by simpa using hO
                  have hA' : A = false := by rw [← hs']; simp
                  subst hA'
                  clear hs' hO
                  refine wp_region_noPanic ?_
                  refine wp_region_held_drew (S := fun w' => (w'.cell? ⟨g, o + j * 4, none⟩ = some (.int .i64 ya) ∧ w'.cell? ⟨g, o + j * 4 + 1, none⟩ = some (.int .i64 yb) ∧ w'.cell? ⟨g, o + j * 4 + 2, none⟩ = some (.int .i64 yab) ∧ w'.cell? ⟨g, o + j * 4 + 3, none⟩ = some (.int .i64 yba)) ∧ (w'.cell? ⟨w.heap.size, 0, none⟩ = some (.slice va G.length cg) ∧ w'.cell? ⟨w.heap.size, 1, none⟩ = some (.slice (some ⟨g, o, none⟩) C.length cc)) ∧ w'.cell? ⟨wr.heap.size, 0, none⟩ = some (.int .i64 xa) ∧ w'.cell? ⟨wr.heap.size, 1, none⟩ = some (.int .i64 xb) ∧ w'.cell? ⟨wr.heap.size, 2, none⟩ = some (.int .i64 xab) ∧ w'.cell? ⟨wr.heap.size, 3, none⟩ = some (.int .i64 xba)) (by kernel_rfl) ?_ (fun hHeld => ?_)
                  · (try dsimp only)
                    exact ⟨hP _ hbN.drew, has2b BN.drew, has4 CN.drew⟩
                  refine tkY 0 ⟨some 30, .load 93 (.tmp 6), 93, "sound.go:20", #[], none⟩ ?_ rfl ⟨by rfl, ?_⟩ ?_
                  rotate_left
                  · intro wz hSz; (try dsimp only at hSz); go_simp; all_goals (with_reducible rfl)
                  (try simp only [Act.put, List.setIfInBounds_toArray, List.set_cons_zero, List.set_cons_succ])
                  refine tkY 1 ⟨some 31, .fieldAddr 25 (.tmp 1) 0, 0, "sound.go:20", #[], none⟩ ?_ rfl ⟨by rfl, ?_⟩ ?_
                  rotate_left
                  · intro wz hSz; (try dsimp only at hSz); go_simp; all_goals (with_reducible rfl)
                  (try simp only [Act.put, List.setIfInBounds_toArray, List.set_cons_zero, List.set_cons_succ])
                  refine tkY 2 ⟨some 32, .load 22 (.tmp 31), 22, "sound.go:20", #[⟨1, .data⟩], none⟩ ?_ rfl ⟨by rfl, ?_⟩ ?_
                  rotate_left
                  · intro wz hSz; (try dsimp only at hSz); go_simp; all_goals (with_reducible rfl)
                  (try simp only [Act.put, List.setIfInBounds_toArray, List.set_cons_zero, List.set_cons_succ])
                  refine tkY 3 ⟨some 33, .call { callee := Callee.builtin Builtin.len, args := #[.tmp 32], argTypes := #[22] }, 3, "sound.go:20", #[⟨2, .data⟩], none⟩ ?_ rfl ⟨by rfl, ?_⟩ ?_
                  rotate_left
                  · intro wz hSz; (try dsimp only at hSz); go_simp; all_goals (with_reducible rfl)
                  (try simp only [Act.put, List.setIfInBounds_toArray, List.set_cons_zero, List.set_cons_succ])
                  refine wpAnyH_ready (rs := [4]) (by kernel_rfl) (by simp) ?_
                  refine AllReadyH.cons (o := ⟨some 34, .call { callee := Callee.value (.func 29), args := #[.tmp 30, .tmp 33], argTypes := #[93, 3] }, 4, "sound.go:20", #[⟨0, .data⟩, ⟨3, .data⟩], none⟩) rfl (fun K hK => ?_) AllReadyH.nil
                  go_simp
                  (go_at_call 29; (with_reducible refine Calls.mono (hC _) ?_); rintro e w2 ⟨rfl, hb2⟩; have B2 := BN.drew.below hb2; have C2 := CN.drew.below hb2; have hbM := bel_after hbN.drew hbN.size hb2; clear hb2)
                  go_wp2_with fail
                  refine hK.out _ _ ?_ (fun hHeld => ?_)
                  · (try dsimp only)
                    exact ⟨hP _ hbM, has2b B2, has4 C2⟩
                  clear hK K
                  (try simp only [Act.put, List.setIfInBounds_toArray, List.set_cons_zero, List.set_cons_succ])
                  refine tkY 5 ⟨some 35, .unOp UnOp.not 4 (.tmp 34), 4, "sound.go:20", #[⟨4, .data⟩], none⟩ ?_ rfl ⟨by rfl, ?_⟩ ?_
                  rotate_left
                  · intro wz hSz; (try dsimp only at hSz); go_simp; all_goals (with_reducible rfl)
                  (try simp only [Act.put, List.setIfInBounds_toArray, List.set_cons_zero, List.set_cons_succ])
                  refine tkY 6 ⟨some 36, .move (.tmp 35), 4, "sound.go:20", #[⟨5, .data⟩, ⟨4, .chain⟩], none⟩ ?_ rfl ⟨by rfl, ?_⟩ ?_
                  rotate_left
                  · intro wz hSz; (try dsimp only at hSz); go_simp; all_goals (with_reducible rfl)
                  (try simp only [Act.put, List.setIfInBounds_toArray, List.set_cons_zero, List.set_cons_succ])
                  refine tkY 7 ⟨some 37, .move (.tmp 5), 3, "sound.go:20", #[⟨6, .guard⟩], some (6, false)⟩ ?_ rfl ⟨by rfl, ?_⟩ ?_
                  rotate_left
                  · intro wz hSz; (try dsimp only at hSz); go_simp; all_goals (with_reducible rfl)
                  (try simp only [Act.put, List.setIfInBounds_toArray, List.set_cons_zero, List.set_cons_succ])
                  refine tkY 8 ⟨some 38, .binOp BinOp.gtr 3 (.tmp 37) (.const (Value.int IntKind.i64 0)) 3, 4, "sound.go:20", #[⟨7, .data⟩, ⟨6, .guard⟩], some (6, false)⟩ ?_ rfl ⟨by rfl, ?_⟩ ?_
                  rotate_left
                  · intro wz hSz; (try dsimp only at hSz); go_simp; all_goals (with_reducible rfl)
                  (try simp only [Act.put, List.setIfInBounds_toArray, List.set_cons_zero, List.set_cons_succ])
                  refine tkY 9 ⟨some 39, .move (.tmp 38), 4, "sound.go:20", #[⟨8, .data⟩, ⟨6, .chain⟩, ⟨6, .guard⟩], some (6, false)⟩ ?_ rfl ⟨by rfl, ?_⟩ ?_
                  rotate_left
                  · intro wz hSz; (try dsimp only at hSz); go_simp; all_goals (with_reducible rfl)
                  (try simp only [Act.put, List.setIfInBounds_toArray, List.set_cons_zero, List.set_cons_succ])
                  refine tkY 10 ⟨some 40, .fieldAddr 25 (.tmp 1) 1, 0, "sound.go:20", #[⟨9, .guard⟩], some (9, true)⟩ ?_ rfl ⟨by rfl, ?_⟩ ?_
                  rotate_left
                  · intro wz hSz; (try dsimp only at hSz); go_simp; all_goals (with_reducible rfl)
                  (try simp only [Act.put, List.setIfInBounds_toArray, List.set_cons_zero, List.set_cons_succ])
                  refine tkY 11 ⟨some 41, .load 23 (.tmp 40), 23, "sound.go:20", #[⟨10, .data⟩, ⟨9, .guard⟩], some (9, true)⟩ ?_ rfl ⟨by rfl, ?_⟩ ?_
                  rotate_left
                  · intro wz hSz; (try dsimp only at hSz); go_simp; all_goals (with_reducible rfl)
                  (try simp only [Act.put, List.setIfInBounds_toArray, List.set_cons_zero, List.set_cons_succ])
                  refine tkY 12 ⟨some 42, .move (.tmp 5), 3, "sound.go:20", #[⟨9, .guard⟩], some (9, true)⟩ ?_ rfl ⟨by rfl, ?_⟩ ?_
                  rotate_left
                  · intro wz hSz; (try dsimp only at hSz); go_simp; all_goals (with_reducible rfl)
                  (try simp only [Act.put, List.setIfInBounds_toArray, List.set_cons_zero, List.set_cons_succ])
                  refine tkY 13 ⟨some 43, .binOp BinOp.sub 3 (.tmp 42) (.const (Value.int IntKind.i64 1)) 3, 3, "sound.go:20", #[⟨12, .data⟩, ⟨9, .guard⟩], some (9, true)⟩ ?_ rfl ⟨by rfl, ?_⟩ ?_
                  rotate_left
                  · intro wz hSz; (try dsimp only at hSz); go_simp; all_goals (with_reducible rfl)
                  (try simp only [Act.put, List.setIfInBounds_toArray, List.set_cons_zero, List.set_cons_succ])
                  refine tkY 14 ⟨some 44, .indexAddr 23 (.tmp 41) (.tmp 43), 0, "sound.go:20", #[⟨11, .data⟩, ⟨13, .data⟩, ⟨9, .guard⟩], some (9, true)⟩ ?_ rfl ⟨by rfl, ?_⟩ ?_
                  rotate_left
                  · intro wz hSz; (try dsimp only at hSz); go_simp; all_goals (with_reducible rfl)
                  (try simp only [Act.put, List.setIfInBounds_toArray, List.set_cons_zero, List.set_cons_succ])
                  refine tkY 15 ⟨some 45, .load 93 (.tmp 44), 93, "sound.go:20", #[⟨14, .data⟩, ⟨9, .guard⟩], some (9, true)⟩ ?_ rfl ⟨by rfl, ?_⟩ ?_
                  rotate_left
                  · intro wz hSz; (try dsimp only at hSz); go_simp; all_goals (with_reducible rfl)
                  (try simp only [Act.put, List.setIfInBounds_toArray, List.set_cons_zero, List.set_cons_succ])
                  refine tkY 16 ⟨some 46, .load 93 (.tmp 6), 93, "sound.go:20", #[⟨9, .guard⟩], some (9, true)⟩ ?_ rfl ⟨by rfl, ?_⟩ ?_
                  rotate_left
                  · intro wz hSz; (try dsimp only at hSz); go_simp; all_goals (with_reducible rfl)
                  (try simp only [Act.put, List.setIfInBounds_toArray, List.set_cons_zero, List.set_cons_succ])
                  refine wpAnyH_ready (rs := [17]) (by kernel_rfl) (by simp) ?_
                  refine AllReadyH.cons (o := ⟨some 47, .call { callee := Callee.value (.func 30), args := #[.tmp 45, .tmp 46], argTypes := #[93, 93] }, 3, "sound.go:20", #[⟨15, .data⟩, ⟨16, .data⟩, ⟨9, .chain⟩, ⟨9, .guard⟩], some (9, true)⟩) rfl (fun K hK => ?_) AllReadyH.nil
                  go_simp
                  (go_at_call 30; (with_reducible refine Calls.mono (hD _) ?_); rintro e w3 ⟨rfl, hb3⟩; have B3 := B2.below hb3; have C3 := C2.below hb3; have hbK := bel_after hbM hbM.size hb3; clear hb3)
                  go_wp2_with fail
                  refine hK.out _ _ ?_ (fun hHeld => ?_)
                  · (try dsimp only)
                    exact ⟨hP _ hbK, has2b B3, has4 C3⟩
                  clear hK K
                  (try simp only [Act.put, List.setIfInBounds_toArray, List.set_cons_zero, List.set_cons_succ])
                  refine tkY 18 ⟨some 48, .binOp BinOp.geq 3 (.tmp 47) (.const (Value.int IntKind.i64 0)) 3, 4, "sound.go:20", #[⟨17, .data⟩, ⟨9, .guard⟩], some (9, true)⟩ ?_ rfl ⟨by rfl, ?_⟩ ?_
                  rotate_left
                  · intro wz hSz; (try dsimp only at hSz); go_simp; all_goals (with_reducible rfl)
                  (try simp only [Act.put, List.setIfInBounds_toArray, List.set_cons_zero, List.set_cons_succ])
                  refine tkY 19 ⟨some 49, .pick (.tmp 39) (.tmp 48) (.const (Value.bool false)), 4, "sound.go:20", #[⟨9, .data⟩, ⟨18, .data⟩, ⟨6, .guard⟩], some (6, false)⟩ ?_ rfl ⟨by rfl, ?_⟩ ?_
                  rotate_left
                  · intro wz hSz; (try dsimp only at hSz); go_simp; all_goals (with_reducible rfl)
                  (try simp only [Act.put, List.setIfInBounds_toArray, List.set_cons_zero, List.set_cons_succ])
                  refine tkY 20 ⟨some 50, .pick (.tmp 36) (.const (Value.bool true)) (.tmp 49), 4, "sound.go:20", #[⟨6, .data⟩, ⟨19, .data⟩], none⟩ ?_ rfl ⟨by rfl, ?_⟩ ?_
                  rotate_left
                  · intro wz hSz; (try dsimp only at hSz); go_simp; all_goals (with_reducible rfl)
                  (try simp only [Act.put, List.setIfInBounds_toArray, List.set_cons_zero, List.set_cons_succ])
                  refine wpAnyH_done (by kernel_rfl) ?_ _
                  refine NoPanic.normal ?_
                  go_wp2
                  go_ret
                  exact ⟨rfl, hbK⟩
          · have t1 : ¬ (m : Int) < (C.length : Int) := by omega
            have hA' : A = true := by rw [← hs.out]; exact rows_end _ _ _ (by omega)
            subst hA'
            clear hs
            go_wp2
            go_ret
            exact ⟨rfl, hb.out⟩
  · have eA : gridB G C = false := by simp [gridB, h64]
    have i64 : (G.length : Int) > 64 := by omega
    go_enter Tryz.func8, Tryz.ntmps8
    go_wp2
    go_ret
    exact ⟨by first | rfl | exact ret_bool eA.symm, hb0⟩

theorem gpB_in (x0 : ByteArray) (x1 x2 x3 x4 : Int) : gpB ⟨x0, x1, x2, x3, x4⟩ = (inB x1 1 2 && (inB x2 1 3600 && (inB x3 0 60 && inB x4 0 60))) := by
  apply Bool.eq_iff_iff.2
  simp [gpB, inB, timeB, amberB]
  omega
theorem cfB_in (n : Nat) (xa xb xab xba : Int) : cfB n ⟨xa, xb, xab, xba⟩ = (!decide (xa < 0) && (!decide (xb ≤ xa) && (!decide (xb ≥ (n : Int)) && (inB xab 0 3600 && inB xba 0 3600)))) := by
  apply Bool.eq_iff_iff.2
  simp [cfB, inB, timeB]
set_option maxRecDepth 100000 in
set_option maxHeartbeats 4000000 in
theorem refGrid_any (G : List Gp) (C : List Cf) (vg vc : Value) (w : World) (h1 : Fl 5 Gp.cs w vg G) (h2 : Fl 4 Cf.cs w vc C) (lG : G.length ≤ 2932031007317) (lC : C.length ≤ 4398046511000) :
    Calls Tryz.prog 9 #[.agg #[vg, vc]] w fun e w' => e = .returned (.bool (gridB G C)) ∧ Below w.heap.size w w' := by
  obtain ⟨va, cg, rfl, kG⟩ := h1.any
  obtain ⟨vb, cc, rfl, kC⟩ := h2.any
  clear h1 h2
  have B0 : Has (w.alloc (.cells #[.slice va G.length cg, .slice vb C.length cc] 25)) w.heap.size #[.slice va G.length cg, .slice vb C.length cc] := Has.new _ _ _ rfl
  have hb0 : Below w.heap.size w (w.alloc (.cells #[.slice va G.length cg, .slice vb C.length cc] 25)) := belN1
  by_cases h64 : G.length ≤ 64
  · generalize hA : gridB G C = A
    have hA0 : (G.all gpB && rowsB G.length none C) = A := by rw [← hA]; simp [gridB, h64]
    clear hA
    have i64 : ¬ (G.length : Int) > 64 := by omega
    go_enter Tryz.func9, Tryz.ntmps9
    go_wp2
    generalize (w.alloc (.cells #[.slice va G.length cg, .slice vb C.length cc] 25)) = W0 at *
    go_loopw [4] (fun t wr => ∃ k : Nat, k ≤ G.length ∧ t = .int .i64 (k : Int) ∧ Hid (((G.drop k).all gpB && rowsB G.length none C) = A) ∧ Hid (Has wr w.heap.size #[.slice va G.length cg, .slice vb C.length cc]) ∧ Hid (Below w.heap.size w wr)) (fun t _ => G.length - (intOf t).toNat)
    case atStart => exact ⟨0, by omega, rfl, hA0, B0, hb0⟩
    case round =>
      clear B0 hb0
      obtain ⟨k, hkl, rfl, hs, B, hb⟩ := hrel
      obtain ⟨_, b1, _⟩ := id B.out
      by_cases hlt : k < G.length
      · obtain ⟨g, o, rfl, hg, P⟩ := kG.resolve_left (by intro e; rw [e] at hlt; simp at hlt)
        have p0 := (hb.out.cell (p := ⟨g, _, none⟩) hg).trans (P k hlt 0 _ rfl)
        have p1 := (hb.out.cell (p := ⟨g, _, none⟩) hg).trans (P k hlt 1 _ rfl)
        have p2 := (hb.out.cell (p := ⟨g, _, none⟩) hg).trans (P k hlt 2 _ rfl)
        have p3 := (hb.out.cell (p := ⟨g, _, none⟩) hg).trans (P k hlt 3 _ rfl)
        have p4 := (hb.out.cell (p := ⟨g, _, none⟩) hg).trans (P k hlt 4 _ rfl)
        simp only [Nat.add_zero] at p0
        have hs' := hs.out
        rw [all_step G k hlt] at hs'
        have hW1 := fun (W : World) => within_any G[k].sort 1 2 W
        have hW2 := fun (W : World) => within_any G[k].min 1 3600 W
        have hW3 := fun (W : World) => within_any G[k].amber 0 60 W
        have hW4 := fun (W : World) => within_any G[k].lead 0 60 W
        have t1 : (k : Int) < (G.length : Int) := by omega
        have t0 : (0 : Int) ≤ (k : Int) := by omega
        have t2 : k + 1 ≤ G.length := hlt
        have eG : gpB G[k] = gpB ⟨G[k].name, G[k].sort, G[k].min, G[k].amber, G[k].lead⟩ := rfl
        rw [eG] at hs'
        generalize G[k].name = x0 at *
        generalize G[k].sort = x1 at *
        generalize G[k].min = x2 at *
        generalize G[k].amber = x3 at *
        generalize G[k].lead = x4 at *
        clear P kG eG hs hA0
        have hbN : Below w.heap.size w (wr.alloc (.cells #[.string x0, .int .i64 x1, .int .i64 x2, .int .i64 x3, .int .i64 x4] 90)) := hb.out.alloc hb.out.size _
        have BN := B.out.alloc (.cells #[.string x0, .int .i64 x1, .int .i64 x2, .int .i64 x3, .int .i64 x4] 90)
        cases e1 : inB x1 1 2 with
        | false =>
          rw [e1] at hW1
          have eG : gpB ⟨x0, x1, x2, x3, x4⟩ = false := by rw [gpB_in]; simp [e1]
          have hA' : A = false := by rw [← hs', eG]; simp
          subst hA'
          clear hs' eG
          go_wp2_with (first | (go_at_call 31; (with_reducible refine Calls.mono (hW1 _) ?_); rintro e w2 ⟨rfl, rfl⟩) | (go_at_call 31; (with_reducible refine Calls.mono (hW2 _) ?_); rintro e w2 ⟨rfl, rfl⟩) | (go_at_call 31; (with_reducible refine Calls.mono (hW3 _) ?_); rintro e w2 ⟨rfl, rfl⟩) | (go_at_call 31; (with_reducible refine Calls.mono (hW4 _) ?_); rintro e w2 ⟨rfl, rfl⟩))
          go_ret
          exact ⟨rfl, hbN⟩
        | true =>
          rw [e1] at hW1
          cases e2 : inB x2 1 3600 with
          | false =>
            rw [e2] at hW2
            have eG : gpB ⟨x0, x1, x2, x3, x4⟩ = false := by rw [gpB_in]; simp [e2]
            have hA' : A = false := by rw [← hs', eG]; simp
            subst hA'
            clear hs' eG
            go_wp2_with (first | (go_at_call 31; (with_reducible refine Calls.mono (hW1 _) ?_); rintro e w2 ⟨rfl, rfl⟩) | (go_at_call 31; (with_reducible refine Calls.mono (hW2 _) ?_); rintro e w2 ⟨rfl, rfl⟩) | (go_at_call 31; (with_reducible refine Calls.mono (hW3 _) ?_); rintro e w2 ⟨rfl, rfl⟩) | (go_at_call 31; (with_reducible refine Calls.mono (hW4 _) ?_); rintro e w2 ⟨rfl, rfl⟩))
            go_ret
            exact ⟨rfl, hbN⟩
          | true =>
            rw [e2] at hW2
            cases e3 : inB x3 0 60 with
            | false =>
              rw [e3] at hW3
              have eG : gpB ⟨x0, x1, x2, x3, x4⟩ = false := by rw [gpB_in]; simp [e3]
              have hA' : A = false := by rw [← hs', eG]; simp
              subst hA'
              clear hs' eG
              go_wp2_with (first | (go_at_call 31; (with_reducible refine Calls.mono (hW1 _) ?_); rintro e w2 ⟨rfl, rfl⟩) | (go_at_call 31; (with_reducible refine Calls.mono (hW2 _) ?_); rintro e w2 ⟨rfl, rfl⟩) | (go_at_call 31; (with_reducible refine Calls.mono (hW3 _) ?_); rintro e w2 ⟨rfl, rfl⟩) | (go_at_call 31; (with_reducible refine Calls.mono (hW4 _) ?_); rintro e w2 ⟨rfl, rfl⟩))
              go_ret
              exact ⟨rfl, hbN⟩
            | true =>
              rw [e3] at hW3
              cases e4 : inB x4 0 60 with
              | false =>
                rw [e4] at hW4
                have eG : gpB ⟨x0, x1, x2, x3, x4⟩ = false := by rw [gpB_in]; simp [e4]
                have hA' : A = false := by rw [← hs', eG]; simp
                subst hA'
                clear hs' eG
                go_wp2_with (first | (go_at_call 31; (with_reducible refine Calls.mono (hW1 _) ?_); rintro e w2 ⟨rfl, rfl⟩) | (go_at_call 31; (with_reducible refine Calls.mono (hW2 _) ?_); rintro e w2 ⟨rfl, rfl⟩) | (go_at_call 31; (with_reducible refine Calls.mono (hW3 _) ?_); rintro e w2 ⟨rfl, rfl⟩) | (go_at_call 31; (with_reducible refine Calls.mono (hW4 _) ?_); rintro e w2 ⟨rfl, rfl⟩))
                go_ret
                exact ⟨rfl, hbN⟩
              | true =>
                rw [e4] at hW4
                have eG : gpB ⟨x0, x1, x2, x3, x4⟩ = true := by rw [gpB_in]; simp [e1, e2, e3, e4]
                have hs2 : Hid (((G.drop (k + 1)).all gpB && rowsB G.length none C) = A) := by show _ = _; rw [← hs', eG]; simp
                clear hs' eG
                go_wp2_with (first | (go_at_call 31; (with_reducible refine Calls.mono (hW1 _) ?_); rintro e w2 ⟨rfl, rfl⟩) | (go_at_call 31; (with_reducible refine Calls.mono (hW2 _) ?_); rintro e w2 ⟨rfl, rfl⟩) | (go_at_call 31; (with_reducible refine Calls.mono (hW3 _) ?_); rintro e w2 ⟨rfl, rfl⟩) | (go_at_call 31; (with_reducible refine Calls.mono (hW4 _) ?_); rintro e w2 ⟨rfl, rfl⟩))
                go_roundw
                case rel => exact ⟨k + 1, by omega, by go_num, hs2, BN, hbN⟩
                case measure => simp [intOf]; omega
      · have t1 : ¬ (k : Int) < (G.length : Int) := by omega
        have hA1 : rowsB G.length (prevK C 0) (C.drop 0) = A := by have := hs.out; rw [all_end G k (by omega)] at this; simpa [prevK] using this
        clear kG hs hA0
        go_wp2
        go_loopw [6] (fun t wr => ∃ k : Nat, k ≤ C.length ∧ t = .int .i64 (k : Int) ∧ Hid (rowsB G.length (prevK C k) (C.drop k) = A) ∧ Hid (Has wr w.heap.size #[.slice va G.length cg, .slice vb C.length cc]) ∧ Hid (Below w.heap.size w wr)) (fun t _ => C.length - (intOf t).toNat)
        case atStart => exact ⟨0, by omega, rfl, hA1, B, hb⟩
        case round =>
          clear b1 hA1 B hb t1
          obtain ⟨m, hml, rfl, hs, B, hb⟩ := hrel
          obtain ⟨_, b1, _⟩ := id B.out
          by_cases hlt : m < C.length
          · obtain ⟨g, o, rfl, hg, P⟩ := kC.resolve_left (by intro e; rw [e] at hlt; simp at hlt)
            have p0 := (hb.out.cell (p := ⟨g, _, none⟩) hg).trans (P m hlt 0 _ rfl)
            have p1 := (hb.out.cell (p := ⟨g, _, none⟩) hg).trans (P m hlt 1 _ rfl)
            have p2 := (hb.out.cell (p := ⟨g, _, none⟩) hg).trans (P m hlt 2 _ rfl)
            have p3 := (hb.out.cell (p := ⟨g, _, none⟩) hg).trans (P m hlt 3 _ rfl)
            simp only [Nat.add_zero] at p0
            have hs' := hs.out
            rw [rows_step G.length C m hlt] at hs'
            have hP : ∀ (j : Nat) (hj : j < C.length) (W : World), Below w.heap.size w W → W.cell? ⟨g, o + j * 4, none⟩ = some (.int .i64 C[j].a) ∧ W.cell? ⟨g, o + j * 4 + 1, none⟩ = some (.int .i64 C[j].b) ∧ W.cell? ⟨g, o + j * 4 + 2, none⟩ = some (.int .i64 C[j].ab) ∧ W.cell? ⟨g, o + j * 4 + 3, none⟩ = some (.int .i64 C[j].ba) := fun j hj W h => ⟨(h.cell (p := ⟨g, _, none⟩) hg).trans (P j hj 0 _ rfl), (h.cell (p := ⟨g, _, none⟩) hg).trans (P j hj 1 _ rfl), (h.cell (p := ⟨g, _, none⟩) hg).trans (P j hj 2 _ rfl), (h.cell (p := ⟨g, _, none⟩) hg).trans (P j hj 3 _ rfl)⟩
            have hW1 := fun (W : World) => within_any C[m].ab 0 3600 W
            have hW2 := fun (W : World) => within_any C[m].ba 0 3600 W
            have t1 : (m : Int) < (C.length : Int) := by omega
            have t0 : (0 : Int) ≤ (m : Int) := by omega
            have t2 : m + 1 ≤ C.length := hlt
            clear P hs kC
            have eX : C[m] = ⟨C[m].a, C[m].b, C[m].ab, C[m].ba⟩ := rfl
            rw [eX] at hs'
            clear eX
            generalize C[m].a = xa at *
            generalize C[m].b = xb at *
            generalize C[m].ab = xab at *
            generalize C[m].ba = xba at *
            have hbN : Below w.heap.size w (wr.alloc (.cells #[.int .i64 xa, .int .i64 xb, .int .i64 xab, .int .i64 xba] 93)) := hb.out.alloc hb.out.size _
            have BN := B.out.alloc (.cells #[.int .i64 xa, .int .i64 xb, .int .i64 xab, .int .i64 xba] 93)
            by_cases d1 : xa < 0
            · clear hW1 hW2
              have eC : cfB G.length ⟨xa, xb, xab, xba⟩ = false := by rw [cfB_in]; simp [d1]
              have hA' : A = false := by rw [← hs', eC]; simp
              subst hA'
              clear hs' eC hP
              go_wp2_with fail
              go_ret
              exact ⟨rfl, hbN⟩
            · by_cases d2 : xb ≤ xa
              · clear hW1 hW2
                have eC : cfB G.length ⟨xa, xb, xab, xba⟩ = false := by rw [cfB_in]; simp [d2]
                have hA' : A = false := by rw [← hs', eC]; simp
                subst hA'
                clear hs' eC hP
                go_wp2_with fail
                go_ret
                exact ⟨rfl, hbN⟩
              · by_cases d3 : xb ≥ (G.length : Int)
                · clear hW1 hW2
                  have eC : cfB G.length ⟨xa, xb, xab, xba⟩ = false := by rw [cfB_in]; simp [d3]
                  have hA' : A = false := by rw [← hs', eC]; simp
                  subst hA'
                  clear hs' eC hP
                  go_wp2_with fail
                  go_ret
                  exact ⟨rfl, hbN⟩
                · cases e4 : inB xab 0 3600 with
                  | false =>
                    rw [e4] at hW1
                    have eC : cfB G.length ⟨xa, xb, xab, xba⟩ = false := by rw [cfB_in]; simp [e4]
                    have hA' : A = false := by rw [← hs', eC]; simp
                    subst hA'
                    clear hs' eC hP
                    go_wp2_with (first | (go_at_call 31; (with_reducible refine Calls.mono (hW1 _) ?_); rintro e w2 ⟨rfl, rfl⟩) | (go_at_call 31; (with_reducible refine Calls.mono (hW2 _) ?_); rintro e w2 ⟨rfl, rfl⟩))
                    go_ret
                    exact ⟨rfl, hbN⟩
                  | true =>
                    rw [e4] at hW1
                    cases e5 : inB xba 0 3600 with
                    | false =>
                      rw [e5] at hW2
                      have eC : cfB G.length ⟨xa, xb, xab, xba⟩ = false := by rw [cfB_in]; simp [e5]
                      have hA' : A = false := by rw [← hs', eC]; simp
                      subst hA'
                      clear hs' eC hP
                      go_wp2_with (first | (go_at_call 31; (with_reducible refine Calls.mono (hW1 _) ?_); rintro e w2 ⟨rfl, rfl⟩) | (go_at_call 31; (with_reducible refine Calls.mono (hW2 _) ?_); rintro e w2 ⟨rfl, rfl⟩))
                      go_ret
                      exact ⟨rfl, hbN⟩
                    | true =>
                      rw [e5] at hW2
                      have eC : cfB G.length ⟨xa, xb, xab, xba⟩ = true := by rw [cfB_in]; simp [d1, d2, d3, e4, e5]
                      rw [eC] at hs'
                      clear eC
                      rcases Nat.eq_zero_or_pos m with hm0 | hm0
                      · subst hm0
                        have hs2 : Hid (rowsB G.length (prevK C (0 + 1)) (C.drop (0 + 1)) = A) := by show _ = _; rw [← hs']; simp [prevK, ordP]
                        simp only [Nat.zero_mul, Nat.add_zero] at p0 p1 p2 p3
                        clear hs' hP
                        go_wp2_with (first | (go_at_call 31; (with_reducible refine Calls.mono (hW1 _) ?_); rintro e w2 ⟨rfl, rfl⟩) | (go_at_call 31; (with_reducible refine Calls.mono (hW2 _) ?_); rintro e w2 ⟨rfl, rfl⟩))
                        go_roundw
                        case rel => exact ⟨0 + 1, by omega, by go_num, hs2, BN, hbN⟩
                        case measure => first | (simp [intOf]; omega) | (simp only [intOf]; omega) | (simp [intOf]; intro h; rw [h] at hlt; simp at hlt)
                      · obtain ⟨j, rfl⟩ : ∃ j, m = j + 1 := ⟨m - 1, by omega⟩
                        have hj : j < C.length := by omega
                        have eP : prevK C (j + 1) = some C[j] := List.getElem?_eq_getElem hj
                        rw [eP] at hs'
                        replace hs' : (ordB ⟨C[j].a, C[j].b, C[j].ab, C[j].ba⟩ ⟨xa, xb, xab, xba⟩ && rowsB G.length (prevK C (j + 1 + 1)) (C.drop (j + 1 + 1))) = A := by rw [← hs']; simp [ordP]
                        obtain ⟨q0, q1, q2, q3⟩ := hP j hj _ hbN
                        have j1 : (j : Int) < (C.length : Int) := by omega
                        have j0 : (0 : Int) ≤ (j : Int) := by omega
                        have j2 : (0 : Int) < ((j + 1 : Nat) : Int) := by omega
                        have j3 : ((j + 1 : Nat) : Int) - 1 = (j : Int) := by omega
                        have j4 : IntKind.i64.wrap (j : Int) = (j : Int) := wrap64 _ (by omega)
                        clear hP eP
                        generalize C[j].a = ya at *
                        generalize C[j].b = yb at *
                        generalize C[j].ab = yab at *
                        generalize C[j].ba = yba at *
                        by_cases f1 : xa < ya
                        · skip
                          have eO : ordB ⟨ya, yb, yab, yba⟩ ⟨xa, xb, xab, xba⟩ = false := by simp [ordB]; omega
                          have hA' : A = false := by rw [← hs', eO]; simp
                          subst hA'
                          clear hs' eO
                          go_wp2_with (first | (go_at_call 31; (with_reducible refine Calls.mono (hW1 _) ?_); rintro e w2 ⟨rfl, rfl⟩) | (go_at_call 31; (with_reducible refine Calls.mono (hW2 _) ?_); rintro e w2 ⟨rfl, rfl⟩))
                          go_ret
                          exact ⟨rfl, hbN.alloc hbN.size _⟩
                        · by_cases f2 : xa = ya
                          · subst f2
                            by_cases f3 : xb ≤ yb
                            · skip
                              have eO : ordB ⟨xa, yb, yab, yba⟩ ⟨xa, xb, xab, xba⟩ = false := by simp [ordB]; omega
                              have hA' : A = false := by rw [← hs', eO]; simp
                              subst hA'
                              clear hs' eO
                              go_wp2_with (first | (go_at_call 31; (with_reducible refine Calls.mono (hW1 _) ?_); rintro e w2 ⟨rfl, rfl⟩) | (go_at_call 31; (with_reducible refine Calls.mono (hW2 _) ?_); rintro e w2 ⟨rfl, rfl⟩))
                              go_ret
                              exact ⟨rfl, hbN.alloc hbN.size _⟩
                            · skip
                              have eO : ordB ⟨xa, yb, yab, yba⟩ ⟨xa, xb, xab, xba⟩ = true := by simp [ordB]; omega
                              have hs2 : Hid (rowsB G.length (prevK C (j + 1 + 1)) (C.drop (j + 1 + 1)) = A) := by show _ = _; rw [← hs', eO]; simp
                              clear hs' eO
                              go_wp2_with (first | (go_at_call 31; (with_reducible refine Calls.mono (hW1 _) ?_); rintro e w2 ⟨rfl, rfl⟩) | (go_at_call 31; (with_reducible refine Calls.mono (hW2 _) ?_); rintro e w2 ⟨rfl, rfl⟩))
                              go_roundw
                              case rel => exact ⟨j + 1 + 1, by omega, by go_num, hs2, BN.alloc _, hbN.alloc hbN.size _⟩
                              case measure => simp [intOf]; omega
                          · skip
                            have eO : ordB ⟨ya, yb, yab, yba⟩ ⟨xa, xb, xab, xba⟩ = true := by simp [ordB]; omega
                            have hs2 : Hid (rowsB G.length (prevK C (j + 1 + 1)) (C.drop (j + 1 + 1)) = A) := by show _ = _; rw [← hs', eO]; simp
                            clear hs' eO
                            go_wp2_with (first | (go_at_call 31; (with_reducible refine Calls.mono (hW1 _) ?_); rintro e w2 ⟨rfl, rfl⟩) | (go_at_call 31; (with_reducible refine Calls.mono (hW2 _) ?_); rintro e w2 ⟨rfl, rfl⟩))
                            go_roundw
                            case rel => exact ⟨j + 1 + 1, by omega, by go_num, hs2, BN.alloc _, hbN.alloc hbN.size _⟩
                            case measure => simp [intOf]; omega
          · have t1 : ¬ (m : Int) < (C.length : Int) := by omega
            have hA' : A = true := by rw [← hs.out]; exact rows_end _ _ _ (by omega)
            subst hA'
            clear hs
            go_wp2
            go_ret
            exact ⟨rfl, hb.out⟩
  · have eA : gridB G C = false := by simp [gridB, h64]
    have i64 : (G.length : Int) > 64 := by omega
    go_enter Tryz.func9, Tryz.ntmps9
    go_wp2
    go_ret
    exact ⟨by first | rfl | exact ret_bool eA.symm, hb0⟩
end Go.Proofs.YtnicolaphmffkaaGreatDoor
