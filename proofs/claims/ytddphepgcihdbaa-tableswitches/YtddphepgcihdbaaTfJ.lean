import Derived.Test.YtddphepgcihdbaaTfI
namespace Go.Proofs.Ytddphepgcihdbaa
open Go.RowKit
set_option linter.unusedVariables false
set_option linter.unusedSimpArgs false

set_option maxRecDepth 100000 in
set_option maxHeartbeats 20000000 in
theorem make_any (L : List Int) (a : Option Addr) (c : Nat) (w : World) (hL : ChP w L a) : Calls Try.prog 4 #[.slice a L.length c] w fun e w' => MkP w e w' := by
  obtain ⟨tl, htl, htl0, htl1, htl2⟩ := info_parts info63
  obtain ⟨tm, htm, htm0, htm1, htm2⟩ := info_parts info65
  obtain ⟨tn, htn, htn0, htn1, htn2⟩ := info_parts info68
  have hM0 := md_start L a c w hL
  have hR0 : Has (((w.alloc (.cells #[.string ⟨#[]⟩, .slice none 0 0, .int .i64 0, .int .i64 0, .int .i64 0, .int .i64 0, .int .i64 0, .int .i64 0, .int .i64 0, .slice none 0 0, .slice none 0 0, .slice none 0 0] 29)).alloc (.cells #[.slice a L.length c, .int .i64 0] 45)).alloc (.cells #[.string ⟨#[116, 105, 109, 101, 116, 97, 98, 108, 101]⟩, .slice none 0 0, .int .i64 0, .int .i64 0, .int .i64 0, .int .i64 0, .int .i64 0, .int .i64 0, .int .i64 0, .slice none 0 0, .slice none 0 0, .slice none 0 0, .string ⟨#[]⟩, .pointer (some ⟨w.heap.size + 1, 0, none⟩), .string ⟨#[]⟩] 47)) w.heap.size #[.string ⟨#[]⟩, .slice none 0 0, .int .i64 0, .int .i64 0, .int .i64 0, .int .i64 0, .int .i64 0, .int .i64 0, .int .i64 0, .slice none 0 0, .slice none 0 0, .slice none 0 0] := ((Has.new w _ 29 rfl).alloc _).alloc _
  have hB0 : Below w.heap.size w (((w.alloc (.cells #[.string ⟨#[]⟩, .slice none 0 0, .int .i64 0, .int .i64 0, .int .i64 0, .int .i64 0, .int .i64 0, .int .i64 0, .int .i64 0, .slice none 0 0, .slice none 0 0, .slice none 0 0] 29)).alloc (.cells #[.slice a L.length c, .int .i64 0] 45)).alloc (.cells #[.string ⟨#[116, 105, 109, 101, 116, 97, 98, 108, 101]⟩, .slice none 0 0, .int .i64 0, .int .i64 0, .int .i64 0, .int .i64 0, .int .i64 0, .int .i64 0, .int .i64 0, .slice none 0 0, .slice none 0 0, .slice none 0 0, .string ⟨#[]⟩, .pointer (some ⟨w.heap.size + 1, 0, none⟩), .string ⟨#[]⟩] 47)) := ((((Below.refl w.heap.size w).alloc (Nat.le_refl _) _).alloc (by simp) _).alloc (by simp; omega) _)
  clear hL
  go_enter Try.func4, Try.ntmps4
  go_wp2_with (first
    | (go_at_call 9; (with_reducible refine (line_any hM0 (by omega) _ _ (by decide) (by decide)).mono ?_); rintro e w1 ⟨rfl, hM1, ho1⟩; generalize (((w.alloc (.cells #[.string ⟨#[]⟩, .slice none 0 0, .int .i64 0, .int .i64 0, .int .i64 0, .int .i64 0, .int .i64 0, .int .i64 0, .int .i64 0, .slice none 0 0, .slice none 0 0, .slice none 0 0] 29)).alloc (.cells #[.slice a L.length c, .int .i64 0] 45)).alloc (.cells #[.string ⟨#[116, 105, 109, 101, 116, 97, 98, 108, 101]⟩, .slice none 0 0, .int .i64 0, .int .i64 0, .int .i64 0, .int .i64 0, .int .i64 0, .int .i64 0, .int .i64 0, .slice none 0 0, .slice none 0 0, .slice none 0 0, .string ⟨#[]⟩, .pointer (some ⟨w.heap.size + 1, 0, none⟩), .string ⟨#[]⟩] 47)) = V0 at *; have hpt1 := hM1.ptr)
    | (go_at_call 10; (with_reducible refine (hM1.pick 8 (by decide) (by decide)).mono ?_); rintro e w2 ⟨⟨r, rfl, rr0, rr1⟩, hM2, ho2⟩; obtain ⟨N, rfl⟩ : ∃ z : Nat, r = (z : Int) := ⟨r.toNat, by omega⟩)
    | (go_at_call 11; (with_reducible refine (days_m hM2 rfl (by omega) (N + 1) (by omega) (1 + (N : Int)) (by omega)).mono ?_); rintro e wd ⟨rfl, ⟨da, dcp, D, hDl, hD, hM3⟩, ho3⟩; dsimp only at hM3)
    | (go_at_call 12; (with_reducible refine (week_m hM3 (N + 1) (by omega) (by omega) (1 + (N : Int)) (by omega)).mono ?_); rintro e w4 ⟨hWk, hM4, ho4⟩; obtain ⟨x0, x1, x2, x3, x4, x5, x6, sw, rfl, hsw, hxr⟩ := hWk; obtain ⟨s4, b4, _, _, c4, f4⟩ := hM4.cells; have hs4 := hM4.size)
    | (go_at_call 9; (with_reducible refine (line_any ((hM4.wk _ _ _ _ _ _ _).below bel1) (by omega) _ _ (by decide) (by simp only [ByteArray.size_append, bsz, List.size_toArray, List.length_cons, List.length_nil]; omega)).mono ?_); rintro e w5 ⟨rfl, hM5, ho5⟩; have hpt5 := hM5.ptr)
    | (go_at_call 10; (with_reducible refine (hM5.pick 4 (by decide) (by decide)).mono ?_); rintro e w6 ⟨⟨r, rfl, k40, k41⟩, hM6, ho6⟩; obtain ⟨k4, rfl⟩ : ∃ z : Nat, r = (z : Int) := ⟨r.toNat, by omega⟩))
  have hmp : w.heap.size + 1 < w.heap.size + 1 + 1 := by omega
  have hwp : w.heap.size < w.heap.size + 1 := by omega
  generalize w.heap.size + 1 + 1 = mb at *
  generalize w.heap.size + 1 = p at *
  have hsd : mb < wd.heap.size := hM3.size
  have hB7 : wd.heap.size ≤ w4.heap.size := ho4.size
  have hH6 : Has w6 w4.heap.size (#[.int .i64 x0, .int .i64 x1, .int .i64 x2, .int .i64 x3, .int .i64 x4, .int .i64 x5, .int .i64 x6]) := ((Has.new (((((((w4.setCell ⟨mb, 2, none⟩ (.int .i64 x0)).setCell ⟨mb, 3, none⟩ (.int .i64 x1)).setCell ⟨mb, 4, none⟩ (.int .i64 x2)).setCell ⟨mb, 5, none⟩ (.int .i64 x3)).setCell ⟨mb, 6, none⟩ (.int .i64 x4)).setCell ⟨mb, 7, none⟩ (.int .i64 x5)).setCell ⟨mb, 8, none⟩ (.int .i64 x6)) (#[.int .i64 x0, .int .i64 x1, .int .i64 x2, .int .i64 x3, .int .i64 x4, .int .i64 x5, .int .i64 x6]) 24 (by simp [World.setCell])).only ho5 (by show ¬ (_ ∨ _); omega)).only ho6 (by show ¬ _ = p; omega)
  have hO6 : Only (MP mb p) wd w6 := (((((ho4.mono fun q e => .inr e).wk (.inl rfl) _ _ _ _ _ _ _).alloc _).trans ho5).trans (ho6.mono fun q e => .inr e))
  have hs2 : mb < w2.heap.size := hM2.size
  have hOd : Only (MP mb p) V0 wd := (ho1.trans (ho2.mono fun q e => .inr e)).trans ho3
  (try dsimp only at hM6)
  have hB1 : w4.heap.size < w6.heap.size := hH6.1
  have hMh : Hid (Md w6 mb p L a c (⟨.string ⟨#[116, 105, 109, 101, 116, 97, 98, 108, 101]⟩, .slice da (N + 1) dcp, .int .i64 x0, .int .i64 x1, .int .i64 x2, .int .i64 x3, .int .i64 x4, .int .i64 x5, .int .i64 x6, .slice none 0 0, .slice none 0 0, .slice none 0 0⟩ : Tv) 40000) := hM6.mono (by omega)
  clear hM0 hM1 ho1 hpt1 hM2 ho2 hM3 ho3 hM4 ho4 c4 f4 hs4 hM5 ho5 hpt5 hM6 ho6
  generalize w4.heap.size = b7 at *
  obtain ⟨B1, hB1e⟩ : ∃ x, x = w6.heap.size := ⟨_, rfl⟩
  rw [← hB1e] at hB1
  have hB1' : B1 ≤ w6.heap.size := Nat.le_of_eq hB1e
  clear hB1e
  go_loopg [8, 9] k4 (fun gk s8 s9 wr => ∃ (j : Nat) (sq : ByteArray) (y0 y1 y2 y3 y4 y5 y6 : Int) (sa : Option Addr) (sc : Nat) (S : List Sn), j + gk = k4 ∧ s9 = .int .i64 (gk : Int) ∧ s8 = .string sq ∧ sq.size ≤ 77 ∧ B1 ≤ wr.heap.size ∧ Hid (S.length = j ∧ SnK (N + 1) S) ∧ Hid (Has wr b7 (#[.int .i64 y0, .int .i64 y1, .int .i64 y2, .int .i64 y3, .int .i64 y4, .int .i64 y5, .int .i64 y6])) ∧ Hid (wr.ownsRow B1 56 9 (.slice sa j sc) j (cellsF Sn.cs S)) ∧ Hid (Md wr mb p L a c (⟨.string ⟨#[116, 105, 109, 101, 116, 97, 98, 108, 101]⟩, .slice da (N + 1) dcp, .int .i64 x0, .int .i64 x1, .int .i64 x2, .int .i64 x3, .int .i64 x4, .int .i64 x5, .int .i64 x6, .slice sa j sc, .slice none 0 0, .slice none 0 0⟩ : Tv) (40000 + 500 * j)) ∧ Hid (Only (MP mb p) wd wr))
  case atStart => exact ⟨0, sw, x0, x1, x2, x3, x4, x5, x6, none, 0, [], by omega, rfl, rfl, by omega, hB1', ⟨rfl, SnK.nil _⟩, hH6, World.ownsRow_nil _ _ _ _, hMh, hO6⟩
  case round =>
    clear hMh hH6 hO6
    obtain ⟨j, sq, y0, y1, y2, y3, y4, y5, y6, sa, sc, S, hj, rfl, rfl, hsq, hBw, hSl, hH, hW, hM, hO⟩ := hrel
    have t0 : (0 : Int) ≤ (gk : Int) := by omega
    by_cases hg : 0 < gk
    · have t2 : (0 : Int) < (gk : Int) := by omega
      go_wp2_with (first
        | (go_at_call 13; (with_reducible refine (date_made hM.out).mono ?_); rintro e v1 ⟨hq1, hM1, ho1⟩; obtain ⟨d1, q1, rfl, d10, d11, z1⟩ := hq1)
        | (go_at_call 13; (with_reducible refine (date_made hM1).mono ?_); rintro e v2 ⟨hq2, hM2, ho2⟩; obtain ⟨d2, q2, rfl, d20, d21, z2⟩ := hq2)
        | (go_at_call 12; (with_reducible refine (week_m hM2 (N + 1) (by omega) (by omega) (1 + (N : Int)) (by omega)).mono ?_); rintro e v3 ⟨hWk, hM3, ho3⟩; obtain ⟨u0, u1, u2, u3, u4, u5, u6, sv, rfl, hsv, hur⟩ := hWk; have hH3 := ((hH.out.only ho1 (by show ¬ _ = p; omega)).only ho2 (by show ¬ _ = p; omega)).only ho3 (by show ¬ _ = p; omega); obtain ⟨_, c3, f3⟩ := id hH3))
      · have hMV : Md (((((((v3.setCell ⟨b7, 0, none⟩ (.int .i64 u0)).setCell ⟨b7, 1, none⟩ (.int .i64 u1)).setCell ⟨b7, 2, none⟩ (.int .i64 u2)).setCell ⟨b7, 3, none⟩ (.int .i64 u3)).setCell ⟨b7, 4, none⟩ (.int .i64 u4)).setCell ⟨b7, 5, none⟩ (.int .i64 u5)).setCell ⟨b7, 6, none⟩ (.int .i64 u6)) mb p L a c (⟨.string ⟨#[116, 105, 109, 101, 116, 97, 98, 108, 101]⟩, .slice da (N + 1) dcp, .int .i64 x0, .int .i64 x1, .int .i64 x2, .int .i64 x3, .int .i64 x4, .int .i64 x5, .int .i64 x6, .slice sa j sc, .slice none 0 0, .slice none 0 0⟩ : Tv) (40000 + 500 * j) := hM3.far7 (q := b7) (by omega) _ _ _ _ _ _ _
        have hHV : Has (((((((v3.setCell ⟨b7, 0, none⟩ (.int .i64 u0)).setCell ⟨b7, 1, none⟩ (.int .i64 u1)).setCell ⟨b7, 2, none⟩ (.int .i64 u2)).setCell ⟨b7, 3, none⟩ (.int .i64 u3)).setCell ⟨b7, 4, none⟩ (.int .i64 u4)).setCell ⟨b7, 5, none⟩ (.int .i64 u5)).setCell ⟨b7, 6, none⟩ (.int .i64 u6)) b7 (#[.int .i64 u0, .int .i64 u1, .int .i64 u2, .int .i64 u3, .int .i64 u4, .int .i64 u5, .int .i64 u6] : Array Value) := hH3.sev _ _ _ _ _ _ _
        have hOV : Only (MP mb p) wd (((((((v3.setCell ⟨b7, 0, none⟩ (.int .i64 u0)).setCell ⟨b7, 1, none⟩ (.int .i64 u1)).setCell ⟨b7, 2, none⟩ (.int .i64 u2)).setCell ⟨b7, 3, none⟩ (.int .i64 u3)).setCell ⟨b7, 4, none⟩ (.int .i64 u4)).setCell ⟨b7, 5, none⟩ (.int .i64 u5)).setCell ⟨b7, 6, none⟩ (.int .i64 u6)) := (((hO.out.trans (ho1.mono fun q e => .inr e)).trans (ho2.mono fun q e => .inr e)).trans (ho3.mono fun q e => .inr e)).set7 hB7 _ _ _ _ _ _ _
        have hWV : World.ownsRow (((((((v3.setCell ⟨b7, 0, none⟩ (.int .i64 u0)).setCell ⟨b7, 1, none⟩ (.int .i64 u1)).setCell ⟨b7, 2, none⟩ (.int .i64 u2)).setCell ⟨b7, 3, none⟩ (.int .i64 u3)).setCell ⟨b7, 4, none⟩ (.int .i64 u4)).setCell ⟨b7, 5, none⟩ (.int .i64 u5)).setCell ⟨b7, 6, none⟩ (.int .i64 u6)) B1 56 9 (.slice sa j sc) j (cellsF Sn.cs S) := own_only (own_only (own_only (own_only hW.out ho1 (fun q hq => by show ¬ q = p; omega)) ho2 (fun q hq => by show ¬ q = p; omega)) ho3 (fun q hq => by show ¬ q = p; omega)) (only7 v3 b7 _ _ _ _ _ _ _) (fun q hq => by show ¬ q = b7; omega)
        have hBV : B1 ≤ (World.heap (((((((v3.setCell ⟨b7, 0, none⟩ (.int .i64 u0)).setCell ⟨b7, 1, none⟩ (.int .i64 u1)).setCell ⟨b7, 2, none⟩ (.int .i64 u2)).setCell ⟨b7, 3, none⟩ (.int .i64 u3)).setCell ⟨b7, 4, none⟩ (.int .i64 u4)).setCell ⟨b7, 5, none⟩ (.int .i64 u5)).setCell ⟨b7, 6, none⟩ (.int .i64 u6))).size := Nat.le_trans (Nat.le_trans (Nat.le_trans (Nat.le_trans hBw ho1.size) ho2.size) ho3.size) (only7 v3 b7 _ _ _ _ _ _ _).size
        clear hM1 hM2 hM3 ho1 ho2 ho3 hH3 c3 f3 hM hW hH hO
        generalize (((((((v3.setCell ⟨b7, 0, none⟩ (.int .i64 u0)).setCell ⟨b7, 1, none⟩ (.int .i64 u1)).setCell ⟨b7, 2, none⟩ (.int .i64 u2)).setCell ⟨b7, 3, none⟩ (.int .i64 u3)).setCell ⟨b7, 4, none⟩ (.int .i64 u4)).setCell ⟨b7, 5, none⟩ (.int .i64 u5)).setCell ⟨b7, 6, none⟩ (.int .i64 u6)) = V at *
        obtain ⟨sV, bV, _, _, cV, fV⟩ := hMV.cells
        obtain ⟨_, hV1, hV2⟩ := id hHV
        refine wp_region_noPanic ?_
        refine wp_region_E (S := fun w' => w'.cell? ⟨mb, 9, none⟩ = some (.slice sa j sc) ∧ (∀ i, w'.cell? ⟨b7, i, none⟩ = (#[.int .i64 u0, .int .i64 u1, .int .i64 u2, .int .i64 u3, .int .i64 u4, .int .i64 u5, .int .i64 u6] : Array Value)[i]?)) (E := 15) (by kernel_rfl) ?_ (fun hHeld => ?_)
        · (try dsimp only)
          exact ⟨cV 9, hV1⟩
        refine wpAnyE_take (i := 0) (oi := { dst := some 93, op := Op.move (Operand.tmp 5), type := 42, pos := "outright.go:162", after := #[], guard := none }) (v := ?_) rfl (by kernel_rfl) (by kernel_rfl) (by kernel_rfl) (by kernel_rfl) (fun _ _ _ h => h) (Or.inl ⟨by rfl, ?_⟩) (by assumption) ?_
        rotate_left
        · intro wz hSz; (try dsimp only at hSz); go_simp; all_goals (with_reducible rfl)
        (try simp only [Act.put, List.setIfInBounds_toArray, List.set_cons_zero, List.set_cons_succ])
        refine wpAnyE_take (i := 1) (oi := { dst := some 94, op := Op.move (Operand.tmp 5), type := 42, pos := "outright.go:162", after := #[], guard := none }) (v := ?_) rfl (by kernel_rfl) (by kernel_rfl) (by kernel_rfl) (by kernel_rfl) (fun _ _ _ h => h) (Or.inl ⟨by rfl, ?_⟩) (by assumption) ?_
        rotate_left
        · intro wz hSz; (try dsimp only at hSz); go_simp; all_goals (with_reducible rfl)
        (try simp only [Act.put, List.setIfInBounds_toArray, List.set_cons_zero, List.set_cons_succ])
        refine wpAnyE_take (i := 2) (oi := { dst := some 95, op := Op.nilCheck (Operand.tmp 94), type := 0, pos := "outright.go:162", after := #[{ on := 1, ground := Ground.data }], guard := none }) (v := ?_) rfl (by kernel_rfl) (by kernel_rfl) (by kernel_rfl) (by kernel_rfl) (fun _ _ _ h => h) (Or.inl ⟨by rfl, ?_⟩) (by assumption) ?_
        rotate_left
        · intro wz hSz; (try dsimp only at hSz); go_simp; all_goals (with_reducible rfl)
        (try simp only [Act.put, List.setIfInBounds_toArray, List.set_cons_zero, List.set_cons_succ])
        refine wpAnyE_take (i := 3) (oi := { dst := some 96, op := Op.fieldAddr 47 (Operand.tmp 95) 0, type := 0, pos := "outright.go:162", after := #[{ on := 2, ground := Ground.data }], guard := none }) (v := ?_) rfl (by kernel_rfl) (by kernel_rfl) (by kernel_rfl) (by kernel_rfl) (fun _ _ _ h => h) (Or.inl ⟨by rfl, ?_⟩) (by assumption) ?_
        rotate_left
        · intro wz hSz; (try dsimp only at hSz); go_simp; all_goals (with_reducible rfl)
        (try simp only [Act.put, List.setIfInBounds_toArray, List.set_cons_zero, List.set_cons_succ])
        refine wpAnyE_take (i := 4) (oi := { dst := some 97, op := Op.fieldAddr 29 (Operand.tmp 96) 3, type := 0, pos := "outright.go:162", after := #[{ on := 3, ground := Ground.data }], guard := none }) (v := ?_) rfl (by kernel_rfl) (by kernel_rfl) (by kernel_rfl) (by kernel_rfl) (fun _ _ _ h => h) (Or.inl ⟨by rfl, ?_⟩) (by assumption) ?_
        rotate_left
        · intro wz hSz; (try dsimp only at hSz); go_simp; all_goals (with_reducible rfl)
        (try simp only [Act.put, List.setIfInBounds_toArray, List.set_cons_zero, List.set_cons_succ])
        refine wpAnyE_take (i := 5) (oi := { dst := some 98, op := Op.load 25 (Operand.tmp 97), type := 25, pos := "outright.go:162", after := #[{ on := 4, ground := Ground.data }], guard := none }) (v := ?_) rfl (by kernel_rfl) (by kernel_rfl) (by kernel_rfl) (by kernel_rfl) (fun _ _ _ h => h) (Or.inl ⟨by rfl, ?_⟩) (by assumption) ?_
        rotate_left
        · intro wz hSz; (try dsimp only at hSz); go_simp; all_goals (with_reducible rfl)
        (try simp only [Act.put, List.setIfInBounds_toArray, List.set_cons_zero, List.set_cons_succ])
        refine wpAnyE_take (i := 6) (oi := { dst := some 99, op := Op.move (Operand.tmp 10), type := 3, pos := "outright.go:162", after := #[], guard := none }) (v := ?_) rfl (by kernel_rfl) (by kernel_rfl) (by kernel_rfl) (by kernel_rfl) (fun _ _ _ h => h) (Or.inl ⟨by rfl, ?_⟩) (by assumption) ?_
        rotate_left
        · intro wz hSz; (try dsimp only at hSz); go_simp; all_goals (with_reducible rfl)
        (try simp only [Act.put, List.setIfInBounds_toArray, List.set_cons_zero, List.set_cons_succ])
        refine wpAnyE_take (i := 7) (oi := { dst := some 100, op := Op.move (Operand.tmp 12), type := 3, pos := "outright.go:162", after := #[], guard := none }) (v := ?_) rfl (by kernel_rfl) (by kernel_rfl) (by kernel_rfl) (by kernel_rfl) (fun _ _ _ h => h) (Or.inl ⟨by rfl, ?_⟩) (by assumption) ?_
        rotate_left
        · intro wz hSz; (try dsimp only at hSz); go_simp; all_goals (with_reducible rfl)
        (try simp only [Act.put, List.setIfInBounds_toArray, List.set_cons_zero, List.set_cons_succ])
        refine wpAnyE_take (i := 8) (oi := { dst := some 101, op := Op.load 24 (Operand.tmp 7), type := 24, pos := "outright.go:162", after := #[], guard := none }) (v := ?_) rfl (by kernel_rfl) (by kernel_rfl) (by kernel_rfl) (by kernel_rfl) (fun _ _ _ h => h) (Or.inl ⟨by rfl, ?_⟩) (by assumption) ?_
        rotate_left
        · intro wz hSz; (try dsimp only at hSz); go_simp; all_goals (with_reducible rfl)
        (try simp only [Act.put, List.setIfInBounds_toArray, List.set_cons_zero, List.set_cons_succ])
        refine wpAnyE_take (i := 9) (oi := { dst := some 102, op := Op.build 56 #[(0, Operand.tmp 99), (1, Operand.tmp 100), (2, Operand.tmp 101)], type := 56, pos := "outright.go:162", after := #[{ on := 6, ground := Ground.data }, { on := 7, ground := Ground.data }, { on := 8, ground := Ground.data }], guard := none }) (v := ?_) rfl (by kernel_rfl) (by kernel_rfl) (by kernel_rfl) (by kernel_rfl) (fun _ _ _ h => h) (Or.inl ⟨by rfl, ?_⟩) (by assumption) ?_
        rotate_left
        · intro wz hSz; (try dsimp only at hSz); go_simp; all_goals (with_reducible rfl)
        (try simp only [Act.put, List.setIfInBounds_toArray, List.set_cons_zero, List.set_cons_succ])
        refine wpAnyE_one (i := 10) (o := { dst := some 103, op := Op.buildSlice 25 1 #[(0, Operand.tmp 102)], type := 25, pos := "outright.go:162", after := #[{ on := 9, ground := Ground.data }], guard := none }) (by kernel_rfl) rfl (by rfl) (fun K hK => ?_)
        go_simp
        refine hK.out _ _ ?_ (fun hHeld => ?_)
        · (try dsimp only)
          obtain ⟨h1, h2⟩ := hHeld
          exact ⟨(bel1.cell (p := ⟨mb, _, none⟩) (cell_ltF h1)).trans h1, fun i => (bel1.cell (p := ⟨b7, i, none⟩) (cell_ltF ((h2 0).trans rfl))).trans (h2 i)⟩
        clear hK K
        (try simp only [Act.put, List.setIfInBounds_toArray, List.set_cons_zero, List.set_cons_succ])
        refine wpAnyE_one (i := 11) (o := { dst := some 104, op := Op.call { callee := Callee.builtin Builtin.append, args := #[Operand.tmp 98, Operand.tmp 103], argTypes := #[25, 25] }, type := 25, pos := "outright.go:162", after := #[{ on := 5, ground := Ground.data }, { on := 10, ground := Ground.data }], guard := none }) (by kernel_rfl) rfl (by rfl) (fun K hK => ?_)
        have hbz : Below V.heap.size V (V.drew.alloc (.cells #[.int .i64 d2, .int .i64 d1, .int .i64 u0, .int .i64 u1, .int .i64 u2, .int .i64 u3, .int .i64 u4, .int .i64 u5, .int .i64 u6] 56)) := ((Below.refl V.heap.size V).drew).alloc (Nat.le_refl _) _
        have hBz := Nat.le_trans hBV hbz.size
        refine wp_append_lies _ _ _ 25 rfl B1 56 tl _ 9 72 Try.underlying25 htl htl0 htl1 htl2 rfl (by decide) (.slice sa j sc) j _ rfl (own_bel hWV hbz) ⟨V.heap.size, 0, none⟩ 1 1 (Sn.cs (⟨d2, d1, u0, u1, u2, u3, u4, u5, u6⟩ : Sn)) rfl rfl (cells_at (W := V.drew) rfl _ _) (all_one rfl) (by decide) (by unfold maxLen; omega) (by omega) hBz _ rfl ?_
        intro g9 cap9 w9 o9 hg9 hat9 hlt9
        have hrow : ∀ q, (Value.slice sa j sc).ownBlock = some q → B1 ≤ q := fun q hq => (own_lt hWV q hq).1
        have hMq := (hMV.below hbz).grown hg9 (fun q hq => by have := hrow q hq; omega)
        have hHq := has_grown (hHV.below hbz) hg9 (fun e => by have := hrow _ e; omega)
        have hOq := (hOV.below hbz).grown hg9 (fun q hq => by have := hrow q hq; omega)
        have hBq := Nat.le_trans hBz hg9.size
        obtain ⟨sQ, bQ, _, _, cQ, fQ⟩ := hMq.cells
        obtain ⟨_, hQ1, _⟩ := id hHq
        refine hK.out _ _ ⟨cQ 9, hQ1⟩ (fun hHeld => ?_)
        clear hK K
        (try simp only [Act.put, List.setIfInBounds_toArray, List.set_cons_zero, List.set_cons_succ])
        refine wpAnyE_one (i := 12) (o := { dst := some 105, op := Op.nilCheck (Operand.tmp 93), type := 0, pos := "outright.go:162", after := #[{ on := 0, ground := Ground.data }, { on := 0, ground := Ground.phase }, { on := 1, ground := Ground.phase }, { on := 2, ground := Ground.phase }, { on := 3, ground := Ground.phase }, { on := 4, ground := Ground.phase }, { on := 5, ground := Ground.phase }, { on := 6, ground := Ground.phase }, { on := 7, ground := Ground.phase }, { on := 8, ground := Ground.phase }, { on := 9, ground := Ground.phase }, { on := 10, ground := Ground.phase }, { on := 11, ground := Ground.phase }], guard := none }) (by kernel_rfl) rfl (by rfl) (fun K hK => ?_)
        go_simp
        refine hK.out _ _ hHeld (fun hHeld => ?_)
        clear hK K
        (try simp only [Act.put, List.setIfInBounds_toArray, List.set_cons_zero, List.set_cons_succ])
        refine wpAnyE_one (i := 13) (o := { dst := some 106, op := Op.fieldAddr 47 (Operand.tmp 105) 0, type := 0, pos := "outright.go:162", after := #[{ on := 12, ground := Ground.data }, { on := 0, ground := Ground.phase }, { on := 1, ground := Ground.phase }, { on := 2, ground := Ground.phase }, { on := 3, ground := Ground.phase }, { on := 4, ground := Ground.phase }, { on := 5, ground := Ground.phase }, { on := 6, ground := Ground.phase }, { on := 7, ground := Ground.phase }, { on := 8, ground := Ground.phase }, { on := 9, ground := Ground.phase }, { on := 10, ground := Ground.phase }, { on := 11, ground := Ground.phase }], guard := none }) (by kernel_rfl) rfl (by rfl) (fun K hK => ?_)
        go_simp
        refine hK.out _ _ hHeld (fun hHeld => ?_)
        clear hK K
        (try simp only [Act.put, List.setIfInBounds_toArray, List.set_cons_zero, List.set_cons_succ])
        refine wpAnyE_one (i := 14) (o := { dst := some 107, op := Op.fieldAddr 29 (Operand.tmp 106) 3, type := 0, pos := "outright.go:162", after := #[{ on := 13, ground := Ground.data }, { on := 0, ground := Ground.phase }, { on := 1, ground := Ground.phase }, { on := 2, ground := Ground.phase }, { on := 3, ground := Ground.phase }, { on := 4, ground := Ground.phase }, { on := 5, ground := Ground.phase }, { on := 6, ground := Ground.phase }, { on := 7, ground := Ground.phase }, { on := 8, ground := Ground.phase }, { on := 9, ground := Ground.phase }, { on := 10, ground := Ground.phase }, { on := 11, ground := Ground.phase }], guard := none }) (by kernel_rfl) rfl (by rfl) (fun K hK => ?_)
        go_simp
        refine hK.out _ _ hHeld (fun hHeld => ?_)
        clear hK K
        (try simp only [Act.put, List.setIfInBounds_toArray, List.set_cons_zero, List.set_cons_succ])
        refine wpAnyE_last (o := { dst := none, op := Op.store 25 (Operand.tmp 107) (Operand.tmp 104), type := 0, pos := "outright.go:162", after := #[{ on := 14, ground := Ground.data }, { on := 11, ground := Ground.data }, { on := 11, ground := Ground.chain }, { on := 0, ground := Ground.phase }, { on := 1, ground := Ground.phase }, { on := 2, ground := Ground.phase }, { on := 3, ground := Ground.phase }, { on := 4, ground := Ground.phase }, { on := 5, ground := Ground.phase }, { on := 6, ground := Ground.phase }, { on := 7, ground := Ground.phase }, { on := 8, ground := Ground.phase }, { on := 9, ground := Ground.phase }, { on := 10, ground := Ground.phase }, { on := 11, ground := Ground.phase }], guard := none }) (by kernel_rfl) rfl (by kernel_rfl) (by rfl) (fun K hK => ?_)
        go_simp
        refine hK _ _ ?_
        refine NoPanic.normal ?_
        have hM9 := hMq.put 9 (.slice (some ⟨g9, 0, none⟩) (j + 1) cap9) (⟨.string ⟨#[116, 105, 109, 101, 116, 97, 98, 108, 101]⟩, .slice da (N + 1) dcp, .int .i64 x0, .int .i64 x1, .int .i64 x2, .int .i64 x3, .int .i64 x4, .int .i64 x5, .int .i64 x6, .slice (some ⟨g9, 0, none⟩) (j + 1) cap9, .slice none 0 0, .slice none 0 0⟩ : Tv) (by decide) (fun _ _ => by simp [Tv.cs])
        have hH9 := hHq.far (c := mb) (i := 9) (by omega) (.slice (some ⟨g9, 0, none⟩) (j + 1) cap9)
        have hO9 := hOq.set (b := mb) (i := 9) (.inl rfl) (.slice (some ⟨g9, 0, none⟩) (j + 1) cap9)
        have hW9 := own_only o9 (only_of_set w9 mb 9 (.slice (some ⟨g9, 0, none⟩) (j + 1) cap9)) (fun q hq => by show ¬ q = mb; omega)
        have hB9 := Nat.le_trans hBq (only_of_set w9 mb 9 (.slice (some ⟨g9, 0, none⟩) (j + 1) cap9)).size
        have hc9 : cellsF Sn.cs (S ++ [(⟨d2, d1, u0, u1, u2, u3, u4, u5, u6⟩ : Sn)]) = cellsF Sn.cs S ++ Sn.cs (⟨d2, d1, u0, u1, u2, u3, u4, u5, u6⟩ : Sn) := by rw [cellsF_append]; simp [cellsF]
        have hl9 : (S ++ [(⟨d2, d1, u0, u1, u2, u3, u4, u5, u6⟩ : Sn)]).length = j + 1 := by have := hSl.out.1; simp [this]
        have hk9 : SnK (N + 1) (S ++ [(⟨d2, d1, u0, u1, u2, u3, u4, u5, u6⟩ : Sn)]) := hSl.out.2.snoc (by omega) (by omega) (by omega) (by omega) (by omega) hur
        clear hMq hHq hOq hBq o9 hg9 hat9 cQ fQ hQ1 hMV hHV hOV hWV hBV cV fV hV1 hV2 hbz hBz hHeld hK K
        generalize (w9.setCell ⟨mb, 9, none⟩ (.slice (some ⟨g9, 0, none⟩) (j + 1) cap9)) = W9 at *
        go_wp2_with (go_at_call 9; (with_reducible refine (line_any hM9 (by omega) _ _ (by decide) (by simp only [ByteArray.size_append, bsz, List.size_toArray, List.length_cons, List.length_nil]; omega)).mono ?_); rintro e v10 ⟨rfl, hM10, ho10⟩)
        go_roundg (gk - 1)
        case measure => go_light; omega
        case rel => exact ⟨j + 1, sv, u0, u1, u2, u3, u4, u5, u6, some ⟨g9, 0, none⟩, cap9, S ++ [(⟨d2, d1, u0, u1, u2, u3, u4, u5, u6⟩ : Sn)], by omega, by go_num, rfl, by omega, Nat.le_trans hB9 ho10.size, ⟨hl9, hk9⟩, hH9.only ho10 (by show ¬ (_ ∨ _); omega), (by show World.ownsRow _ _ _ _ _ _ _; rw [hc9]; exact own_only hW9 ho10 (fun q hq => (by show ¬ (_ ∨ _); omega))), hM10.mono (by omega), hO9.trans ho10⟩
      · have hMV : Md (((((((v3.setCell ⟨b7, 0, none⟩ (.int .i64 u0)).setCell ⟨b7, 1, none⟩ (.int .i64 u1)).setCell ⟨b7, 2, none⟩ (.int .i64 u2)).setCell ⟨b7, 3, none⟩ (.int .i64 u3)).setCell ⟨b7, 4, none⟩ (.int .i64 u4)).setCell ⟨b7, 5, none⟩ (.int .i64 u5)).setCell ⟨b7, 6, none⟩ (.int .i64 u6)) mb p L a c (⟨.string ⟨#[116, 105, 109, 101, 116, 97, 98, 108, 101]⟩, .slice da (N + 1) dcp, .int .i64 x0, .int .i64 x1, .int .i64 x2, .int .i64 x3, .int .i64 x4, .int .i64 x5, .int .i64 x6, .slice sa j sc, .slice none 0 0, .slice none 0 0⟩ : Tv) (40000 + 500 * j) := hM3.far7 (q := b7) (by omega) _ _ _ _ _ _ _
        have hHV : Has (((((((v3.setCell ⟨b7, 0, none⟩ (.int .i64 u0)).setCell ⟨b7, 1, none⟩ (.int .i64 u1)).setCell ⟨b7, 2, none⟩ (.int .i64 u2)).setCell ⟨b7, 3, none⟩ (.int .i64 u3)).setCell ⟨b7, 4, none⟩ (.int .i64 u4)).setCell ⟨b7, 5, none⟩ (.int .i64 u5)).setCell ⟨b7, 6, none⟩ (.int .i64 u6)) b7 (#[.int .i64 u0, .int .i64 u1, .int .i64 u2, .int .i64 u3, .int .i64 u4, .int .i64 u5, .int .i64 u6] : Array Value) := hH3.sev _ _ _ _ _ _ _
        have hOV : Only (MP mb p) wd (((((((v3.setCell ⟨b7, 0, none⟩ (.int .i64 u0)).setCell ⟨b7, 1, none⟩ (.int .i64 u1)).setCell ⟨b7, 2, none⟩ (.int .i64 u2)).setCell ⟨b7, 3, none⟩ (.int .i64 u3)).setCell ⟨b7, 4, none⟩ (.int .i64 u4)).setCell ⟨b7, 5, none⟩ (.int .i64 u5)).setCell ⟨b7, 6, none⟩ (.int .i64 u6)) := (((hO.out.trans (ho1.mono fun q e => .inr e)).trans (ho2.mono fun q e => .inr e)).trans (ho3.mono fun q e => .inr e)).set7 hB7 _ _ _ _ _ _ _
        have hWV : World.ownsRow (((((((v3.setCell ⟨b7, 0, none⟩ (.int .i64 u0)).setCell ⟨b7, 1, none⟩ (.int .i64 u1)).setCell ⟨b7, 2, none⟩ (.int .i64 u2)).setCell ⟨b7, 3, none⟩ (.int .i64 u3)).setCell ⟨b7, 4, none⟩ (.int .i64 u4)).setCell ⟨b7, 5, none⟩ (.int .i64 u5)).setCell ⟨b7, 6, none⟩ (.int .i64 u6)) B1 56 9 (.slice sa j sc) j (cellsF Sn.cs S) := own_only (own_only (own_only (own_only hW.out ho1 (fun q hq => by show ¬ q = p; omega)) ho2 (fun q hq => by show ¬ q = p; omega)) ho3 (fun q hq => by show ¬ q = p; omega)) (only7 v3 b7 _ _ _ _ _ _ _) (fun q hq => by show ¬ q = b7; omega)
        have hBV : B1 ≤ (World.heap (((((((v3.setCell ⟨b7, 0, none⟩ (.int .i64 u0)).setCell ⟨b7, 1, none⟩ (.int .i64 u1)).setCell ⟨b7, 2, none⟩ (.int .i64 u2)).setCell ⟨b7, 3, none⟩ (.int .i64 u3)).setCell ⟨b7, 4, none⟩ (.int .i64 u4)).setCell ⟨b7, 5, none⟩ (.int .i64 u5)).setCell ⟨b7, 6, none⟩ (.int .i64 u6))).size := Nat.le_trans (Nat.le_trans (Nat.le_trans (Nat.le_trans hBw ho1.size) ho2.size) ho3.size) (only7 v3 b7 _ _ _ _ _ _ _).size
        clear hM1 hM2 hM3 ho1 ho2 ho3 hH3 c3 f3 hM hW hH hO
        generalize (((((((v3.setCell ⟨b7, 0, none⟩ (.int .i64 u0)).setCell ⟨b7, 1, none⟩ (.int .i64 u1)).setCell ⟨b7, 2, none⟩ (.int .i64 u2)).setCell ⟨b7, 3, none⟩ (.int .i64 u3)).setCell ⟨b7, 4, none⟩ (.int .i64 u4)).setCell ⟨b7, 5, none⟩ (.int .i64 u5)).setCell ⟨b7, 6, none⟩ (.int .i64 u6)) = V at *
        obtain ⟨sV, bV, _, _, cV, fV⟩ := hMV.cells
        obtain ⟨_, hV1, hV2⟩ := id hHV
        refine wp_region_noPanic ?_
        refine wp_region_E (S := fun w' => w'.cell? ⟨mb, 9, none⟩ = some (.slice sa j sc) ∧ (∀ i, w'.cell? ⟨b7, i, none⟩ = (#[.int .i64 u0, .int .i64 u1, .int .i64 u2, .int .i64 u3, .int .i64 u4, .int .i64 u5, .int .i64 u6] : Array Value)[i]?)) (E := 15) (by kernel_rfl) ?_ (fun hHeld => ?_)
        · (try dsimp only)
          exact ⟨cV 9, hV1⟩
        refine wpAnyE_take (i := 0) (oi := { dst := some 93, op := Op.move (Operand.tmp 5), type := 42, pos := "outright.go:162", after := #[], guard := none }) (v := ?_) rfl (by kernel_rfl) (by kernel_rfl) (by kernel_rfl) (by kernel_rfl) (fun _ _ _ h => h) (Or.inl ⟨by rfl, ?_⟩) (by assumption) ?_
        rotate_left
        · intro wz hSz; (try dsimp only at hSz); go_simp; all_goals (with_reducible rfl)
        (try simp only [Act.put, List.setIfInBounds_toArray, List.set_cons_zero, List.set_cons_succ])
        refine wpAnyE_take (i := 1) (oi := { dst := some 94, op := Op.move (Operand.tmp 5), type := 42, pos := "outright.go:162", after := #[], guard := none }) (v := ?_) rfl (by kernel_rfl) (by kernel_rfl) (by kernel_rfl) (by kernel_rfl) (fun _ _ _ h => h) (Or.inl ⟨by rfl, ?_⟩) (by assumption) ?_
        rotate_left
        · intro wz hSz; (try dsimp only at hSz); go_simp; all_goals (with_reducible rfl)
        (try simp only [Act.put, List.setIfInBounds_toArray, List.set_cons_zero, List.set_cons_succ])
        refine wpAnyE_take (i := 2) (oi := { dst := some 95, op := Op.nilCheck (Operand.tmp 94), type := 0, pos := "outright.go:162", after := #[{ on := 1, ground := Ground.data }], guard := none }) (v := ?_) rfl (by kernel_rfl) (by kernel_rfl) (by kernel_rfl) (by kernel_rfl) (fun _ _ _ h => h) (Or.inl ⟨by rfl, ?_⟩) (by assumption) ?_
        rotate_left
        · intro wz hSz; (try dsimp only at hSz); go_simp; all_goals (with_reducible rfl)
        (try simp only [Act.put, List.setIfInBounds_toArray, List.set_cons_zero, List.set_cons_succ])
        refine wpAnyE_take (i := 3) (oi := { dst := some 96, op := Op.fieldAddr 47 (Operand.tmp 95) 0, type := 0, pos := "outright.go:162", after := #[{ on := 2, ground := Ground.data }], guard := none }) (v := ?_) rfl (by kernel_rfl) (by kernel_rfl) (by kernel_rfl) (by kernel_rfl) (fun _ _ _ h => h) (Or.inl ⟨by rfl, ?_⟩) (by assumption) ?_
        rotate_left
        · intro wz hSz; (try dsimp only at hSz); go_simp; all_goals (with_reducible rfl)
        (try simp only [Act.put, List.setIfInBounds_toArray, List.set_cons_zero, List.set_cons_succ])
        refine wpAnyE_take (i := 4) (oi := { dst := some 97, op := Op.fieldAddr 29 (Operand.tmp 96) 3, type := 0, pos := "outright.go:162", after := #[{ on := 3, ground := Ground.data }], guard := none }) (v := ?_) rfl (by kernel_rfl) (by kernel_rfl) (by kernel_rfl) (by kernel_rfl) (fun _ _ _ h => h) (Or.inl ⟨by rfl, ?_⟩) (by assumption) ?_
        rotate_left
        · intro wz hSz; (try dsimp only at hSz); go_simp; all_goals (with_reducible rfl)
        (try simp only [Act.put, List.setIfInBounds_toArray, List.set_cons_zero, List.set_cons_succ])
        refine wpAnyE_take (i := 5) (oi := { dst := some 98, op := Op.load 25 (Operand.tmp 97), type := 25, pos := "outright.go:162", after := #[{ on := 4, ground := Ground.data }], guard := none }) (v := ?_) rfl (by kernel_rfl) (by kernel_rfl) (by kernel_rfl) (by kernel_rfl) (fun _ _ _ h => h) (Or.inl ⟨by rfl, ?_⟩) (by assumption) ?_
        rotate_left
        · intro wz hSz; (try dsimp only at hSz); go_simp; all_goals (with_reducible rfl)
        (try simp only [Act.put, List.setIfInBounds_toArray, List.set_cons_zero, List.set_cons_succ])
        refine wpAnyE_take (i := 6) (oi := { dst := some 99, op := Op.move (Operand.tmp 10), type := 3, pos := "outright.go:162", after := #[], guard := none }) (v := ?_) rfl (by kernel_rfl) (by kernel_rfl) (by kernel_rfl) (by kernel_rfl) (fun _ _ _ h => h) (Or.inl ⟨by rfl, ?_⟩) (by assumption) ?_
        rotate_left
        · intro wz hSz; (try dsimp only at hSz); go_simp; all_goals (with_reducible rfl)
        (try simp only [Act.put, List.setIfInBounds_toArray, List.set_cons_zero, List.set_cons_succ])
        refine wpAnyE_take (i := 7) (oi := { dst := some 100, op := Op.move (Operand.tmp 12), type := 3, pos := "outright.go:162", after := #[], guard := none }) (v := ?_) rfl (by kernel_rfl) (by kernel_rfl) (by kernel_rfl) (by kernel_rfl) (fun _ _ _ h => h) (Or.inl ⟨by rfl, ?_⟩) (by assumption) ?_
        rotate_left
        · intro wz hSz; (try dsimp only at hSz); go_simp; all_goals (with_reducible rfl)
        (try simp only [Act.put, List.setIfInBounds_toArray, List.set_cons_zero, List.set_cons_succ])
        refine wpAnyE_take (i := 8) (oi := { dst := some 101, op := Op.load 24 (Operand.tmp 7), type := 24, pos := "outright.go:162", after := #[], guard := none }) (v := ?_) rfl (by kernel_rfl) (by kernel_rfl) (by kernel_rfl) (by kernel_rfl) (fun _ _ _ h => h) (Or.inl ⟨by rfl, ?_⟩) (by assumption) ?_
        rotate_left
        · intro wz hSz; (try dsimp only at hSz); go_simp; all_goals (with_reducible rfl)
        (try simp only [Act.put, List.setIfInBounds_toArray, List.set_cons_zero, List.set_cons_succ])
        refine wpAnyE_take (i := 9) (oi := { dst := some 102, op := Op.build 56 #[(0, Operand.tmp 99), (1, Operand.tmp 100), (2, Operand.tmp 101)], type := 56, pos := "outright.go:162", after := #[{ on := 6, ground := Ground.data }, { on := 7, ground := Ground.data }, { on := 8, ground := Ground.data }], guard := none }) (v := ?_) rfl (by kernel_rfl) (by kernel_rfl) (by kernel_rfl) (by kernel_rfl) (fun _ _ _ h => h) (Or.inl ⟨by rfl, ?_⟩) (by assumption) ?_
        rotate_left
        · intro wz hSz; (try dsimp only at hSz); go_simp; all_goals (with_reducible rfl)
        (try simp only [Act.put, List.setIfInBounds_toArray, List.set_cons_zero, List.set_cons_succ])
        refine wpAnyE_one (i := 10) (o := { dst := some 103, op := Op.buildSlice 25 1 #[(0, Operand.tmp 102)], type := 25, pos := "outright.go:162", after := #[{ on := 9, ground := Ground.data }], guard := none }) (by kernel_rfl) rfl (by rfl) (fun K hK => ?_)
        go_simp
        refine hK.out _ _ ?_ (fun hHeld => ?_)
        · (try dsimp only)
          obtain ⟨h1, h2⟩ := hHeld
          exact ⟨(bel1.cell (p := ⟨mb, _, none⟩) (cell_ltF h1)).trans h1, fun i => (bel1.cell (p := ⟨b7, i, none⟩) (cell_ltF ((h2 0).trans rfl))).trans (h2 i)⟩
        clear hK K
        (try simp only [Act.put, List.setIfInBounds_toArray, List.set_cons_zero, List.set_cons_succ])
        refine wpAnyE_one (i := 11) (o := { dst := some 104, op := Op.call { callee := Callee.builtin Builtin.append, args := #[Operand.tmp 98, Operand.tmp 103], argTypes := #[25, 25] }, type := 25, pos := "outright.go:162", after := #[{ on := 5, ground := Ground.data }, { on := 10, ground := Ground.data }], guard := none }) (by kernel_rfl) rfl (by rfl) (fun K hK => ?_)
        have hbz : Below V.heap.size V (V.drew.alloc (.cells #[.int .i64 d1, .int .i64 d2, .int .i64 u0, .int .i64 u1, .int .i64 u2, .int .i64 u3, .int .i64 u4, .int .i64 u5, .int .i64 u6] 56)) := ((Below.refl V.heap.size V).drew).alloc (Nat.le_refl _) _
        have hBz := Nat.le_trans hBV hbz.size
        refine wp_append_lies _ _ _ 25 rfl B1 56 tl _ 9 72 Try.underlying25 htl htl0 htl1 htl2 rfl (by decide) (.slice sa j sc) j _ rfl (own_bel hWV hbz) ⟨V.heap.size, 0, none⟩ 1 1 (Sn.cs (⟨d1, d2, u0, u1, u2, u3, u4, u5, u6⟩ : Sn)) rfl rfl (cells_at (W := V.drew) rfl _ _) (all_one rfl) (by decide) (by unfold maxLen; omega) (by omega) hBz _ rfl ?_
        intro g9 cap9 w9 o9 hg9 hat9 hlt9
        have hrow : ∀ q, (Value.slice sa j sc).ownBlock = some q → B1 ≤ q := fun q hq => (own_lt hWV q hq).1
        have hMq := (hMV.below hbz).grown hg9 (fun q hq => by have := hrow q hq; omega)
        have hHq := has_grown (hHV.below hbz) hg9 (fun e => by have := hrow _ e; omega)
        have hOq := (hOV.below hbz).grown hg9 (fun q hq => by have := hrow q hq; omega)
        have hBq := Nat.le_trans hBz hg9.size
        obtain ⟨sQ, bQ, _, _, cQ, fQ⟩ := hMq.cells
        obtain ⟨_, hQ1, _⟩ := id hHq
        refine hK.out _ _ ⟨cQ 9, hQ1⟩ (fun hHeld => ?_)
        clear hK K
        (try simp only [Act.put, List.setIfInBounds_toArray, List.set_cons_zero, List.set_cons_succ])
        refine wpAnyE_one (i := 12) (o := { dst := some 105, op := Op.nilCheck (Operand.tmp 93), type := 0, pos := "outright.go:162", after := #[{ on := 0, ground := Ground.data }, { on := 0, ground := Ground.phase }, { on := 1, ground := Ground.phase }, { on := 2, ground := Ground.phase }, { on := 3, ground := Ground.phase }, { on := 4, ground := Ground.phase }, { on := 5, ground := Ground.phase }, { on := 6, ground := Ground.phase }, { on := 7, ground := Ground.phase }, { on := 8, ground := Ground.phase }, { on := 9, ground := Ground.phase }, { on := 10, ground := Ground.phase }, { on := 11, ground := Ground.phase }], guard := none }) (by kernel_rfl) rfl (by rfl) (fun K hK => ?_)
        go_simp
        refine hK.out _ _ hHeld (fun hHeld => ?_)
        clear hK K
        (try simp only [Act.put, List.setIfInBounds_toArray, List.set_cons_zero, List.set_cons_succ])
        refine wpAnyE_one (i := 13) (o := { dst := some 106, op := Op.fieldAddr 47 (Operand.tmp 105) 0, type := 0, pos := "outright.go:162", after := #[{ on := 12, ground := Ground.data }, { on := 0, ground := Ground.phase }, { on := 1, ground := Ground.phase }, { on := 2, ground := Ground.phase }, { on := 3, ground := Ground.phase }, { on := 4, ground := Ground.phase }, { on := 5, ground := Ground.phase }, { on := 6, ground := Ground.phase }, { on := 7, ground := Ground.phase }, { on := 8, ground := Ground.phase }, { on := 9, ground := Ground.phase }, { on := 10, ground := Ground.phase }, { on := 11, ground := Ground.phase }], guard := none }) (by kernel_rfl) rfl (by rfl) (fun K hK => ?_)
        go_simp
        refine hK.out _ _ hHeld (fun hHeld => ?_)
        clear hK K
        (try simp only [Act.put, List.setIfInBounds_toArray, List.set_cons_zero, List.set_cons_succ])
        refine wpAnyE_one (i := 14) (o := { dst := some 107, op := Op.fieldAddr 29 (Operand.tmp 106) 3, type := 0, pos := "outright.go:162", after := #[{ on := 13, ground := Ground.data }, { on := 0, ground := Ground.phase }, { on := 1, ground := Ground.phase }, { on := 2, ground := Ground.phase }, { on := 3, ground := Ground.phase }, { on := 4, ground := Ground.phase }, { on := 5, ground := Ground.phase }, { on := 6, ground := Ground.phase }, { on := 7, ground := Ground.phase }, { on := 8, ground := Ground.phase }, { on := 9, ground := Ground.phase }, { on := 10, ground := Ground.phase }, { on := 11, ground := Ground.phase }], guard := none }) (by kernel_rfl) rfl (by rfl) (fun K hK => ?_)
        go_simp
        refine hK.out _ _ hHeld (fun hHeld => ?_)
        clear hK K
        (try simp only [Act.put, List.setIfInBounds_toArray, List.set_cons_zero, List.set_cons_succ])
        refine wpAnyE_last (o := { dst := none, op := Op.store 25 (Operand.tmp 107) (Operand.tmp 104), type := 0, pos := "outright.go:162", after := #[{ on := 14, ground := Ground.data }, { on := 11, ground := Ground.data }, { on := 11, ground := Ground.chain }, { on := 0, ground := Ground.phase }, { on := 1, ground := Ground.phase }, { on := 2, ground := Ground.phase }, { on := 3, ground := Ground.phase }, { on := 4, ground := Ground.phase }, { on := 5, ground := Ground.phase }, { on := 6, ground := Ground.phase }, { on := 7, ground := Ground.phase }, { on := 8, ground := Ground.phase }, { on := 9, ground := Ground.phase }, { on := 10, ground := Ground.phase }, { on := 11, ground := Ground.phase }], guard := none }) (by kernel_rfl) rfl (by kernel_rfl) (by rfl) (fun K hK => ?_)
        go_simp
        refine hK _ _ ?_
        refine NoPanic.normal ?_
        have hM9 := hMq.put 9 (.slice (some ⟨g9, 0, none⟩) (j + 1) cap9) (⟨.string ⟨#[116, 105, 109, 101, 116, 97, 98, 108, 101]⟩, .slice da (N + 1) dcp, .int .i64 x0, .int .i64 x1, .int .i64 x2, .int .i64 x3, .int .i64 x4, .int .i64 x5, .int .i64 x6, .slice (some ⟨g9, 0, none⟩) (j + 1) cap9, .slice none 0 0, .slice none 0 0⟩ : Tv) (by decide) (fun _ _ => by simp [Tv.cs])
        have hH9 := hHq.far (c := mb) (i := 9) (by omega) (.slice (some ⟨g9, 0, none⟩) (j + 1) cap9)
        have hO9 := hOq.set (b := mb) (i := 9) (.inl rfl) (.slice (some ⟨g9, 0, none⟩) (j + 1) cap9)
        have hW9 := own_only o9 (only_of_set w9 mb 9 (.slice (some ⟨g9, 0, none⟩) (j + 1) cap9)) (fun q hq => by show ¬ q = mb; omega)
        have hB9 := Nat.le_trans hBq (only_of_set w9 mb 9 (.slice (some ⟨g9, 0, none⟩) (j + 1) cap9)).size
        have hc9 : cellsF Sn.cs (S ++ [(⟨d1, d2, u0, u1, u2, u3, u4, u5, u6⟩ : Sn)]) = cellsF Sn.cs S ++ Sn.cs (⟨d1, d2, u0, u1, u2, u3, u4, u5, u6⟩ : Sn) := by rw [cellsF_append]; simp [cellsF]
        have hl9 : (S ++ [(⟨d1, d2, u0, u1, u2, u3, u4, u5, u6⟩ : Sn)]).length = j + 1 := by have := hSl.out.1; simp [this]
        have hk9 : SnK (N + 1) (S ++ [(⟨d1, d2, u0, u1, u2, u3, u4, u5, u6⟩ : Sn)]) := hSl.out.2.snoc (by omega) (by omega) (by omega) (by omega) (by omega) hur
        clear hMq hHq hOq hBq o9 hg9 hat9 cQ fQ hQ1 hMV hHV hOV hWV hBV cV fV hV1 hV2 hbz hBz hHeld hK K
        generalize (w9.setCell ⟨mb, 9, none⟩ (.slice (some ⟨g9, 0, none⟩) (j + 1) cap9)) = W9 at *
        go_wp2_with (go_at_call 9; (with_reducible refine (line_any hM9 (by omega) _ _ (by decide) (by simp only [ByteArray.size_append, bsz, List.size_toArray, List.length_cons, List.length_nil]; omega)).mono ?_); rintro e v10 ⟨rfl, hM10, ho10⟩)
        go_roundg (gk - 1)
        case measure => go_light; omega
        case rel => exact ⟨j + 1, sv, u0, u1, u2, u3, u4, u5, u6, some ⟨g9, 0, none⟩, cap9, S ++ [(⟨d1, d2, u0, u1, u2, u3, u4, u5, u6⟩ : Sn)], by omega, by go_num, rfl, by omega, Nat.le_trans hB9 ho10.size, ⟨hl9, hk9⟩, hH9.only ho10 (by show ¬ (_ ∨ _); omega), (by show World.ownsRow _ _ _ _ _ _ _; rw [hc9]; exact own_only hW9 ho10 (fun q hq => (by show ¬ (_ ∨ _); omega))), hM10.mono (by omega), hO9.trans ho10⟩
    · obtain rfl : gk = 0 := by omega
      have hpt := hM.out.ptr
      go_wp2_with (go_at_call 10; (with_reducible refine (hM.out.pick 5 (by decide) (by decide)).mono ?_); rintro e w11 ⟨⟨r, rfl, k50, k51⟩, hM11, ho11⟩; obtain ⟨k5, rfl⟩ : ∃ z : Nat, r = (z : Int) := ⟨r.toNat, by omega⟩)
      have hO11 := hO.out.trans (ho11.mono fun q e => .inr e)
      have hMh : Hid (Md w11 mb p L a c (⟨.string ⟨#[116, 105, 109, 101, 116, 97, 98, 108, 101]⟩, .slice da (N + 1) dcp, .int .i64 x0, .int .i64 x1, .int .i64 x2, .int .i64 x3, .int .i64 x4, .int .i64 x5, .int .i64 x6, .slice sa j sc, .slice none 0 0, .slice none 0 0⟩ : Tv) 42000) := hM11.mono (by omega)
      have hB2m := hM11.size
      have hB2d := hO11.size
      have hWS : Hid (w11.ownsRow B1 56 9 (.slice sa j sc) j (cellsF Sn.cs S)) := own_only hW.out ho11 (fun q hq => by show ¬ q = p; omega)
      have hO1w : Hid (Only (MP mb p) wd w11) := hO11
      have hj3 : j ≤ 3 := by omega
      clear hM hO hH hW hM11 ho11 hpt
      obtain ⟨B2, hB2e⟩ : ∃ x, x = w11.heap.size := ⟨_, rfl⟩
      rw [← hB2e] at hB2m hB2d
      have hB2' : B2 ≤ w11.heap.size := Nat.le_of_eq hB2e
      have hB2w : w11.heap.size ≤ B2 := Nat.le_of_eq hB2e.symm
      clear hB2e
      go_loopg [14] k5 (fun gk s14 wr => ∃ (i : Nat) (xa : Option Addr) (xc : Nat) (X : List Ex), i + gk ≤ k5 ∧ s14 = .int .i64 (gk : Int) ∧ B2 ≤ wr.heap.size ∧ Hid (X.length = i ∧ ExK (N + 1) X) ∧ Hid (wr.ownsRow B2 58 2 (.slice xa i xc) i (cellsF Ex.cs X)) ∧ Hid (Md wr mb p L a c (⟨.string ⟨#[116, 105, 109, 101, 116, 97, 98, 108, 101]⟩, .slice da (N + 1) dcp, .int .i64 x0, .int .i64 x1, .int .i64 x2, .int .i64 x3, .int .i64 x4, .int .i64 x5, .int .i64 x6, .slice sa j sc, .slice xa i xc, .slice none 0 0⟩ : Tv) (42000 + 500 * i)) ∧ Hid (Only (MP mb p) w11 wr))
      case atStart => exact ⟨0, none, 0, [], by omega, rfl, hB2', ⟨rfl, ExK.nil _⟩, World.ownsRow_nil _ _ _ _, hMh, Only.refl _ _⟩
      case round =>
        clear hMh hO11
        obtain ⟨wro, rfl⟩ : ∃ X, X = wr := ⟨_, rfl⟩
        obtain ⟨gko, rfl⟩ : ∃ X, X = gk := ⟨_, rfl⟩
        obtain ⟨i, xa, xc, X, hi, rfl, hBw, hXl, hW, hM, hO⟩ := hrel
        have t0 : (0 : Int) ≤ (gko : Int) := by omega
        by_cases hg : 0 < gko
        · have t2 : (0 : Int) < (gko : Int) := by omega
          go_wp2_with (first
            | (go_at_call 13; (with_reducible refine (date_made hM.out).mono ?_); rintro e v1 ⟨hq1, hM1, ho1⟩; obtain ⟨d1, q1, rfl, d10, d11, z1⟩ := hq1; have hpt1 := hM1.ptr)
            | (go_at_call 10; (with_reducible refine (hM1.pick (1 + (N : Int)) (by omega) (by omega)).mono ?_); rintro e v2 ⟨⟨r, rfl, cq0, cq1⟩, hM2, ho2⟩; obtain ⟨cq, rfl⟩ : ∃ z : Nat, r = (z : Int) := ⟨r.toNat, by omega⟩))
          have hW2 := own_only (own_only hW.out ho1 (fun q hq => by show ¬ q = p; omega)) ho2 (fun q hq => by show ¬ q = p; omega)
          have hO2 := (hO.out.trans (ho1.mono fun q e => .inr e)).trans (ho2.mono fun q e => .inr e)
          have hBq : B2 ≤ v2.heap.size := Nat.le_trans (Nat.le_trans hBw ho1.size) ho2.size
          obtain ⟨s2, b2, _, _, c2, f2⟩ := hM2.cells
          have hW2' : Hid (v2.ownsRow B2 58 2 (.slice xa i xc) i (cellsF Ex.cs X)) := hW2
          have hM2' : Hid (Md v2 mb p L a c (⟨.string ⟨#[116, 105, 109, 101, 116, 97, 98, 108, 101]⟩, .slice da (N + 1) dcp, .int .i64 x0, .int .i64 x1, .int .i64 x2, .int .i64 x3, .int .i64 x4, .int .i64 x5, .int .i64 x6, .slice sa j sc, .slice xa i xc, .slice none 0 0⟩ : Tv) (42000 + 500 * i)) := hM2
          have hO2' : Hid (Only (MP mb p) w11 v2) := hO2
          clear hM1 ho1 hpt1 ho2 hW hM hO hW2 hM2 hO2
          go_loopg [18, 19] i (fun gk s18 s19 wr => ∃ (m : Nat) (kb : Bool), m + gk = i ∧ s19 = .int .i64 (m : Int) ∧ s18 = .bool kb ∧ Hid (kb = false → ∀ x ∈ X.take m, x.day ≠ d1) ∧ v2 = wr)
          case atStart => exact ⟨0, false, by omega, rfl, rfl, (fun _ x hx => by simp at hx), rfl⟩
          case round =>
            obtain ⟨m, kb, hm, rfl, rfl, hkb, rfl⟩ := hrel
            have s0 : (0 : Int) ≤ (m : Int) := by omega
            by_cases hlt : m < i
            · have s1 : (m : Int) < (i : Int) := by omega
              obtain ⟨g, cap, e1, hc, hg1, hg2⟩ := own_block hW2'.out (by omega)
              injection e1 with e1 _ e3
              subst e1 e3
              have hmX : m < X.length := by rw [hXl.out.1]; exact hlt
              have p0 : v2.cell? ⟨g, m * 2, none⟩ = some (.int .i64 X[m].day) := own_reads hW2'.out rfl (m * 2) _ (by have := cellsF_get ex_len X m 0 hmX (by decide); rw [Nat.add_zero] at this; rw [this]; rfl)
              have hkn : kb = false → X[m].day ≠ d1 → Hid (∀ x ∈ X.take (m + 1), x.day ≠ d1) := fun h1 h2 => take_all hmX (hkb.out h1) h2
              generalize X[m].day = xd at *
              cases kb
              · go_wp2_with fail
                go_roundg (gk - 1)
                case measure => go_light; omega
                case rel => exact ⟨m + 1, _, by omega, by go_num, rfl, (fun hb => (hkn (by trivial) (by simpa using hb)).out), rfl⟩
              · go_wp2_with fail
                go_roundg (gk - 1)
                case measure => go_light; omega
                case rel => exact ⟨m + 1, _, by omega, by go_num, rfl, (fun hb => by simp at hb), rfl⟩
            · obtain rfl : m = i := by omega
              have s1 : ¬ (m : Int) < (m : Int) := by omega
              have hcn := nm_len cq (by omega)
              cases kb
              · go_wp2_with (first
                  | (at_builtin; refine wpList_append_mine _ rfl _ _ 26 rfl B2 58 tm _ 2 16 Try.underlying26 htm htm0 htm1 htm2 rfl (by decide) (.slice xa m xc) m (cellsF Ex.cs X) rfl (own_bel hW2'.out bel1) ⟨v2.heap.size, 0, none⟩ 1 1 (Ex.cs ⟨d1, (cq : Int)⟩) rfl rfl (cells_at (W := v2) rfl _ _) (all_one rfl) (by decide) (by unfold maxLen; omega) (by omega) (by have := hBq; simp; omega) ?_; intro g9 cap9 w9 o9 hg9 hat9 hkp9 hcap9; have hrow : ∀ q, (Value.slice xa m xc).ownBlock = some q → B2 ≤ q := (fun q hq => (own_lt hW2'.out q hq).1); have hMq := (hM2'.out.below bel1).grown hg9 (fun q hq => by have := hrow q hq; omega); have hOq := (hO2'.out.alloc _).grown hg9 (fun q hq => by have := hrow q hq; omega); have hBq9 : B2 ≤ w9.heap.size := (by have h1 := hg9.size; have h2 := hBq; simp at h1; omega); obtain ⟨sQ, bQ, _, _, cQ, fQ⟩ := hMq.cells; have hM9 := hMq.put 10 (.slice (some ⟨g9, 0, none⟩) (m + 1) cap9) (⟨.string ⟨#[116, 105, 109, 101, 116, 97, 98, 108, 101]⟩, .slice da (N + 1) dcp, .int .i64 x0, .int .i64 x1, .int .i64 x2, .int .i64 x3, .int .i64 x4, .int .i64 x5, .int .i64 x6, .slice sa j sc, .slice (some ⟨g9, 0, none⟩) (m + 1) cap9, .slice none 0 0⟩ : Tv) (by decide) (fun _ _ => by simp [Tv.cs]); have hO9 := hOq.set (b := mb) (i := 10) (.inl rfl) (.slice (some ⟨g9, 0, none⟩) (m + 1) cap9); have hW9 := own_only o9 (only_of_set w9 mb 10 (.slice (some ⟨g9, 0, none⟩) (m + 1) cap9)) (fun q hq => by show ¬ q = mb; omega); have hB9 := Nat.le_trans hBq9 (only_of_set w9 mb 10 (.slice (some ⟨g9, 0, none⟩) (m + 1) cap9)).size)
                  | (go_at_call 14; (with_reducible refine (name_any cq (by omega) _).mono ?_); rintro e v3 ⟨rfl, hb3⟩)
                  | (go_at_call 9; (with_reducible refine (line_any (hM9.below hb3) (by omega) _ _ (by decide) (by simp only [ByteArray.size_append, bsz, List.size_toArray, List.length_cons, List.length_nil]; omega)).mono ?_); rintro e v4 ⟨rfl, hM10, ho10⟩))
                have hc9 : cellsF Ex.cs (X ++ [(⟨d1, (cq : Int)⟩ : Ex)]) = cellsF Ex.cs X ++ Ex.cs ⟨d1, (cq : Int)⟩ := by rw [cellsF_append]; simp [cellsF]
                have hl9 : (X ++ [(⟨d1, (cq : Int)⟩ : Ex)]).length = m + 1 := by have := hXl.out.1; simp [this]
                have hx9 : ExK (N + 1) (X ++ [(⟨d1, (cq : Int)⟩ : Ex)]) := hXl.out.2.snoc (by have := hkb.out (by trivial); rw [List.take_of_length_le (by have := hXl.out.1; omega)] at this; exact this) (by omega) (by omega) (by omega) (by omega)
                go_roundg (gko - 1)
                case measure => go_light; omega
                case rel => exact ⟨m + 1, some ⟨g9, 0, none⟩, cap9, X ++ [(⟨d1, (cq : Int)⟩ : Ex)], by omega, by go_num, Nat.le_trans (Nat.le_trans hB9 hb3.size) ho10.size, ⟨hl9, hx9⟩, (by show World.ownsRow _ _ _ _ _ _ _; rw [hc9]; exact own_only (own_bel hW9 hb3) ho10 (fun q hq => (by show ¬ (_ ∨ _); omega))), hM10.mono (by omega), (hO9.below hb3).trans ho10⟩
              · go_wp2_with fail
                go_roundg (gko - 1)
                case measure => go_light; omega
                case rel => exact ⟨m, xa, xc, X, by omega, by go_num, hBq, hXl.out, hW2'.out, hM2'.out, hO2'.out⟩
        · obtain rfl : gko = 0 := by omega
          have hpt := hM.out.ptr
          go_wp2_with (go_at_call 10; (with_reducible refine (hM.out.pick 4 (by decide) (by decide)).mono ?_); rintro e w12 ⟨⟨r, rfl, k60, k61⟩, hM12, ho12⟩; obtain ⟨k6, rfl⟩ : ∃ z : Nat, r = (z : Int) := ⟨r.toNat, by omega⟩)
          have hO12 := hO.out.trans (ho12.mono fun q e => .inr e)
          have hMh : Hid (Md w12 mb p L a c (⟨.string ⟨#[116, 105, 109, 101, 116, 97, 98, 108, 101]⟩, .slice da (N + 1) dcp, .int .i64 x0, .int .i64 x1, .int .i64 x2, .int .i64 x3, .int .i64 x4, .int .i64 x5, .int .i64 x6, .slice sa j sc, .slice xa i xc, .slice none 0 0⟩ : Tv) 45000) := hM12.mono (by omega)
          have hB3m := hM12.size
          have hB3d := hO12.size
          have hWX : Hid (w12.ownsRow B2 58 2 (.slice xa i xc) i (cellsF Ex.cs X)) := own_only hW.out ho12 (fun q hq => by show ¬ q = p; omega)
          have hO2w : Hid (Only (MP mb p) w11 w12) := hO12
          have hi4 : i ≤ 4 := by omega
          clear hM hO hW hM12 ho12 hpt
          obtain ⟨B3, hB3e⟩ : ∃ x, x = w12.heap.size := ⟨_, rfl⟩
          rw [← hB3e] at hB3m hB3d
          have hB3' : B3 ≤ w12.heap.size := Nat.le_of_eq hB3e
          have hB3w : w12.heap.size ≤ B3 := Nat.le_of_eq hB3e.symm
          clear hB3e
          go_loopg [20, 21] k6 (fun gk s20 s21 wr => ∃ (l : Nat) (la : Int) (ha : Option Addr) (hc : Nat) (Q : List Sh), l + gk ≤ k6 ∧ s21 = .int .i64 (gk : Int) ∧ s20 = .int .i64 la ∧ -1 ≤ la ∧ la ≤ 300000000 ∧ B3 ≤ wr.heap.size ∧ Hid (Q.length = l ∧ ShK la Q) ∧ Hid (wr.ownsRow B3 61 2 (.slice ha l hc) l (cellsF Sh.cs Q)) ∧ Hid (Md wr mb p L a c (⟨.string ⟨#[116, 105, 109, 101, 116, 97, 98, 108, 101]⟩, .slice da (N + 1) dcp, .int .i64 x0, .int .i64 x1, .int .i64 x2, .int .i64 x3, .int .i64 x4, .int .i64 x5, .int .i64 x6, .slice sa j sc, .slice xa i xc, .slice ha l hc⟩ : Tv) (45000 + 500 * l)) ∧ Hid (Only (MP mb p) w12 wr))
          case atStart => exact ⟨0, -1, none, 0, [], by omega, rfl, rfl, by omega, by omega, hB3', ⟨rfl, ShK.nil _⟩, World.ownsRow_nil _ _ _ _, hMh, Only.refl _ _⟩
          case round =>
            clear hMh hO12
            obtain ⟨l, la, ha, hc, Q, hl, rfl, rfl, hla0, hla1, hBw, hQl, hW, hM, hO⟩ := hrel
            have t0 : (0 : Int) ≤ (gk : Int) := by omega
            by_cases hg : 0 < gk
            · have t2 : (0 : Int) < (gk : Int) := by omega
              go_wp2_with (first
                | (go_at_call 13; (with_reducible refine (date_made hM.out).mono ?_); rintro e v1 ⟨hq1, hM1, ho1⟩; obtain ⟨d1, q1, rfl, d10, d11, z1⟩ := hq1; have hpt1 := hM1.ptr)
                | (go_at_call 10; (with_reducible refine (hM1.pick 1440 (by omega) (by omega)).mono ?_); rintro e v2 ⟨⟨cm, rfl, cm0, cm1⟩, hM2, ho2⟩; have hpt2 := hM2.ptr)
                | (go_at_call 10; (with_reducible refine (hM2.pick 1561 (by omega) (by omega)).mono ?_); rintro e v3 ⟨⟨pl, rfl, pl0, pl1⟩, hM3, ho3⟩; have hW3 := own_only (own_only (own_only hW.out ho1 (fun q hq => by show ¬ q = p; omega)) ho2 (fun q hq => by show ¬ q = p; omega)) ho3 (fun q hq => by show ¬ q = p; omega); have hO3 := ((hO.out.trans (ho1.mono fun q e => .inr e)).trans (ho2.mono fun q e => .inr e)).trans (ho3.mono fun q e => .inr e); have hBq : B3 ≤ v3.heap.size := Nat.le_trans (Nat.le_trans (Nat.le_trans hBw ho1.size) ho2.size) ho3.size; obtain ⟨s3, b3, _, _, c3, f3⟩ := hM3.cells)
                | (at_builtin; refine wpList_append_mine _ rfl _ _ 27 rfl B3 61 tn _ 2 16 Try.underlying27 htn htn0 htn1 htn2 rfl (by decide) (.slice ha l hc) l (cellsF Sh.cs Q) rfl (own_bel hW3 bel1) ⟨v3.heap.size, 0, none⟩ 1 1 (Sh.cs ⟨1440 * d1 + cm, pl - 720⟩) rfl rfl (cells_at (W := v3) rfl _ _) (all_one rfl) (by decide) (by unfold maxLen; omega) (by omega) (by have := hBq; simp; omega) ?_; intro g9 cap9 w9 o9 hg9 hat9 hkp9 hcap9; have hrow : ∀ q, (Value.slice ha l hc).ownBlock = some q → B3 ≤ q := (fun q hq => (own_lt hW3 q hq).1); have hMq := (hM3.below bel1).grown hg9 (fun q hq => by have := hrow q hq; omega); have hOq := (hO3.alloc _).grown hg9 (fun q hq => by have := hrow q hq; omega); have hBq9 : B3 ≤ w9.heap.size := (by have h1 := hg9.size; have h2 := hBq; simp at h1; omega); obtain ⟨sQ, bQ, _, _, cQ, fQ⟩ := hMq.cells; have hM9 := hMq.put 11 (.slice (some ⟨g9, 0, none⟩) (l + 1) cap9) (⟨.string ⟨#[116, 105, 109, 101, 116, 97, 98, 108, 101]⟩, .slice da (N + 1) dcp, .int .i64 x0, .int .i64 x1, .int .i64 x2, .int .i64 x3, .int .i64 x4, .int .i64 x5, .int .i64 x6, .slice sa j sc, .slice xa i xc, .slice (some ⟨g9, 0, none⟩) (l + 1) cap9⟩ : Tv) (by decide) (fun _ _ => by simp [Tv.cs]); have hO9 := hOq.set (b := mb) (i := 11) (.inl rfl) (.slice (some ⟨g9, 0, none⟩) (l + 1) cap9); have hW9 := own_only o9 (only_of_set w9 mb 11 (.slice (some ⟨g9, 0, none⟩) (l + 1) cap9)) (fun q hq => by show ¬ q = mb; omega); have hB9 := Nat.le_trans hBq9 (only_of_set w9 mb 11 (.slice (some ⟨g9, 0, none⟩) (l + 1) cap9)).size)
                | (go_at_call 15; (with_reducible refine (clock_any cm _ (by omega) (by omega)).mono ?_); rintro e v4 ⟨⟨cs, rfl, zc⟩, hb4⟩)
                | (go_at_call 16; (with_reducible refine (dec_any _ _ (by omega) (by omega)).mono ?_); rintro e v5 ⟨⟨ds, rfl, zd⟩, hb5⟩)
                | (go_at_call 9; (with_reducible refine (line_any ((hM9.below hb4).below hb5) (by omega) _ _ (by decide) (by simp only [ByteArray.size_append, bsz, List.size_toArray, List.length_cons, List.length_nil]; omega)).mono ?_); rintro e v6 ⟨rfl, hM10, ho10⟩))
              · go_roundg (gk - 1)
                case measure => go_light; omega
                case rel => exact ⟨l, la, ha, hc, Q, by omega, by go_num, rfl, by omega, by omega, hBq, hQl.out, hW3, hM3, hO3⟩
              all_goals
                have hc9 : cellsF Sh.cs (Q ++ [(⟨1440 * d1 + cm, pl - 720⟩ : Sh)]) = cellsF Sh.cs Q ++ Sh.cs ⟨1440 * d1 + cm, pl - 720⟩ := by rw [cellsF_append]; simp [cellsF]
                have hl9 : (Q ++ [(⟨1440 * d1 + cm, pl - 720⟩ : Sh)]).length = l + 1 := by have := hQl.out.1; simp [this]
                have hs9 : ShK (1440 * d1 + cm) (Q ++ [(⟨1440 * d1 + cm, pl - 720⟩ : Sh)]) := hQl.out.2.snoc (by omega) (by omega) (by omega) (by omega) (by omega)
                go_roundg (gk - 1)
                case measure => go_light; omega
                case rel => exact ⟨l + 1, 1440 * d1 + cm, some ⟨g9, 0, none⟩, cap9, Q ++ [(⟨1440 * d1 + cm, pl - 720⟩ : Sh)], by omega, by go_num, rfl, by omega, by omega, Nat.le_trans (Nat.le_trans (Nat.le_trans hB9 hb4.size) hb5.size) ho10.size, ⟨hl9, hs9⟩, (by show World.ownsRow _ _ _ _ _ _ _; rw [hc9]; exact own_only (own_bel (own_bel hW9 hb4) hb5) ho10 (fun q hq => (by show ¬ (_ ∨ _); omega))), hM10.mono (by omega), ((hO9.below hb4).below hb5).trans ho10⟩
            · obtain rfl : gk = 0 := by omega
              obtain ⟨sE, bE, _, _, cE, fE⟩ := hM.out.cells
              have hOT : Only (MP mb p) wd wr := (hO1w.out.trans hO2w.out).trans hO.out
              have rS := own_only (own_only hWS.out hO2w.out (fun q hq => (by show ¬ (_ ∨ _); omega))) hO.out (fun q hq => (by show ¬ (_ ∨ _); omega))
              have rX := own_only hWX.out hO.out (fun q hq => (by show ¬ (_ ∨ _); omega))
              have rQ := hW.out
              have hl3 : l ≤ 3 := by omega
              have hRE := (hR0.only hOd (by show ¬ (_ ∨ _); omega)).only hOT (by show ¬ (_ ∨ _); omega)
              have hBE : Below w.heap.size w wr := Only.bel hB0 (hOd.trans hOT) (fun q hq => by rcases hq with h | h <;> omega) (Nat.le_refl _)
              have hDE := hD.only hOT (fun q hq => (by show ¬ (_ ∨ _); omega))
              have hRD : Has wr.drew w.heap.size #[.string ⟨#[]⟩, .slice none 0 0, .int .i64 0, .int .i64 0, .int .i64 0, .int .i64 0, .int .i64 0, .int .i64 0, .int .i64 0, .slice none 0 0, .slice none 0 0, .slice none 0 0] := hRE
              obtain ⟨r0, r1, r2⟩ := id hRD
              obtain ⟨_, r3, r4⟩ := id hRE
              (try dsimp only at cE)
              have hME : Has wr mb (#[.string ⟨#[116, 105, 109, 101, 116, 97, 98, 108, 101]⟩, .slice da (N + 1) dcp, .int .i64 x0, .int .i64 x1, .int .i64 x2, .int .i64 x3, .int .i64 x4, .int .i64 x5, .int .i64 x6, .slice sa j sc, .slice xa i xc, .slice ha l hc, .string sE, .pointer (some ⟨p, 0, none⟩), .string bE] : Array Value) := ⟨hM.out.size, cE, fE⟩
              have hl1 : ¬ (0 : Int) < ((0 : Nat) : Int) := by omega
              have hMEd : Has ((((((((((((wr.setCell ⟨w.heap.size, 0, none⟩ (.string ⟨#[116, 105, 109, 101, 116, 97, 98, 108, 101]⟩)).setCell ⟨w.heap.size, 1, none⟩ (.slice da (N + 1) dcp)).setCell ⟨w.heap.size, 2, none⟩ (.int .i64 x0)).setCell ⟨w.heap.size, 3, none⟩ (.int .i64 x1)).setCell ⟨w.heap.size, 4, none⟩ (.int .i64 x2)).setCell ⟨w.heap.size, 5, none⟩ (.int .i64 x3)).setCell ⟨w.heap.size, 6, none⟩ (.int .i64 x4)).setCell ⟨w.heap.size, 7, none⟩ (.int .i64 x5)).setCell ⟨w.heap.size, 8, none⟩ (.int .i64 x6)).setCell ⟨w.heap.size, 9, none⟩ (.slice sa j sc)).setCell ⟨w.heap.size, 10, none⟩ (.slice xa i xc)).setCell ⟨w.heap.size, 11, none⟩ (.slice ha l hc)).drew mb (#[.string ⟨#[116, 105, 109, 101, 116, 97, 98, 108, 101]⟩, .slice da (N + 1) dcp, .int .i64 x0, .int .i64 x1, .int .i64 x2, .int .i64 x3, .int .i64 x4, .int .i64 x5, .int .i64 x6, .slice sa j sc, .slice xa i xc, .slice ha l hc, .string sE, .pointer (some ⟨p, 0, none⟩), .string bE] : Array Value) := hME.far12d (by omega) (.string ⟨#[116, 105, 109, 101, 116, 97, 98, 108, 101]⟩) (.slice da (N + 1) dcp) (.int .i64 x0) (.int .i64 x1) (.int .i64 x2) (.int .i64 x3) (.int .i64 x4) (.int .i64 x5) (.int .i64 x6) (.slice sa j sc) (.slice xa i xc) (.slice ha l hc)
              have hfin : Below w.heap.size w ((((((((((((wr.setCell ⟨w.heap.size, 0, none⟩ (.string ⟨#[116, 105, 109, 101, 116, 97, 98, 108, 101]⟩)).setCell ⟨w.heap.size, 1, none⟩ (.slice da (N + 1) dcp)).setCell ⟨w.heap.size, 2, none⟩ (.int .i64 x0)).setCell ⟨w.heap.size, 3, none⟩ (.int .i64 x1)).setCell ⟨w.heap.size, 4, none⟩ (.int .i64 x2)).setCell ⟨w.heap.size, 5, none⟩ (.int .i64 x3)).setCell ⟨w.heap.size, 6, none⟩ (.int .i64 x4)).setCell ⟨w.heap.size, 7, none⟩ (.int .i64 x5)).setCell ⟨w.heap.size, 8, none⟩ (.int .i64 x6)).setCell ⟨w.heap.size, 9, none⟩ (.slice sa j sc)).setCell ⟨w.heap.size, 10, none⟩ (.slice xa i xc)).setCell ⟨w.heap.size, 11, none⟩ (.slice ha l hc)).drew := bel12d hBE (Nat.le_refl _) (.string ⟨#[116, 105, 109, 101, 116, 97, 98, 108, 101]⟩) (.slice da (N + 1) dcp) (.int .i64 x0) (.int .i64 x1) (.int .i64 x2) (.int .i64 x3) (.int .i64 x4) (.int .i64 x5) (.int .i64 x6) (.slice sa j sc) (.slice xa i xc) (.slice ha l hc)
              have hdn : Dn ((((((((((((wr.setCell ⟨w.heap.size, 0, none⟩ (.string ⟨#[116, 105, 109, 101, 116, 97, 98, 108, 101]⟩)).setCell ⟨w.heap.size, 1, none⟩ (.slice da (N + 1) dcp)).setCell ⟨w.heap.size, 2, none⟩ (.int .i64 x0)).setCell ⟨w.heap.size, 3, none⟩ (.int .i64 x1)).setCell ⟨w.heap.size, 4, none⟩ (.int .i64 x2)).setCell ⟨w.heap.size, 5, none⟩ (.int .i64 x3)).setCell ⟨w.heap.size, 6, none⟩ (.int .i64 x4)).setCell ⟨w.heap.size, 7, none⟩ (.int .i64 x5)).setCell ⟨w.heap.size, 8, none⟩ (.int .i64 x6)).setCell ⟨w.heap.size, 9, none⟩ (.slice sa j sc)).setCell ⟨w.heap.size, 10, none⟩ (.slice xa i xc)).setCell ⟨w.heap.size, 11, none⟩ (.slice ha l hc)).drew w.heap.size (.slice da (N + 1) dcp) D := hDE.d12 (by omega) (.string ⟨#[116, 105, 109, 101, 116, 97, 98, 108, 101]⟩) (.slice da (N + 1) dcp) (.int .i64 x0) (.int .i64 x1) (.int .i64 x2) (.int .i64 x3) (.int .i64 x4) (.int .i64 x5) (.int .i64 x6) (.slice sa j sc) (.slice xa i xc) (.slice ha l hc)
              have oS : World.ownsRow ((((((((((((wr.setCell ⟨w.heap.size, 0, none⟩ (.string ⟨#[116, 105, 109, 101, 116, 97, 98, 108, 101]⟩)).setCell ⟨w.heap.size, 1, none⟩ (.slice da (N + 1) dcp)).setCell ⟨w.heap.size, 2, none⟩ (.int .i64 x0)).setCell ⟨w.heap.size, 3, none⟩ (.int .i64 x1)).setCell ⟨w.heap.size, 4, none⟩ (.int .i64 x2)).setCell ⟨w.heap.size, 5, none⟩ (.int .i64 x3)).setCell ⟨w.heap.size, 6, none⟩ (.int .i64 x4)).setCell ⟨w.heap.size, 7, none⟩ (.int .i64 x5)).setCell ⟨w.heap.size, 8, none⟩ (.int .i64 x6)).setCell ⟨w.heap.size, 9, none⟩ (.slice sa j sc)).setCell ⟨w.heap.size, 10, none⟩ (.slice xa i xc)).setCell ⟨w.heap.size, 11, none⟩ (.slice ha l hc)).drew B1 56 9 (.slice sa j sc) j (cellsF Sn.cs S) := own12d rS (by omega) (.string ⟨#[116, 105, 109, 101, 116, 97, 98, 108, 101]⟩) (.slice da (N + 1) dcp) (.int .i64 x0) (.int .i64 x1) (.int .i64 x2) (.int .i64 x3) (.int .i64 x4) (.int .i64 x5) (.int .i64 x6) (.slice sa j sc) (.slice xa i xc) (.slice ha l hc)
              have oX : World.ownsRow ((((((((((((wr.setCell ⟨w.heap.size, 0, none⟩ (.string ⟨#[116, 105, 109, 101, 116, 97, 98, 108, 101]⟩)).setCell ⟨w.heap.size, 1, none⟩ (.slice da (N + 1) dcp)).setCell ⟨w.heap.size, 2, none⟩ (.int .i64 x0)).setCell ⟨w.heap.size, 3, none⟩ (.int .i64 x1)).setCell ⟨w.heap.size, 4, none⟩ (.int .i64 x2)).setCell ⟨w.heap.size, 5, none⟩ (.int .i64 x3)).setCell ⟨w.heap.size, 6, none⟩ (.int .i64 x4)).setCell ⟨w.heap.size, 7, none⟩ (.int .i64 x5)).setCell ⟨w.heap.size, 8, none⟩ (.int .i64 x6)).setCell ⟨w.heap.size, 9, none⟩ (.slice sa j sc)).setCell ⟨w.heap.size, 10, none⟩ (.slice xa i xc)).setCell ⟨w.heap.size, 11, none⟩ (.slice ha l hc)).drew B2 58 2 (.slice xa i xc) i (cellsF Ex.cs X) := own12d rX (by omega) (.string ⟨#[116, 105, 109, 101, 116, 97, 98, 108, 101]⟩) (.slice da (N + 1) dcp) (.int .i64 x0) (.int .i64 x1) (.int .i64 x2) (.int .i64 x3) (.int .i64 x4) (.int .i64 x5) (.int .i64 x6) (.slice sa j sc) (.slice xa i xc) (.slice ha l hc)
              have oQ : World.ownsRow ((((((((((((wr.setCell ⟨w.heap.size, 0, none⟩ (.string ⟨#[116, 105, 109, 101, 116, 97, 98, 108, 101]⟩)).setCell ⟨w.heap.size, 1, none⟩ (.slice da (N + 1) dcp)).setCell ⟨w.heap.size, 2, none⟩ (.int .i64 x0)).setCell ⟨w.heap.size, 3, none⟩ (.int .i64 x1)).setCell ⟨w.heap.size, 4, none⟩ (.int .i64 x2)).setCell ⟨w.heap.size, 5, none⟩ (.int .i64 x3)).setCell ⟨w.heap.size, 6, none⟩ (.int .i64 x4)).setCell ⟨w.heap.size, 7, none⟩ (.int .i64 x5)).setCell ⟨w.heap.size, 8, none⟩ (.int .i64 x6)).setCell ⟨w.heap.size, 9, none⟩ (.slice sa j sc)).setCell ⟨w.heap.size, 10, none⟩ (.slice xa i xc)).setCell ⟨w.heap.size, 11, none⟩ (.slice ha l hc)).drew B3 61 2 (.slice ha l hc) l (cellsF Sh.cs Q) := own12d rQ (by omega) (.string ⟨#[116, 105, 109, 101, 116, 97, 98, 108, 101]⟩) (.slice da (N + 1) dcp) (.int .i64 x0) (.int .i64 x1) (.int .i64 x2) (.int .i64 x3) (.int .i64 x4) (.int .i64 x5) (.int .i64 x6) (.slice sa j sc) (.slice xa i xc) (.slice ha l hc)
              have hres : Has ((((((((((((wr.setCell ⟨w.heap.size, 0, none⟩ (.string ⟨#[116, 105, 109, 101, 116, 97, 98, 108, 101]⟩)).setCell ⟨w.heap.size, 1, none⟩ (.slice da (N + 1) dcp)).setCell ⟨w.heap.size, 2, none⟩ (.int .i64 x0)).setCell ⟨w.heap.size, 3, none⟩ (.int .i64 x1)).setCell ⟨w.heap.size, 4, none⟩ (.int .i64 x2)).setCell ⟨w.heap.size, 5, none⟩ (.int .i64 x3)).setCell ⟨w.heap.size, 6, none⟩ (.int .i64 x4)).setCell ⟨w.heap.size, 7, none⟩ (.int .i64 x5)).setCell ⟨w.heap.size, 8, none⟩ (.int .i64 x6)).setCell ⟨w.heap.size, 9, none⟩ (.slice sa j sc)).setCell ⟨w.heap.size, 10, none⟩ (.slice xa i xc)).setCell ⟨w.heap.size, 11, none⟩ (.slice ha l hc)).drew w.heap.size #[.string ⟨#[116, 105, 109, 101, 116, 97, 98, 108, 101]⟩, .slice da (N + 1) dcp, .int .i64 x0, .int .i64 x1, .int .i64 x2, .int .i64 x3, .int .i64 x4, .int .i64 x5, .int .i64 x6, .slice sa j sc, .slice xa i xc, .slice ha l hc] := hRE.dzd (.string ⟨#[116, 105, 109, 101, 116, 97, 98, 108, 101]⟩) (.slice da (N + 1) dcp) (.int .i64 x0) (.int .i64 x1) (.int .i64 x2) (.int .i64 x3) (.int .i64 x4) (.int .i64 x5) (.int .i64 x6) (.slice sa j sc) (.slice xa i xc) (.slice ha l hc)
              clear hM hW hO
              go_wp2_with fail
              refine wp_region_noPanic ?_
              refine wp_region_held_drew (S := fun w' => ∀ ii, w'.cell? ⟨mb, ii, none⟩ = (#[.string ⟨#[116, 105, 109, 101, 116, 97, 98, 108, 101]⟩, .slice da (N + 1) dcp, .int .i64 x0, .int .i64 x1, .int .i64 x2, .int .i64 x3, .int .i64 x4, .int .i64 x5, .int .i64 x6, .slice sa j sc, .slice xa i xc, .slice ha l hc, .string sE, .pointer (some ⟨p, 0, none⟩), .string bE] : Array Value)[ii]?) (by kernel_rfl) ?_ (fun hHeld => ?_)
              · (try dsimp only)
                exact cE
              refine wpAnyH_take (i := 0) (oi := { dst := some 261, op := Op.move (Operand.tmp 5), type := 42, pos := "outright.go:193", after := #[], guard := none }) (v := ?_) rfl (by kernel_rfl) (by kernel_rfl) (by kernel_rfl) (fun _ _ _ h => h) (Or.inl ⟨by rfl, ?_⟩) (by assumption) ?_
              rotate_left
              · intro wz hSz; (try dsimp only at hSz); go_simp; all_goals (with_reducible rfl)
              (try simp only [Act.put, List.setIfInBounds_toArray, List.set_cons_zero, List.set_cons_succ])
              refine wpAnyH_take (i := 1) (oi := { dst := some 262, op := Op.nilCheck (Operand.tmp 261), type := 0, pos := "outright.go:193", after := #[{ on := 0, ground := Ground.data }], guard := none }) (v := ?_) rfl (by kernel_rfl) (by kernel_rfl) (by kernel_rfl) (fun _ _ _ h => h) (Or.inl ⟨by rfl, ?_⟩) (by assumption) ?_
              rotate_left
              · intro wz hSz; (try dsimp only at hSz); go_simp; all_goals (with_reducible rfl)
              (try simp only [Act.put, List.setIfInBounds_toArray, List.set_cons_zero, List.set_cons_succ])
              refine wpAnyH_take (i := 2) (oi := { dst := some 263, op := Op.fieldAddr 47 (Operand.tmp 262) 0, type := 0, pos := "outright.go:193", after := #[{ on := 1, ground := Ground.data }], guard := none }) (v := ?_) rfl (by kernel_rfl) (by kernel_rfl) (by kernel_rfl) (fun _ _ _ h => h) (Or.inl ⟨by rfl, ?_⟩) (by assumption) ?_
              rotate_left
              · intro wz hSz; (try dsimp only at hSz); go_simp; all_goals (with_reducible rfl)
              (try simp only [Act.put, List.setIfInBounds_toArray, List.set_cons_zero, List.set_cons_succ])
              refine wpAnyH_take (i := 3) (oi := { dst := some 264, op := Op.load 29 (Operand.tmp 263), type := 29, pos := "outright.go:193", after := #[{ on := 2, ground := Ground.data }], guard := none }) (v := ?_) rfl (by kernel_rfl) (by kernel_rfl) (by kernel_rfl) (fun _ _ _ h => h) (Or.inl ⟨by rfl, ?_⟩) (by assumption) ?_
              rotate_left
              · intro wz hSz; (try dsimp only at hSz); go_simp; all_goals (with_reducible rfl)
              (try simp only [Act.put, List.setIfInBounds_toArray, List.set_cons_zero, List.set_cons_succ])
              refine wpAnyH_take (i := 4) (oi := { dst := some 265, op := Op.move (Operand.tmp 5), type := 42, pos := "outright.go:193", after := #[{ on := 12, ground := Ground.gcOnly Departure.lateStores }], guard := none }) (v := ?_) rfl (by kernel_rfl) (by kernel_rfl) (by kernel_rfl) (fun _ _ _ h => h) (Or.inl ⟨by rfl, ?_⟩) (by assumption) ?_
              rotate_left
              · intro wz hSz; (try dsimp only at hSz); go_simp; all_goals (with_reducible rfl)
              (try simp only [Act.put, List.setIfInBounds_toArray, List.set_cons_zero, List.set_cons_succ])
              refine wpAnyH_take (i := 5) (oi := { dst := some 266, op := Op.nilCheck (Operand.tmp 265), type := 0, pos := "outright.go:193", after := #[{ on := 4, ground := Ground.data }, { on := 12, ground := Ground.gcOnly Departure.lateStores }], guard := none }) (v := ?_) rfl (by kernel_rfl) (by kernel_rfl) (by kernel_rfl) (fun _ _ _ h => h) (Or.inl ⟨by rfl, ?_⟩) (by assumption) ?_
              rotate_left
              · intro wz hSz; (try dsimp only at hSz); go_simp; all_goals (with_reducible rfl)
              (try simp only [Act.put, List.setIfInBounds_toArray, List.set_cons_zero, List.set_cons_succ])
              refine wpAnyH_take (i := 6) (oi := { dst := some 267, op := Op.fieldAddr 47 (Operand.tmp 266) 1, type := 0, pos := "outright.go:193", after := #[{ on := 5, ground := Ground.data }, { on := 12, ground := Ground.gcOnly Departure.lateStores }], guard := none }) (v := ?_) rfl (by kernel_rfl) (by kernel_rfl) (by kernel_rfl) (fun _ _ _ h => h) (Or.inl ⟨by rfl, ?_⟩) (by assumption) ?_
              rotate_left
              · intro wz hSz; (try dsimp only at hSz); go_simp; all_goals (with_reducible rfl)
              (try simp only [Act.put, List.setIfInBounds_toArray, List.set_cons_zero, List.set_cons_succ])
              refine wpAnyH_take (i := 7) (oi := { dst := some 268, op := Op.load 9 (Operand.tmp 267), type := 9, pos := "outright.go:193", after := #[{ on := 6, ground := Ground.data }, { on := 12, ground := Ground.gcOnly Departure.lateStores }], guard := none }) (v := ?_) rfl (by kernel_rfl) (by kernel_rfl) (by kernel_rfl) (fun _ _ _ h => h) (Or.inl ⟨by rfl, ?_⟩) (by assumption) ?_
              rotate_left
              · intro wz hSz; (try dsimp only at hSz); go_simp; all_goals (with_reducible rfl)
              (try simp only [Act.put, List.setIfInBounds_toArray, List.set_cons_zero, List.set_cons_succ])
              refine wpAnyH_take (i := 8) (oi := { dst := some 269, op := Op.move (Operand.tmp 5), type := 42, pos := "outright.go:193", after := #[{ on := 13, ground := Ground.gcOnly Departure.lateStores }], guard := none }) (v := ?_) rfl (by kernel_rfl) (by kernel_rfl) (by kernel_rfl) (fun _ _ _ h => h) (Or.inl ⟨by rfl, ?_⟩) (by assumption) ?_
              rotate_left
              · intro wz hSz; (try dsimp only at hSz); go_simp; all_goals (with_reducible rfl)
              (try simp only [Act.put, List.setIfInBounds_toArray, List.set_cons_zero, List.set_cons_succ])
              refine wpAnyH_take (i := 9) (oi := { dst := some 270, op := Op.nilCheck (Operand.tmp 269), type := 0, pos := "outright.go:193", after := #[{ on := 8, ground := Ground.data }, { on := 13, ground := Ground.gcOnly Departure.lateStores }], guard := none }) (v := ?_) rfl (by kernel_rfl) (by kernel_rfl) (by kernel_rfl) (fun _ _ _ h => h) (Or.inl ⟨by rfl, ?_⟩) (by assumption) ?_
              rotate_left
              · intro wz hSz; (try dsimp only at hSz); go_simp; all_goals (with_reducible rfl)
              (try simp only [Act.put, List.setIfInBounds_toArray, List.set_cons_zero, List.set_cons_succ])
              refine wpAnyH_take (i := 10) (oi := { dst := some 271, op := Op.fieldAddr 47 (Operand.tmp 270) 3, type := 0, pos := "outright.go:193", after := #[{ on := 9, ground := Ground.data }, { on := 13, ground := Ground.gcOnly Departure.lateStores }], guard := none }) (v := ?_) rfl (by kernel_rfl) (by kernel_rfl) (by kernel_rfl) (fun _ _ _ h => h) (Or.inl ⟨by rfl, ?_⟩) (by assumption) ?_
              rotate_left
              · intro wz hSz; (try dsimp only at hSz); go_simp; all_goals (with_reducible rfl)
              (try simp only [Act.put, List.setIfInBounds_toArray, List.set_cons_zero, List.set_cons_succ])
              refine wpAnyH_take (i := 11) (oi := { dst := some 272, op := Op.load 9 (Operand.tmp 271), type := 9, pos := "outright.go:193", after := #[{ on := 10, ground := Ground.data }, { on := 13, ground := Ground.gcOnly Departure.lateStores }], guard := none }) (v := ?_) rfl (by kernel_rfl) (by kernel_rfl) (by kernel_rfl) (fun _ _ _ h => h) (Or.inl ⟨by rfl, ?_⟩) (by assumption) ?_
              rotate_left
              · intro wz hSz; (try dsimp only at hSz); go_simp; all_goals (with_reducible rfl)
              (try simp only [Act.put, List.setIfInBounds_toArray, List.set_cons_zero, List.set_cons_succ])
              refine wpAnyH_ready (rs := [12]) (by kernel_rfl) (by simp) ?_
              refine AllReadyH.cons (o := { dst := none, op := Op.store 29 (Operand.tmp 2) (Operand.tmp 264), type := 0, pos := "outright.go:193", after := #[{ on := 3, ground := Ground.data }, { on := 0, ground := Ground.phase }, { on := 1, ground := Ground.phase }, { on := 2, ground := Ground.phase }, { on := 3, ground := Ground.phase }, { on := 4, ground := Ground.textOnly Departure.lateStores }, { on := 5, ground := Ground.textOnly Departure.lateStores }, { on := 6, ground := Ground.textOnly Departure.lateStores }, { on := 7, ground := Ground.textOnly Departure.lateStores }, { on := 8, ground := Ground.textOnly Departure.lateStores }, { on := 9, ground := Ground.textOnly Departure.lateStores }, { on := 10, ground := Ground.textOnly Departure.lateStores }, { on := 11, ground := Ground.textOnly Departure.lateStores }], guard := none }) rfl (fun K hK => ?_) AllReadyH.nil
              go_simp
              refine hK.out _ _ ?_ (fun hHeld => ?_)
              · (try dsimp only)
                exact hMEd.2.1
              clear hK K
              (try simp only [Act.put, List.setIfInBounds_toArray, List.set_cons_zero, List.set_cons_succ])
              refine wpAnyH_take (i := 13) (oi := { dst := some 3, op := Op.assign (Operand.tmp 268), type := 9, pos := "outright.go:193", after := #[{ on := 7, ground := Ground.data }, { on := 12, ground := Ground.chain }, { on := 0, ground := Ground.phase }, { on := 1, ground := Ground.phase }, { on := 2, ground := Ground.phase }, { on := 3, ground := Ground.phase }, { on := 4, ground := Ground.phase }, { on := 5, ground := Ground.phase }, { on := 6, ground := Ground.phase }, { on := 7, ground := Ground.phase }, { on := 8, ground := Ground.textOnly Departure.lateStores }, { on := 9, ground := Ground.textOnly Departure.lateStores }, { on := 10, ground := Ground.textOnly Departure.lateStores }, { on := 11, ground := Ground.textOnly Departure.lateStores }, { on := 12, ground := Ground.phase }], guard := none }) (v := ?_) rfl (by kernel_rfl) (by kernel_rfl) (by kernel_rfl) (fun _ _ _ h => h) (Or.inl ⟨by rfl, ?_⟩) (by assumption) ?_
              rotate_left
              · intro wz hSz; (try dsimp only at hSz); go_simp; all_goals (with_reducible rfl)
              (try simp only [Act.put, List.setIfInBounds_toArray, List.set_cons_zero, List.set_cons_succ])
              refine wpAnyH_take (i := 14) (oi := { dst := some 4, op := Op.assign (Operand.tmp 272), type := 9, pos := "outright.go:193", after := #[{ on := 11, ground := Ground.data }, { on := 13, ground := Ground.chain }, { on := 0, ground := Ground.phase }, { on := 1, ground := Ground.phase }, { on := 2, ground := Ground.phase }, { on := 3, ground := Ground.phase }, { on := 4, ground := Ground.phase }, { on := 5, ground := Ground.phase }, { on := 6, ground := Ground.phase }, { on := 7, ground := Ground.phase }, { on := 8, ground := Ground.phase }, { on := 9, ground := Ground.phase }, { on := 10, ground := Ground.phase }, { on := 11, ground := Ground.phase }, { on := 12, ground := Ground.phase }, { on := 13, ground := Ground.phase }], guard := none }) (v := ?_) rfl (by kernel_rfl) (by kernel_rfl) (by kernel_rfl) (fun _ _ _ h => h) (Or.inl ⟨by rfl, ?_⟩) (by assumption) ?_
              rotate_left
              · intro wz hSz; (try dsimp only at hSz); go_simp; all_goals (with_reducible rfl)
              (try simp only [Act.put, List.setIfInBounds_toArray, List.set_cons_zero, List.set_cons_succ])
              refine wpAnyH_done (by kernel_rfl) ?_ _
              refine NoPanic.normal ?_
              generalize ((((((((((((wr.setCell ⟨w.heap.size, 0, none⟩ (.string ⟨#[116, 105, 109, 101, 116, 97, 98, 108, 101]⟩)).setCell ⟨w.heap.size, 1, none⟩ (.slice da (N + 1) dcp)).setCell ⟨w.heap.size, 2, none⟩ (.int .i64 x0)).setCell ⟨w.heap.size, 3, none⟩ (.int .i64 x1)).setCell ⟨w.heap.size, 4, none⟩ (.int .i64 x2)).setCell ⟨w.heap.size, 5, none⟩ (.int .i64 x3)).setCell ⟨w.heap.size, 6, none⟩ (.int .i64 x4)).setCell ⟨w.heap.size, 7, none⟩ (.int .i64 x5)).setCell ⟨w.heap.size, 8, none⟩ (.int .i64 x6)).setCell ⟨w.heap.size, 9, none⟩ (.slice sa j sc)).setCell ⟨w.heap.size, 10, none⟩ (.slice xa i xc)).setCell ⟨w.heap.size, 11, none⟩ (.slice ha l hc)).drew = WF at *
              go_wp2_with fail
              (try simp only [Exit.inBlock, Exit.then])
              obtain ⟨_, o1, o2⟩ := id hres
              refine bodyPost_ret (v := .tuple #[.agg #[.string ⟨#[116, 105, 109, 101, 116, 97, 98, 108, 101]⟩, .slice da (N + 1) dcp, .int .i64 x0, .int .i64 x1, .int .i64 x2, .int .i64 x3, .int .i64 x4, .int .i64 x5, .int .i64 x6, .slice sa j sc, .slice xa i xc, .slice ha l hc], .string sE, .string bE]) ?_ rfl ⟨da, dcp, N + 1, D, x0, x1, x2, x3, x4, x5, x6, sa, xa, ha, j, sc, i, xc, l, hc, sE, bE, S, X, Q, rfl, hDl, by omega, by omega, (by have := hxr; omega), hdn, ⟨hSl.out.1, hXl.out.1, hQl.out.1, hj3, hi4, hl3⟩, ⟨hSl.out.2, hXl.out.2, _, hQl.out.2⟩, ⟨own_mono oS (by omega), own_mono oX (by omega), own_mono oQ (by omega)⟩, hfin⟩
              rw [results_cell_tmp2 rfl]
              go_simp



end Go.Proofs.Ytddphepgcihdbaa
