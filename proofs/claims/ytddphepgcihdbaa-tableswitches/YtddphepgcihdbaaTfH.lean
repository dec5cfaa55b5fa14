import Derived.Test.YtddphepgcihdbaaTfE
namespace Go.Proofs.Ytddphepgcihdbaa
open Go.RowKit
set_option linter.unusedVariables false
set_option linter.unusedSimpArgs false

set_option maxRecDepth 100000 in
set_option maxHeartbeats 4000000 in
theorem days_made {w : World} {mb p : Nat} {L : List Int} {a : Option Addr} {c : Nat} {T : Tv} {Z : Nat} (h : Md w mb p L a c T Z) (hTd : T.d = .slice none 0 0) (hZ : Z ≤ 100000) (n : Nat) (hn8 : n ≤ 8) :
    Calls Try.prog 11 #[.pointer (some ⟨mb, 0, none⟩), .int .i64 (n : Int)] w fun e w' => e = .returned (.tuple #[]) ∧ (∃ (da : Option Addr) (dcp : Nat) (D : List Dk), D.length = n ∧ Dn w' w.heap.size (.slice da n dcp) D ∧ Md w' mb p L a c { T with d := .slice da n dcp } (Z + 32000)) ∧ Only (MP mb p) w w' := by
  obtain ⟨ti, hti, hti0, hti1, hti2⟩ := info_parts info40
  obtain ⟨tk, htk, htk0, htk1, htk2⟩ := info_parts info38
  have hpl := h.lt
  have hml := h.size
  have hM : Hid (Md w mb p L a c T Z) := h
  have hTd' : Hid (T.d = .slice none 0 0) := hTd
  clear h hTd
  go_enter Try.func11, Try.ntmps11
  go_wp2_with fail
  go_loopg [4] n (fun gk s4 wr => ∃ (k : Nat) (da : Option Addr) (dcp : Nat) (D : List Dk), k + gk = n ∧ s4 = .int .i64 (k : Int) ∧ Hid (D.length = k) ∧ Hid (Dn wr w.heap.size (.slice da k dcp) D) ∧ Hid (Md wr mb p L a c { T with d := .slice da k dcp } (Z + 4000 * k)) ∧ Hid (Only (MP mb p) w wr))
  case atStart => exact ⟨0, none, 0, [], by omega, rfl, rfl, Dn.nil _ _, (by show Md _ _ _ _ _ _ _ _; have e : ({ T with d := .slice none 0 0 } : Tv) = T := (by rw [← hTd'.out]); have := hM.out; rw [e]; exact this.mono (by omega)), Only.refl _ _⟩
  case round =>
    clear hM hTd'
    obtain ⟨wro, rfl⟩ : ∃ X, X = wr := ⟨_, rfl⟩
    obtain ⟨gko, rfl⟩ : ∃ X, X = gk := ⟨_, rfl⟩
    obtain ⟨k, da, dcp, D, hk, rfl, hDl, hD, hM, hO⟩ := hrel
    by_cases hlt : k < n
    · have t1 : (k : Int) < (n : Int) := by omega
      have hsw : mb < wro.heap.size := hM.out.size
      have hnl := nm_len k (by omega)
      go_wp2_with (first
        | (go_at_call 14; (with_reducible refine (name_any k (by omega) wro).mono ?_); rintro e w1 ⟨rfl, hb1⟩; have hM1 := hM.out.below hb1)
        | (go_at_call 14; (with_reducible refine (name_any k (by omega) (w1.alloc _)).mono ?_); rintro e w2 ⟨rfl, hb2⟩)
        | (go_at_call 9; (with_reducible refine (line_any ((hM1.below bel1).below hb2) (by omega) _ _ (by decide) (by simp only [ByteArray.size_append, bsz, List.size_toArray, List.length_cons, List.length_nil]; omega)).mono ?_); rintro e w3 ⟨rfl, hM3, ho3⟩; have hpt3 := hM3.ptr)
        | (go_at_call 10; (with_reducible refine (hM3.pick 700 (by decide) (by decide)).mono ?_); rintro e w4 ⟨⟨z0, rfl, z00, z01⟩, hM4, ho4⟩; have hpt4 := hM4.ptr)
        | (go_at_call 10; (with_reducible refine (hM4.pick 6 (by decide) (by decide)).mono ?_); rintro e w5 ⟨⟨r0, rfl, r00, r01⟩, hM5, ho5⟩; obtain ⟨r0, rfl⟩ : ∃ z : Nat, r0 = (z : Int) := ⟨r0.toNat, by omega⟩))
      have hb5 : wro.heap.size ≤ w1.heap.size := hb1.size
      have hH5 := ((((Has.new w1 #[.string (nmF k), .slice none 0 0] 72 rfl).below hb2).only ho3 (by show ¬ (_ ∨ _); omega)).only ho4 (by show ¬ _ = p; omega)).only ho5 (by show ¬ _ = p; omega)
      have hO5 : Only (MP mb p) wro w5 := (((((Only.of_below hb1).alloc _).below hb2).trans ho3).trans (ho4.mono fun q e => .inr e)).trans (ho5.mono fun q e => .inr e)
      clear hM1 hM3 ho3 hpt3 hM4 ho4 hpt4 ho5 hb1 hb2
      generalize w1.heap.size = b5 at *
      go_loopg [6, 7] (r0 + 1) (fun gk s6 s7 wr => ∃ (j : Nat) (z : Int) (R : List Rw) (va : Option Addr) (vc : Nat), j + gk = r0 + 1 ∧ s7 = .int .i64 (gk : Int) ∧ s6 = .int .i64 z ∧ 0 ≤ z ∧ z ≤ 700 + 501 * (j : Int) ∧ (z ≤ 699 ∨ 0 < j) ∧ Hid (R.length = j) ∧ Hid (roB z R) ∧ Hid (Has wr b5 #[.string (nmF k), .slice va j vc]) ∧ Hid (wr.ownsRow (b5 + 1) 74 2 (.slice va j vc) j (cellsF Rw.cs R)) ∧ Hid (Md wr mb p L a c { T with d := .slice da k dcp } (Z + 4000 * k + 500 + 500 * j)) ∧ Hid (Only (MP mb p) wro wr))
      case atStart => exact ⟨0, z0, [], none, 0, by omega, (by congr 1; omega), rfl, by omega, by omega, .inl (by omega), rfl, roB.nil _, hH5, World.ownsRow_nil _ _ _ _, hM5.mono (by omega), hO5⟩
      case round =>
        clear hM5 hH5 hO5
        obtain ⟨j, z, R, va, vc, hj, rfl, rfl, hz0, hz1, hzj, hRl, hRo, hH, hW, hM5, hO5⟩ := hrel
        have hpt := hM5.out.ptr
        have t0 : (0 : Int) ≤ (gk : Int) := by omega
        by_cases hg : 0 < gk
        · have t2 : (0 : Int) < (gk : Int) := by omega
          by_cases hz : z < 1440
          · go_wp2_with (first
              | (go_at_call 10; (with_reducible refine (hM5.out.pick 9 (by decide) (by decide)).mono ?_); rintro e w6 ⟨⟨r, rfl, rr0, rr1⟩, hM6, ho6⟩; have hH6 := hH.out.only ho6 (by show ¬ _ = p; omega); have hW6 := own_only hW.out ho6 (fun q hq => by show ¬ q = p; omega); have hO6 := hO5.out.trans (ho6.mono fun q e => .inr e); have hs6 : b5 < w6.heap.size := hH6.1)
              | (go_at_call 15; (with_reducible refine (clock_any z _ (by omega) (by omega)).mono ?_); rintro e w7 ⟨⟨cs, rfl, zc⟩, hb7⟩)
              | (go_at_call 9; (with_reducible refine (line_any ((hM6.below bel1).below hb7) (by omega) _ _ (by decide) (by simp only [ByteArray.size_append, bsz, List.size_toArray, List.length_cons, List.length_nil]; omega)).mono ?_); rintro e w8 ⟨rfl, hM8, ho8⟩; have hX8 := ((Has.new w6 #[.int .i64 z, .int .i64 (r - 1)] 74 rfl).below hb7).only ho8 (by show ¬ (_ ∨ _); omega); have hH8 := ((hH6.alloc _).below hb7).only ho8 (by show ¬ (_ ∨ _); omega); have hW8 := own_only (own_bel (own_bel hW6 bel1) hb7) ho8 (fun q hq => (by show ¬ (_ ∨ _); omega)); have hO8 := ((hO6.alloc _).below hb7).trans ho8; obtain ⟨_, x81, _⟩ := id hX8; obtain ⟨_, h81, h82⟩ := id hH8)
              | (at_builtin; refine wpList_append_mine _ rfl _ _ 70 rfl (b5 + 1) 74 ti _ 2 16 Try.underlying70 hti hti0 hti1 hti2 rfl (by decide) (.slice va j vc) j (cellsF Rw.cs R) rfl (own_bel hW8 bel1) ⟨w8.heap.size, 0, none⟩ 1 1 (Rw.cs ⟨z, r - 1⟩) rfl rfl (cells_at (W := w8) rfl _ _) (all_one rfl) (by decide) (by unfold maxLen; omega) (by omega) (by have := hH8.1; simp; omega) ?_; intro g9 cap9 w9 o9 hg9 hat9 hkp9 hcap9; have hrow : ∀ q, (Value.slice va j vc).ownBlock = some q → b5 < q := (fun q hq => by have := (own_lt hW8 q hq).1; omega); have hM9 := (hM8.below bel1).grown hg9 (fun q hq => by have := hrow q hq; omega); have hH9 := has_grown (hH8.alloc _) hg9 (fun e => by have := hrow _ e; omega); have hO9 := (hO8.alloc _).grown hg9 (fun q hq => by have := hrow q hq; omega); obtain ⟨_, h91, h92⟩ := id hH9; have hpt9 := hM9.ptr)
              | (go_at_call 10; (with_reducible refine ((hM9.far (q := b5) (i := 1) (by omega) (.slice (some ⟨g9, 0, none⟩) (j + 1) cap9)).pick 500 (by decide) (by decide)).mono ?_); rintro e w10 ⟨⟨q5, rfl, q50, q51⟩, hM10, ho10⟩))
            · have hH10 := (hH9.set 1 (by simp) (.slice (some ⟨g9, 0, none⟩) (j + 1) cap9)).only ho10 (by show ¬ _ = p; omega)
              simp only [List.setIfInBounds_toArray, List.set_cons_succ, List.set_cons_zero] at hH10
              have hW10 := own_only (own_only o9 (only_of_set w9 b5 1 (.slice (some ⟨g9, 0, none⟩) (j + 1) cap9)) (fun q hq => by show ¬ q = b5; omega)) ho10 (fun q hq => by show ¬ q = p; omega)
              have hO10 := (hO9.set_new (b := b5) (i := 1) hb5 (.slice (some ⟨g9, 0, none⟩) (j + 1) cap9)).trans (ho10.mono fun q e => .inr e)
              have hc10 : cellsF Rw.cs (R ++ [⟨z, r - 1⟩]) = cellsF Rw.cs R ++ Rw.cs ⟨z, r - 1⟩ := by rw [cellsF_append]; simp [cellsF]
              have hl10 : (R ++ [(⟨z, r - 1⟩ : Rw)]).length = j + 1 := by have := hRl.out; simp [this]
              go_roundg (gk - 1)
              case measure => go_light; omega
              case rel => exact ⟨j + 1, z + 1 + q5, R ++ [(⟨z, r - 1⟩ : Rw)], some ⟨g9, 0, none⟩, cap9, by omega, by go_num, rfl, by omega, by omega, .inr (by omega), hl10, hRo.out.snoc (by omega) (by omega) (by omega) (by omega) (by omega), hH10, (by show World.ownsRow _ _ _ _ _ _ _; rw [hc10]; exact hW10), hM10.mono (by omega), hO10⟩
            · have hX6 : Has (w6.alloc (.cells #[.int .i64 z, .int .i64 (r - 1)] 74)) w6.heap.size #[.int .i64 z, .int .i64 (r - 1)] := Has.new w6 _ 74 rfl
              have hMY := hM6.below (bel1 (w := w6) (o := .cells #[.int .i64 z, .int .i64 (r - 1)] 74))
              have hHY := hH6.alloc (.cells #[.int .i64 z, .int .i64 (r - 1)] 74)
              have hWY := own_bel hW6 (bel1 (w := w6) (o := .cells #[.int .i64 z, .int .i64 (r - 1)] 74))
              have hOY := hO6.alloc (.cells #[.int .i64 z, .int .i64 (r - 1)] 74)
              clear hM6 hH6 hW6 hO6 ho6 hM5 hH hW hO5
              generalize w6.alloc (.cells #[.int .i64 z, .int .i64 (r - 1)] 74) = Y at *
              generalize w6.heap.size = b8 at *
              refine wp_region_noPanic ?_
              refine wp_region_held_drew (S := fun w' => w'.cell? ⟨b8, 1, none⟩ = some (.int .i64 (r - 1)) ∧ Hid (Only (MP mb p) Y w')) (by kernel_rfl) ?_ (fun hHeld => ?_)
              · (try dsimp only)
                exact ⟨hX6.2.1 1, Only.of_below ((Below.refl _ _).drew)⟩
              refine wpAnyH_take (i := 0) (oi := { dst := some 58, op := Op.move (Operand.tmp 0), type := 42, pos := "outright.go:136", after := #[], guard := none }) (v := ?_) rfl (by kernel_rfl) (by kernel_rfl) (by kernel_rfl) (fun _ _ _ h => h) (Or.inl ⟨by rfl, ?_⟩) (by assumption) ?_
              rotate_left
              · intro wz hSz; (try dsimp only at hSz); go_simp; all_goals (with_reducible rfl)
              (try simp only [Act.put, List.setIfInBounds_toArray, List.set_cons_zero, List.set_cons_succ])
              refine wpAnyH_take (i := 1) (oi := { dst := some 59, op := Op.move (Operand.tmp 6), type := 3, pos := "outright.go:136", after := #[], guard := none }) (v := ?_) rfl (by kernel_rfl) (by kernel_rfl) (by kernel_rfl) (fun _ _ _ h => h) (Or.inl ⟨by rfl, ?_⟩) (by assumption) ?_
              rotate_left
              · intro wz hSz; (try dsimp only at hSz); go_simp; all_goals (with_reducible rfl)
              (try simp only [Act.put, List.setIfInBounds_toArray, List.set_cons_zero, List.set_cons_succ])
              refine wpAnyH_take (i := 5) (oi := { dst := some 63, op := Op.fieldAddr 74 (Operand.tmp 8) 1, type := 0, pos := "outright.go:136", after := #[], guard := none }) (v := ?_) rfl (by kernel_rfl) (by kernel_rfl) (by kernel_rfl) (fun _ _ _ h => h) (Or.inl ⟨by rfl, ?_⟩) (by assumption) ?_
              rotate_left
              · intro wz hSz; (try dsimp only at hSz); go_simp; all_goals (with_reducible rfl)
              (try simp only [Act.put, List.setIfInBounds_toArray, List.set_cons_zero, List.set_cons_succ])
              refine wpAnyH_take (i := 6) (oi := { dst := some 64, op := Op.load 3 (Operand.tmp 63), type := 3, pos := "outright.go:136", after := #[{ on := 5, ground := Ground.data }], guard := none }) (v := ?_) rfl (by kernel_rfl) (by kernel_rfl) (by kernel_rfl) (fun _ _ _ h => h) (Or.inl ⟨by rfl, ?_⟩) (by assumption) ?_
              rotate_left
              · intro wz hSz; (try dsimp only at hSz); go_simp; all_goals (with_reducible rfl)
              (try simp only [Act.put, List.setIfInBounds_toArray, List.set_cons_zero, List.set_cons_succ])
              refine wpAnyH_ready (rs := [2]) (by kernel_rfl) (by simp) ?_
              refine AllReadyH.cons (o := { dst := some 60, op := Op.call { callee := Callee.value (Operand.func 15), args := #[Operand.tmp 59], argTypes := #[3] }, type := 9, pos := "outright.go:136", after := #[{ on := 1, ground := Ground.data }], guard := none }) rfl (fun K hK => ?_) AllReadyH.nil
              go_simp
              go_at_call 15
              (with_reducible refine (clock_any z _ (by omega) (by omega)).mono ?_)
              rintro e w7 ⟨⟨cs, rfl, zc⟩, hb7⟩
              go_wp2_with fail
              refine hK.out _ _ ?_ (fun hHeld => ?_)
              · (try dsimp only)
                exact ⟨(hb7.cell (p := ⟨b8, 1, none⟩) (cell_ltF hHeld.1)).trans hHeld.1, hHeld.2.out.below hb7⟩
              clear hK K
              (try simp only [Act.put, List.setIfInBounds_toArray, List.set_cons_zero, List.set_cons_succ])
              refine wpAnyH_take (i := 3) (oi := { dst := some 61, op := Op.binOp BinOp.add 9 (Operand.const (Value.string { data := #[97, 116, 32] })) (Operand.tmp 60) 9, type := 9, pos := "outright.go:136", after := #[{ on := 2, ground := Ground.data }], guard := none }) (v := ?_) rfl (by kernel_rfl) (by kernel_rfl) (by kernel_rfl) (fun _ _ _ h => h) (Or.inl ⟨by rfl, ?_⟩) (by assumption) ?_
              rotate_left
              · intro wz hSz; (try dsimp only at hSz); go_simp; all_goals (with_reducible rfl)
              (try simp only [Act.put, List.setIfInBounds_toArray, List.set_cons_zero, List.set_cons_succ])
              refine wpAnyH_take (i := 4) (oi := { dst := some 62, op := Op.binOp BinOp.add 9 (Operand.tmp 61) (Operand.const (Value.string { data := #[32, 115, 108, 111, 116, 32] })) 9, type := 9, pos := "outright.go:136", after := #[{ on := 3, ground := Ground.data }], guard := none }) (v := ?_) rfl (by kernel_rfl) (by kernel_rfl) (by kernel_rfl) (fun _ _ _ h => h) (Or.inl ⟨by rfl, ?_⟩) (by assumption) ?_
              rotate_left
              · intro wz hSz; (try dsimp only at hSz); go_simp; all_goals (with_reducible rfl)
              (try simp only [Act.put, List.setIfInBounds_toArray, List.set_cons_zero, List.set_cons_succ])
              refine wpAnyH_ready (rs := [7]) (by kernel_rfl) (by simp) ?_
              refine AllReadyH.cons (o := { dst := some 65, op := Op.call { callee := Callee.value (Operand.func 16), args := #[Operand.tmp 64], argTypes := #[3] }, type := 9, pos := "outright.go:136", after := #[{ on := 6, ground := Ground.data }, { on := 2, ground := Ground.chain }], guard := none }) rfl (fun K hK => ?_) AllReadyH.nil
              go_simp
              go_at_call 16
              (with_reducible refine (dec_any (r - 1) _ (by omega) (by omega)).mono ?_)
              rintro e w7b ⟨⟨ds, rfl, zd⟩, hb7b⟩
              have g1 : ¬ 9223372036854775807 < 14 + ds.size := by omega
              go_wp2_with fail
              refine hK.out _ _ ?_ (fun hHeld => ?_)
              · (try dsimp only)
                exact ⟨(hb7b.cell (p := ⟨b8, 1, none⟩) (cell_ltF hHeld.1)).trans hHeld.1, hHeld.2.out.below hb7b⟩
              clear hK K
              (try simp only [Act.put, List.setIfInBounds_toArray, List.set_cons_zero, List.set_cons_succ])
              refine wpAnyH_take (i := 8) (oi := { dst := some 66, op := Op.binOp BinOp.add 9 (Operand.tmp 62) (Operand.tmp 65) 9, type := 9, pos := "outright.go:136", after := #[{ on := 4, ground := Ground.data }, { on := 7, ground := Ground.data }], guard := none }) (v := ?_) rfl (by kernel_rfl) (by kernel_rfl) (by kernel_rfl) (fun _ _ _ h => h) (Or.inl ⟨by rfl, ?_⟩) (by assumption) ?_
              rotate_left
              · intro wz hSz; (try dsimp only at hSz); go_simp; all_goals (with_reducible rfl)
              (try simp only [Act.put, List.setIfInBounds_toArray, List.set_cons_zero, List.set_cons_succ])
              refine wpAnyH_ready (rs := [9]) (by kernel_rfl) (by simp) ?_
              refine AllReadyH.cons (o := { dst := some 67, op := Op.call { callee := Callee.value (Operand.func 9), args := #[Operand.tmp 58, Operand.const (Value.string { data := #[32, 32] }), Operand.tmp 66], argTypes := #[42, 9, 9] }, type := 0, pos := "outright.go:136", after := #[{ on := 0, ground := Ground.data }, { on := 8, ground := Ground.data }, { on := 7, ground := Ground.chain }], guard := none }) rfl (fun K hK => ?_) AllReadyH.nil
              go_simp
              go_at_call 9
              (with_reducible refine (line_any (((hMY.below ((Below.refl _ _).drew)).below hb7).below hb7b) (by omega) _ _ (by decide) (by simp only [ByteArray.size_append, bsz, List.size_toArray, List.length_cons, List.length_nil]; omega)).mono ?_)
              rintro e w8 ⟨rfl, hM8, ho8⟩
              go_wp2_with fail
              refine hK.out _ _ ?_ (fun hHeld => ?_)
              · (try dsimp only)
                exact ⟨(ho8.cell (p := ⟨b8, 1, none⟩) (cell_ltF hHeld.1) (by show ¬ (b8 = mb ∨ b8 = p); omega)).trans hHeld.1, hHeld.2.out.trans ho8⟩
              clear hK K
              (try simp only [Act.put, List.setIfInBounds_toArray, List.set_cons_zero, List.set_cons_succ])
              refine wpAnyH_done (by kernel_rfl) ?_ _
              refine NoPanic.normal ?_
              obtain ⟨_, hOY8⟩ := hHeld
              have hX8 := hX6.only hOY8.out (by show ¬ (_ ∨ _); omega)
              have hH8 := hHY.only hOY8.out (by show ¬ (_ ∨ _); omega)
              have hW8 := own_only hWY hOY8.out (fun q hq => (by show ¬ (_ ∨ _); omega))
              have hO8 := hOY.trans hOY8.out
              obtain ⟨_, x81, _⟩ := id hX8
              obtain ⟨_, h81, h82⟩ := id hH8
              clear hMY hHY hWY hOY hX6 hOY8 hb7 hb7b ho8
              go_wp2_with (first
                | (at_builtin; refine wpList_append_mine _ rfl _ _ 70 rfl (b5 + 1) 74 ti _ 2 16 Try.underlying70 hti hti0 hti1 hti2 rfl (by decide) (.slice va j vc) j (cellsF Rw.cs R) rfl (own_bel hW8 bel1) ⟨w8.heap.size, 0, none⟩ 1 1 (Rw.cs ⟨z, r - 1⟩) rfl rfl (cells_at (W := w8) rfl _ _) (all_one rfl) (by decide) (by unfold maxLen; omega) (by omega) (by have := hH8.1; simp; omega) ?_; intro g9 cap9 w9 o9 hg9 hat9 hkp9 hcap9; have hrow : ∀ q, (Value.slice va j vc).ownBlock = some q → b5 < q := (fun q hq => by have := (own_lt hW8 q hq).1; omega); have hM9 := (hM8.below bel1).grown hg9 (fun q hq => by have := hrow q hq; omega); have hH9 := has_grown (hH8.alloc _) hg9 (fun e => by have := hrow _ e; omega); have hO9 := (hO8.alloc _).grown hg9 (fun q hq => by have := hrow q hq; omega); obtain ⟨_, h91, h92⟩ := id hH9; have hpt9 := hM9.ptr)
                | (go_at_call 10; (with_reducible refine ((hM9.far (q := b5) (i := 1) (by omega) (.slice (some ⟨g9, 0, none⟩) (j + 1) cap9)).pick 500 (by decide) (by decide)).mono ?_); rintro e w10 ⟨⟨q5, rfl, q50, q51⟩, hM10, ho10⟩))
              have hH10 := (hH9.set 1 (by simp) (.slice (some ⟨g9, 0, none⟩) (j + 1) cap9)).only ho10 (by show ¬ _ = p; omega)
              simp only [List.setIfInBounds_toArray, List.set_cons_succ, List.set_cons_zero] at hH10
              have hW10 := own_only (own_only o9 (only_of_set w9 b5 1 (.slice (some ⟨g9, 0, none⟩) (j + 1) cap9)) (fun q hq => by show ¬ q = b5; omega)) ho10 (fun q hq => by show ¬ q = p; omega)
              have hO10 := (hO9.set_new (b := b5) (i := 1) hb5 (.slice (some ⟨g9, 0, none⟩) (j + 1) cap9)).trans (ho10.mono fun q e => .inr e)
              have hc10 : cellsF Rw.cs (R ++ [⟨z, r - 1⟩]) = cellsF Rw.cs R ++ Rw.cs ⟨z, r - 1⟩ := by rw [cellsF_append]; simp [cellsF]
              have hl10 : (R ++ [(⟨z, r - 1⟩ : Rw)]).length = j + 1 := by have := hRl.out; simp [this]
              go_roundg (gk - 1)
              case measure => go_light; omega
              case rel => exact ⟨j + 1, z + 1 + q5, R ++ [(⟨z, r - 1⟩ : Rw)], some ⟨g9, 0, none⟩, cap9, by omega, by go_num, rfl, by omega, by omega, .inr (by omega), hl10, hRo.out.snoc (by omega) (by omega) (by omega) (by omega) (by omega), hH10, (by show World.ownsRow _ _ _ _ _ _ _; rw [hc10]; exact hW10), hM10.mono (by omega), hO10⟩
          · have t3 : (1440 : Int) ≤ z := by omega
            clear hz
            have hj0 : 0 < j := by omega
            go_wp2_with fail
            obtain ⟨dd1, dd2⟩ := hM5.out.day
            dsimp only at dd1
            obtain ⟨_, hh1, hh2⟩ := id hH.out
            refine wp_region_noPanic ?_
            refine wp_region_E (S := fun w' => w'.cell? ⟨mb, 1, none⟩ = some (.slice da k dcp) ∧ w'.cell? ⟨b5, 0, none⟩ = some (.string (nmF k)) ∧ w'.cell? ⟨b5, 1, none⟩ = some (.slice va j vc)) (E := 12) (by kernel_rfl) ?_ (fun hHeld => ?_)
            · (try dsimp only)
              exact ⟨dd1, hh1 0, hh1 1⟩
            refine wpAnyE_take (i := 0) (oi := { dst := some 82, op := Op.move (Operand.tmp 0), type := 42, pos := "outright.go:141", after := #[], guard := none }) (v := ?_) rfl (by kernel_rfl) (by kernel_rfl) (by kernel_rfl) (by kernel_rfl) (fun _ _ _ h => h) (Or.inl ⟨by rfl, ?_⟩) (by assumption) ?_
            rotate_left
            · intro wz hSz; (try dsimp only at hSz); go_simp; all_goals (with_reducible rfl)
            (try simp only [Act.put, List.setIfInBounds_toArray, List.set_cons_zero, List.set_cons_succ])
            refine wpAnyE_take (i := 1) (oi := { dst := some 83, op := Op.move (Operand.tmp 0), type := 42, pos := "outright.go:141", after := #[], guard := none }) (v := ?_) rfl (by kernel_rfl) (by kernel_rfl) (by kernel_rfl) (by kernel_rfl) (fun _ _ _ h => h) (Or.inl ⟨by rfl, ?_⟩) (by assumption) ?_
            rotate_left
            · intro wz hSz; (try dsimp only at hSz); go_simp; all_goals (with_reducible rfl)
            (try simp only [Act.put, List.setIfInBounds_toArray, List.set_cons_zero, List.set_cons_succ])
            refine wpAnyE_take (i := 2) (oi := { dst := some 84, op := Op.nilCheck (Operand.tmp 83), type := 0, pos := "outright.go:141", after := #[{ on := 1, ground := Ground.data }], guard := none }) (v := ?_) rfl (by kernel_rfl) (by kernel_rfl) (by kernel_rfl) (by kernel_rfl) (fun _ _ _ h => h) (Or.inl ⟨by rfl, ?_⟩) (by assumption) ?_
            rotate_left
            · intro wz hSz; (try dsimp only at hSz); go_simp; all_goals (with_reducible rfl)
            (try simp only [Act.put, List.setIfInBounds_toArray, List.set_cons_zero, List.set_cons_succ])
            refine wpAnyE_take (i := 3) (oi := { dst := some 85, op := Op.fieldAddr 47 (Operand.tmp 84) 0, type := 0, pos := "outright.go:141", after := #[{ on := 2, ground := Ground.data }], guard := none }) (v := ?_) rfl (by kernel_rfl) (by kernel_rfl) (by kernel_rfl) (by kernel_rfl) (fun _ _ _ h => h) (Or.inl ⟨by rfl, ?_⟩) (by assumption) ?_
            rotate_left
            · intro wz hSz; (try dsimp only at hSz); go_simp; all_goals (with_reducible rfl)
            (try simp only [Act.put, List.setIfInBounds_toArray, List.set_cons_zero, List.set_cons_succ])
            refine wpAnyE_take (i := 4) (oi := { dst := some 86, op := Op.fieldAddr 29 (Operand.tmp 85) 1, type := 0, pos := "outright.go:141", after := #[{ on := 3, ground := Ground.data }], guard := none }) (v := ?_) rfl (by kernel_rfl) (by kernel_rfl) (by kernel_rfl) (by kernel_rfl) (fun _ _ _ h => h) (Or.inl ⟨by rfl, ?_⟩) (by assumption) ?_
            rotate_left
            · intro wz hSz; (try dsimp only at hSz); go_simp; all_goals (with_reducible rfl)
            (try simp only [Act.put, List.setIfInBounds_toArray, List.set_cons_zero, List.set_cons_succ])
            refine wpAnyE_take (i := 5) (oi := { dst := some 87, op := Op.load 23 (Operand.tmp 86), type := 23, pos := "outright.go:141", after := #[{ on := 4, ground := Ground.data }], guard := none }) (v := ?_) rfl (by kernel_rfl) (by kernel_rfl) (by kernel_rfl) (by kernel_rfl) (fun _ _ _ h => h) (Or.inl ⟨by rfl, ?_⟩) (by assumption) ?_
            rotate_left
            · intro wz hSz; (try dsimp only at hSz); go_simp; all_goals (with_reducible rfl)
            (try simp only [Act.put, List.setIfInBounds_toArray, List.set_cons_zero, List.set_cons_succ])
            refine wpAnyE_take (i := 6) (oi := { dst := some 88, op := Op.load 72 (Operand.tmp 5), type := 72, pos := "outright.go:141", after := #[], guard := none }) (v := ?_) rfl (by kernel_rfl) (by kernel_rfl) (by kernel_rfl) (by kernel_rfl) (fun _ _ _ h => h) (Or.inl ⟨by rfl, ?_⟩) (by assumption) ?_
            rotate_left
            · intro wz hSz; (try dsimp only at hSz); go_simp; all_goals (with_reducible rfl)
            (try simp only [Act.put, List.setIfInBounds_toArray, List.set_cons_zero, List.set_cons_succ])
            refine wpAnyE_one (i := 7) (o := { dst := some 89, op := Op.buildSlice 23 1 #[(0, Operand.tmp 88)], type := 23, pos := "outright.go:141", after := #[{ on := 6, ground := Ground.data }], guard := none }) (by kernel_rfl) rfl (by rfl) (fun K hK => ?_)
            go_simp
            refine hK.out _ _ ?_ (fun hHeld => ?_)
            · (try dsimp only)
              obtain ⟨h1, h2, h3⟩ := hHeld
              exact ⟨(bel1.cell (p := ⟨mb, _, none⟩) (cell_ltF h1)).trans h1, (bel1.cell (p := ⟨b5, _, none⟩) (cell_ltF h2)).trans h2, (bel1.cell (p := ⟨b5, _, none⟩) (cell_ltF h3)).trans h3⟩
            clear hK K
            (try simp only [Act.put, List.setIfInBounds_toArray, List.set_cons_zero, List.set_cons_succ])
            refine wpAnyE_one (i := 8) (o := { dst := some 90, op := Op.call { callee := Callee.builtin Builtin.append, args := #[Operand.tmp 87, Operand.tmp 89], argTypes := #[23, 23] }, type := 23, pos := "outright.go:141", after := #[{ on := 5, ground := Ground.data }, { on := 7, ground := Ground.data }], guard := none }) (by kernel_rfl) rfl (by rfl) (fun K hK => ?_)
            have hbz : Below wr.heap.size wr (wr.drew.alloc (.cells #[.string (nmF k), .slice va j vc] 72)) := ((Below.refl wr.heap.size wr).drew).alloc (Nat.le_refl _) _
            have hDz := (hD.out.only hO5.out (fun q hq => by show ¬ (q = mb ∨ q = p); omega)).below hbz
            have hWz := own_bel hW.out hbz
            have hMz := hM5.out.below hbz
            have hHz := hH.out.below hbz
            have hOz := hO5.out.below hbz
            have hvd : ∀ q, (Value.slice da k dcp).ownBlock = some q → w.heap.size ≤ q ∧ q < wro.heap.size := fun q hq => own_lt hD.out.own q hq
            have hDo := hDz.own
            rw [hDl.out] at hDo
            refine wp_append_lies _ _ _ 23 rfl w.heap.size 72 tk _ 2 40 Try.underlying23 htk htk0 htk1 htk2 rfl (by decide) (.slice da k dcp) k _ rfl hDo ⟨wr.heap.size, 0, none⟩ 1 1 (Dk.cs (⟨nmF k, .slice va j vc, R⟩ : Dk)) rfl rfl (cells_at (W := wr.drew) rfl _ _) (all_one rfl) (by decide) (by unfold maxLen; omega) (by omega) (Nat.le_trans hO.out.size hOz.size) _ rfl ?_
            intro g9 cap9 w9 o9 hg9 hat9 hlt9
            have hMq := hMz.grown hg9 (fun q hq => by have := hvd q hq; omega)
            have hHq := has_grown hHz hg9 (fun e => by have := hvd _ e; omega)
            have hDq := hDz.push (⟨nmF k, .slice va j vc, R⟩ : Dk) (by show World.ownsRow _ _ 74 2 (.slice va j vc) R.length (cellsF Rw.cs R); rw [hRl.out]; exact own_mono hWz (by have := hO.out.size; omega)) (fun g hg e => by have h1 := (own_lt hWz g hg).1; have h2 := hvd g e; omega) (by show nmF k = _; rw [hDl.out]) (by show 0 < R.length ∧ R.length ≤ 6 ∧ roB 1440 R; have := hRl.out; exact ⟨by omega, by omega, fun x hx => by have := hRo.out.1 x hx; omega, hRo.out.2⟩) hg9 (by rw [hDl.out]) (hat9.imp id (fun e => by rw [e]; exact Nat.le_refl _)) o9
            have hOq : Only (MP mb p) w w9 := (hO.out.trans hOz).grown hg9 (fun q hq => by have := hvd q hq; omega)
            obtain ⟨dq1, dq2⟩ := hMq.day
            dsimp only at dq1
            obtain ⟨_, hq1, hq2⟩ := id hHq
            refine hK.out _ _ ⟨dq1, hq1 0, hq1 1⟩ (fun hHeld => ?_)
            clear hK K
            (try simp only [Act.put, List.setIfInBounds_toArray, List.set_cons_zero, List.set_cons_succ])
            refine wpAnyE_one (i := 9) (o := { dst := some 91, op := Op.nilCheck (Operand.tmp 82), type := 0, pos := "outright.go:141", after := #[{ on := 0, ground := Ground.data }, { on := 0, ground := Ground.phase }, { on := 1, ground := Ground.phase }, { on := 2, ground := Ground.phase }, { on := 3, ground := Ground.phase }, { on := 4, ground := Ground.phase }, { on := 5, ground := Ground.phase }, { on := 6, ground := Ground.phase }, { on := 7, ground := Ground.phase }, { on := 8, ground := Ground.phase }], guard := none }) (by kernel_rfl) rfl (by rfl) (fun K hK => ?_)
            go_simp
            refine hK.out _ _ hHeld (fun hHeld => ?_)
            clear hK K
            (try simp only [Act.put, List.setIfInBounds_toArray, List.set_cons_zero, List.set_cons_succ])
            refine wpAnyE_one (i := 10) (o := { dst := some 92, op := Op.fieldAddr 47 (Operand.tmp 91) 0, type := 0, pos := "outright.go:141", after := #[{ on := 9, ground := Ground.data }, { on := 0, ground := Ground.phase }, { on := 1, ground := Ground.phase }, { on := 2, ground := Ground.phase }, { on := 3, ground := Ground.phase }, { on := 4, ground := Ground.phase }, { on := 5, ground := Ground.phase }, { on := 6, ground := Ground.phase }, { on := 7, ground := Ground.phase }, { on := 8, ground := Ground.phase }], guard := none }) (by kernel_rfl) rfl (by rfl) (fun K hK => ?_)
            go_simp
            refine hK.out _ _ hHeld (fun hHeld => ?_)
            clear hK K
            (try simp only [Act.put, List.setIfInBounds_toArray, List.set_cons_zero, List.set_cons_succ])
            refine wpAnyE_one (i := 11) (o := { dst := some 93, op := Op.fieldAddr 29 (Operand.tmp 92) 1, type := 0, pos := "outright.go:141", after := #[{ on := 10, ground := Ground.data }, { on := 0, ground := Ground.phase }, { on := 1, ground := Ground.phase }, { on := 2, ground := Ground.phase }, { on := 3, ground := Ground.phase }, { on := 4, ground := Ground.phase }, { on := 5, ground := Ground.phase }, { on := 6, ground := Ground.phase }, { on := 7, ground := Ground.phase }, { on := 8, ground := Ground.phase }], guard := none }) (by kernel_rfl) rfl (by rfl) (fun K hK => ?_)
            go_simp
            refine hK.out _ _ hHeld (fun hHeld => ?_)
            clear hK K
            (try simp only [Act.put, List.setIfInBounds_toArray, List.set_cons_zero, List.set_cons_succ])
            refine wpAnyE_last (o := { dst := none, op := Op.store 23 (Operand.tmp 93) (Operand.tmp 90), type := 0, pos := "outright.go:141", after := #[{ on := 11, ground := Ground.data }, { on := 8, ground := Ground.data }, { on := 8, ground := Ground.chain }, { on := 0, ground := Ground.phase }, { on := 1, ground := Ground.phase }, { on := 2, ground := Ground.phase }, { on := 3, ground := Ground.phase }, { on := 4, ground := Ground.phase }, { on := 5, ground := Ground.phase }, { on := 6, ground := Ground.phase }, { on := 7, ground := Ground.phase }, { on := 8, ground := Ground.phase }], guard := none }) (by kernel_rfl) rfl (by kernel_rfl) (by rfl) (fun K hK => ?_)
            go_simp
            refine hK _ _ ?_
            refine NoPanic.normal ?_
            have hM9 := hMq.days (.slice (some ⟨g9, 0, none⟩) (k + 1) cap9)
            dsimp only at hM9
            have hO9 := hOq.set (b := mb) (i := 1) (.inl rfl) (.slice (some ⟨g9, 0, none⟩) (k + 1) cap9)
            have hD9 := hDq.only (only_of_set w9 mb 1 (.slice (some ⟨g9, 0, none⟩) (k + 1) cap9)) (fun q hq => by show ¬ q = mb; omega)
            have hl9 : (D ++ [(⟨nmF k, .slice va j vc, R⟩ : Dk)]).length = k + 1 := by have := hDl.out; simp [this]
            go_wp2_with fail
            go_roundg (gko - 1)
            case measure => go_light; omega
            case rel => exact ⟨k + 1, some ⟨g9, 0, none⟩, cap9, D ++ [(⟨nmF k, .slice va j vc, R⟩ : Dk)], by omega, by go_num, hl9, hD9, hM9.mono (by omega), hO9⟩
        · obtain rfl : gk = 0 := by omega
          have hj0 : 0 < j := by omega
          go_wp2_with fail
          obtain ⟨dd1, dd2⟩ := hM5.out.day
          dsimp only at dd1
          obtain ⟨_, hh1, hh2⟩ := id hH.out
          refine wp_region_noPanic ?_
          refine wp_region_E (S := fun w' => w'.cell? ⟨mb, 1, none⟩ = some (.slice da k dcp) ∧ w'.cell? ⟨b5, 0, none⟩ = some (.string (nmF k)) ∧ w'.cell? ⟨b5, 1, none⟩ = some (.slice va j vc)) (E := 12) (by kernel_rfl) ?_ (fun hHeld => ?_)
          · (try dsimp only)
            exact ⟨dd1, hh1 0, hh1 1⟩
          refine wpAnyE_take (i := 0) (oi := { dst := some 82, op := Op.move (Operand.tmp 0), type := 42, pos := "outright.go:141", after := #[], guard := none }) (v := ?_) rfl (by kernel_rfl) (by kernel_rfl) (by kernel_rfl) (by kernel_rfl) (fun _ _ _ h => h) (Or.inl ⟨by rfl, ?_⟩) (by assumption) ?_
          rotate_left
          · intro wz hSz; (try dsimp only at hSz); go_simp; all_goals (with_reducible rfl)
          (try simp only [Act.put, List.setIfInBounds_toArray, List.set_cons_zero, List.set_cons_succ])
          refine wpAnyE_take (i := 1) (oi := { dst := some 83, op := Op.move (Operand.tmp 0), type := 42, pos := "outright.go:141", after := #[], guard := none }) (v := ?_) rfl (by kernel_rfl) (by kernel_rfl) (by kernel_rfl) (by kernel_rfl) (fun _ _ _ h => h) (Or.inl ⟨by rfl, ?_⟩) (by assumption) ?_
          rotate_left
          · intro wz hSz; (try dsimp only at hSz); go_simp; all_goals (with_reducible rfl)
          (try simp only [Act.put, List.setIfInBounds_toArray, List.set_cons_zero, List.set_cons_succ])
          refine wpAnyE_take (i := 2) (oi := { dst := some 84, op := Op.nilCheck (Operand.tmp 83), type := 0, pos := "outright.go:141", after := #[{ on := 1, ground := Ground.data }], guard := none }) (v := ?_) rfl (by kernel_rfl) (by kernel_rfl) (by kernel_rfl) (by kernel_rfl) (fun _ _ _ h => h) (Or.inl ⟨by rfl, ?_⟩) (by assumption) ?_
          rotate_left
          · intro wz hSz; (try dsimp only at hSz); go_simp; all_goals (with_reducible rfl)
          (try simp only [Act.put, List.setIfInBounds_toArray, List.set_cons_zero, List.set_cons_succ])
          refine wpAnyE_take (i := 3) (oi := { dst := some 85, op := Op.fieldAddr 47 (Operand.tmp 84) 0, type := 0, pos := "outright.go:141", after := #[{ on := 2, ground := Ground.data }], guard := none }) (v := ?_) rfl (by kernel_rfl) (by kernel_rfl) (by kernel_rfl) (by kernel_rfl) (fun _ _ _ h => h) (Or.inl ⟨by rfl, ?_⟩) (by assumption) ?_
          rotate_left
          · intro wz hSz; (try dsimp only at hSz); go_simp; all_goals (with_reducible rfl)
          (try simp only [Act.put, List.setIfInBounds_toArray, List.set_cons_zero, List.set_cons_succ])
          refine wpAnyE_take (i := 4) (oi := { dst := some 86, op := Op.fieldAddr 29 (Operand.tmp 85) 1, type := 0, pos := "outright.go:141", after := #[{ on := 3, ground := Ground.data }], guard := none }) (v := ?_) rfl (by kernel_rfl) (by kernel_rfl) (by kernel_rfl) (by kernel_rfl) (fun _ _ _ h => h) (Or.inl ⟨by rfl, ?_⟩) (by assumption) ?_
          rotate_left
          · intro wz hSz; (try dsimp only at hSz); go_simp; all_goals (with_reducible rfl)
          (try simp only [Act.put, List.setIfInBounds_toArray, List.set_cons_zero, List.set_cons_succ])
          refine wpAnyE_take (i := 5) (oi := { dst := some 87, op := Op.load 23 (Operand.tmp 86), type := 23, pos := "outright.go:141", after := #[{ on := 4, ground := Ground.data }], guard := none }) (v := ?_) rfl (by kernel_rfl) (by kernel_rfl) (by kernel_rfl) (by kernel_rfl) (fun _ _ _ h => h) (Or.inl ⟨by rfl, ?_⟩) (by assumption) ?_
          rotate_left
          · intro wz hSz; (try dsimp only at hSz); go_simp; all_goals (with_reducible rfl)
          (try simp only [Act.put, List.setIfInBounds_toArray, List.set_cons_zero, List.set_cons_succ])
          refine wpAnyE_take (i := 6) (oi := { dst := some 88, op := Op.load 72 (Operand.tmp 5), type := 72, pos := "outright.go:141", after := #[], guard := none }) (v := ?_) rfl (by kernel_rfl) (by kernel_rfl) (by kernel_rfl) (by kernel_rfl) (fun _ _ _ h => h) (Or.inl ⟨by rfl, ?_⟩) (by assumption) ?_
          rotate_left
          · intro wz hSz; (try dsimp only at hSz); go_simp; all_goals (with_reducible rfl)
          (try simp only [Act.put, List.setIfInBounds_toArray, List.set_cons_zero, List.set_cons_succ])
          refine wpAnyE_one (i := 7) (o := { dst := some 89, op := Op.buildSlice 23 1 #[(0, Operand.tmp 88)], type := 23, pos := "outright.go:141", after := #[{ on := 6, ground := Ground.data }], guard := none }) (by kernel_rfl) rfl (by rfl) (fun K hK => ?_)
          go_simp
          refine hK.out _ _ ?_ (fun hHeld => ?_)
          · (try dsimp only)
            obtain ⟨h1, h2, h3⟩ := hHeld
            exact ⟨(bel1.cell (p := ⟨mb, _, none⟩) (cell_ltF h1)).trans h1, (bel1.cell (p := ⟨b5, _, none⟩) (cell_ltF h2)).trans h2, (bel1.cell (p := ⟨b5, _, none⟩) (cell_ltF h3)).trans h3⟩
          clear hK K
          (try simp only [Act.put, List.setIfInBounds_toArray, List.set_cons_zero, List.set_cons_succ])
          refine wpAnyE_one (i := 8) (o := { dst := some 90, op := Op.call { callee := Callee.builtin Builtin.append, args := #[Operand.tmp 87, Operand.tmp 89], argTypes := #[23, 23] }, type := 23, pos := "outright.go:141", after := #[{ on := 5, ground := Ground.data }, { on := 7, ground := Ground.data }], guard := none }) (by kernel_rfl) rfl (by rfl) (fun K hK => ?_)
          have hbz : Below wr.heap.size wr (wr.drew.alloc (.cells #[.string (nmF k), .slice va j vc] 72)) := ((Below.refl wr.heap.size wr).drew).alloc (Nat.le_refl _) _
          have hDz := (hD.out.only hO5.out (fun q hq => by show ¬ (q = mb ∨ q = p); omega)).below hbz
          have hWz := own_bel hW.out hbz
          have hMz := hM5.out.below hbz
          have hHz := hH.out.below hbz
          have hOz := hO5.out.below hbz
          have hvd : ∀ q, (Value.slice da k dcp).ownBlock = some q → w.heap.size ≤ q ∧ q < wro.heap.size := fun q hq => own_lt hD.out.own q hq
          have hDo := hDz.own
          rw [hDl.out] at hDo
          refine wp_append_lies _ _ _ 23 rfl w.heap.size 72 tk _ 2 40 Try.underlying23 htk htk0 htk1 htk2 rfl (by decide) (.slice da k dcp) k _ rfl hDo ⟨wr.heap.size, 0, none⟩ 1 1 (Dk.cs (⟨nmF k, .slice va j vc, R⟩ : Dk)) rfl rfl (cells_at (W := wr.drew) rfl _ _) (all_one rfl) (by decide) (by unfold maxLen; omega) (by omega) (Nat.le_trans hO.out.size hOz.size) _ rfl ?_
          intro g9 cap9 w9 o9 hg9 hat9 hlt9
          have hMq := hMz.grown hg9 (fun q hq => by have := hvd q hq; omega)
          have hHq := has_grown hHz hg9 (fun e => by have := hvd _ e; omega)
          have hDq := hDz.push (⟨nmF k, .slice va j vc, R⟩ : Dk) (by show World.ownsRow _ _ 74 2 (.slice va j vc) R.length (cellsF Rw.cs R); rw [hRl.out]; exact own_mono hWz (by have := hO.out.size; omega)) (fun g hg e => by have h1 := (own_lt hWz g hg).1; have h2 := hvd g e; omega) (by show nmF k = _; rw [hDl.out]) (by show 0 < R.length ∧ R.length ≤ 6 ∧ roB 1440 R; have := hRl.out; exact ⟨by omega, by omega, fun x hx => by have := hRo.out.1 x hx; omega, hRo.out.2⟩) hg9 (by rw [hDl.out]) (hat9.imp id (fun e => by rw [e]; exact Nat.le_refl _)) o9
          have hOq : Only (MP mb p) w w9 := (hO.out.trans hOz).grown hg9 (fun q hq => by have := hvd q hq; omega)
          obtain ⟨dq1, dq2⟩ := hMq.day
          dsimp only at dq1
          obtain ⟨_, hq1, hq2⟩ := id hHq
          refine hK.out _ _ ⟨dq1, hq1 0, hq1 1⟩ (fun hHeld => ?_)
          clear hK K
          (try simp only [Act.put, List.setIfInBounds_toArray, List.set_cons_zero, List.set_cons_succ])
          refine wpAnyE_one (i := 9) (o := { dst := some 91, op := Op.nilCheck (Operand.tmp 82), type := 0, pos := "outright.go:141", after := #[{ on := 0, ground := Ground.data }, { on := 0, ground := Ground.phase }, { on := 1, ground := Ground.phase }, { on := 2, ground := Ground.phase }, { on := 3, ground := Ground.phase }, { on := 4, ground := Ground.phase }, { on := 5, ground := Ground.phase }, { on := 6, ground := Ground.phase }, { on := 7, ground := Ground.phase }, { on := 8, ground := Ground.phase }], guard := none }) (by kernel_rfl) rfl (by rfl) (fun K hK => ?_)
          go_simp
          refine hK.out _ _ hHeld (fun hHeld => ?_)
          clear hK K
          (try simp only [Act.put, List.setIfInBounds_toArray, List.set_cons_zero, List.set_cons_succ])
          refine wpAnyE_one (i := 10) (o := { dst := some 92, op := Op.fieldAddr 47 (Operand.tmp 91) 0, type := 0, pos := "outright.go:141", after := #[{ on := 9, ground := Ground.data }, { on := 0, ground := Ground.phase }, { on := 1, ground := Ground.phase }, { on := 2, ground := Ground.phase }, { on := 3, ground := Ground.phase }, { on := 4, ground := Ground.phase }, { on := 5, ground := Ground.phase }, { on := 6, ground := Ground.phase }, { on := 7, ground := Ground.phase }, { on := 8, ground := Ground.phase }], guard := none }) (by kernel_rfl) rfl (by rfl) (fun K hK => ?_)
          go_simp
          refine hK.out _ _ hHeld (fun hHeld => ?_)
          clear hK K
          (try simp only [Act.put, List.setIfInBounds_toArray, List.set_cons_zero, List.set_cons_succ])
          refine wpAnyE_one (i := 11) (o := { dst := some 93, op := Op.fieldAddr 29 (Operand.tmp 92) 1, type := 0, pos := "outright.go:141", after := #[{ on := 10, ground := Ground.data }, { on := 0, ground := Ground.phase }, { on := 1, ground := Ground.phase }, { on := 2, ground := Ground.phase }, { on := 3, ground := Ground.phase }, { on := 4, ground := Ground.phase }, { on := 5, ground := Ground.phase }, { on := 6, ground := Ground.phase }, { on := 7, ground := Ground.phase }, { on := 8, ground := Ground.phase }], guard := none }) (by kernel_rfl) rfl (by rfl) (fun K hK => ?_)
          go_simp
          refine hK.out _ _ hHeld (fun hHeld => ?_)
          clear hK K
          (try simp only [Act.put, List.setIfInBounds_toArray, List.set_cons_zero, List.set_cons_succ])
          refine wpAnyE_last (o := { dst := none, op := Op.store 23 (Operand.tmp 93) (Operand.tmp 90), type := 0, pos := "outright.go:141", after := #[{ on := 11, ground := Ground.data }, { on := 8, ground := Ground.data }, { on := 8, ground := Ground.chain }, { on := 0, ground := Ground.phase }, { on := 1, ground := Ground.phase }, { on := 2, ground := Ground.phase }, { on := 3, ground := Ground.phase }, { on := 4, ground := Ground.phase }, { on := 5, ground := Ground.phase }, { on := 6, ground := Ground.phase }, { on := 7, ground := Ground.phase }, { on := 8, ground := Ground.phase }], guard := none }) (by kernel_rfl) rfl (by kernel_rfl) (by rfl) (fun K hK => ?_)
          go_simp
          refine hK _ _ ?_
          refine NoPanic.normal ?_
          have hM9 := hMq.days (.slice (some ⟨g9, 0, none⟩) (k + 1) cap9)
          dsimp only at hM9
          have hO9 := hOq.set (b := mb) (i := 1) (.inl rfl) (.slice (some ⟨g9, 0, none⟩) (k + 1) cap9)
          have hD9 := hDq.only (only_of_set w9 mb 1 (.slice (some ⟨g9, 0, none⟩) (k + 1) cap9)) (fun q hq => by show ¬ q = mb; omega)
          have hl9 : (D ++ [(⟨nmF k, .slice va j vc, R⟩ : Dk)]).length = k + 1 := by have := hDl.out; simp [this]
          go_wp2_with fail
          go_roundg (gko - 1)
          case measure => go_light; omega
          case rel => exact ⟨k + 1, some ⟨g9, 0, none⟩, cap9, D ++ [(⟨nmF k, .slice va j vc, R⟩ : Dk)], by omega, by go_num, hl9, hD9, hM9.mono (by omega), hO9⟩
    · obtain rfl : k = n := by omega
      have t1 : ¬ (k : Int) < (k : Int) := by omega
      go_wp2_with fail
      go_end0
      exact ⟨rfl, ⟨da, dcp, D, hDl.out, hD.out, hM.out.mono (by omega)⟩, hO.out⟩
end Go.Proofs.Ytddphepgcihdbaa
