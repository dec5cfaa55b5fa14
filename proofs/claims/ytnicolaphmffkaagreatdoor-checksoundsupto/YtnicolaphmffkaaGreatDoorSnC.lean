import Derived.Test.YtnicolaphmffkaaGreatDoorTkk
import Derived.Test.YtnicolaphmffkaaGreatDoorMaC
import Derived.Test.YtnicolaphmffkaaGreatDoorMaD
namespace Go.Proofs.YtnicolaphmffkaaGreatDoor
open Go.RowKit
set_option linter.unusedVariables false
set_option linter.unusedSimpArgs false

theorem all_app {st : List Int} {x : Int} (h : ∀ s ∈ st, s ≠ 0) (hx : ¬ x = 0) : ∀ s ∈ st ++ [x], s ≠ 0 := by
  intro s hs
  rcases List.mem_append.1 hs with q | q
  · exact h s q
  · rw [List.mem_singleton.1 q]; exact hx
/-- What typeOver answers. -/
def ToP (A : Int) (e : Ending) : Prop := ∃ c l k, e = .returned (.tuple #[.int .i64 A, .agg #[.int .i64 c, .int .i64 l, .int .i64 k]]) ∧ ((c = 0 ∧ A ≠ 0) ∨ (c = 53 ∧ A = 0))
set_option maxRecDepth 100000 in
set_option maxHeartbeats 8000000 in
theorem typeOver_any (L : List Nd) (vn : Value) (w : World) (hN : Nds w vn L) (hf : trB L = true) (h3 : ∀ x ∈ L, ¬ x.op = 3) :
    Calls Tryz.prog 75 #[vn, .func (.func 76) #[] #[]] w fun e w' => ToP (stF [] L) e ∧ Below w.heap.size w w' := by
  obtain ⟨H, -, h256, -, H0, H1, Hk, hop⟩ := htr L hf
  have kL := fun (k : Nat) (hk : k < L.length) (ho : lfO L[k].op) (X : World) => plain_any L[k] X ho
  have kR := fun (k : Nat) (hk : k < L.length) (h : lfO L[k].op ∨ opB L[k].op) (X : World) => ruleA L[k].op X h
  have kP := fun (k : Nat) (hk : k < L.length) => h3 L[k] (List.getElem_mem hk)
  obtain ⟨na, nc, rfl, hc⟩ := hN
  obtain ⟨ti, hi, hi0, hi1, hi2⟩ := info_parts info3
  clear hf h3
  generalize hA : stF [] L = A
  have hA0 : stF [] (L.drop 0) = A := hA
  clear hA
  have hb0 : Below w.heap.size w (w.alloc (.cells #[.int .i64 0, .int .i64 0, .int .i64 0] 154)) := bel1 _
  have K0 : Has (w.alloc (.cells #[.int .i64 0, .int .i64 0, .int .i64 0] 154)) w.heap.size #[.int .i64 0, .int .i64 0, .int .i64 0] := Has.new _ _ _ rfl
  go_enter Tryz.func75, Tryz.ntmps75
  go_wp2_with fail
  generalize (w.alloc (.cells #[.int .i64 0, .int .i64 0, .int .i64 0] 154)) = W0 at *
  have hz0 := K0.1
  go_loopw [6, 15] (fun u i wr => ∃ (k n : Nat) (st : List Int) (sa : Option Addr) (sc : Nat), k ≤ L.length ∧ n ≤ 256 ∧ u = .slice sa n sc ∧ i = .int .i64 (k : Int) ∧ Hid (H k = n ∧ st.length = n) ∧ Hid (stF st (L.drop k) = A) ∧ Hid (∀ s ∈ st, s ≠ 0) ∧ Hid (wr.ownsRow W0.heap.size 3 1 (.slice sa n sc) n (vI st)) ∧ Hid (Below W0.heap.size W0 wr)) (fun _ i _ => L.length - (intOf i).toNat)
  case atStart => exact ⟨0, 0, [], none, 0, by omega, by omega, rfl, rfl, ⟨H0, rfl⟩, hA0, (fun s hs => by cases hs), World.ownsRow_nil _ _ _ _, Below.refl _ _⟩
  case round =>
    clear hA0
    obtain ⟨k, n, st, sa, sc, hkl, hn, rfl, rfl, hbs', hq', hp', ow', hb'⟩ := hrel
    obtain ⟨hHn, hst⟩ := hbs'.out
    have hq := hq'.out
    have hpos := hp'.out
    have ow := ow'.out
    have hb := hb'.out
    clear hbs' hq' ow' hb' hp'
    have hbw := bel_after hb0 hb0.size hb
    have hne : wr.heap.size ≠ w.heap.size := by have := hb.size; omega
    by_cases hlt : k < L.length
    case neg =>
      have s1 : ¬ (k : Int) < (L.length : Int) := by omega
      obtain rfl : k = L.length := by omega
      obtain rfl : n = 1 := by omega
      rw [st_end st L _ (Nat.le_refl _)] at hq
      obtain ⟨gs, cs', hsv, -, hgs, -⟩ := own_block ow (by omega)
      injection hsv with hsv1 _ hsv2
      subst hsv1
      subst hsv2
      have l0 : 0 < st.length := by omega
      have z0 := (ow.cellAt 0 (by omega)).trans (vI_get l0)
      rw [show st.getD 0 0 = st[0] by simp [List.getD_eq_getElem?_getD, l0]] at hq
      have hp0 := hpos _ (List.getElem_mem l0)
      generalize st[0] = t0 at *
      subst hq
      have KZ := K0.below hb
      obtain ⟨_, KZ1, KZ2⟩ := id KZ
      clear kL kR kP hop Hk
      go_wp2_with fail
      obtain ⟨y0, Y1, y2⟩ := KZ.set3 (.int .i64 0) (.int .i64 0) (.int .i64 0)
      exact bodyPost_ret (v := .tuple #[.int .i64 t0, .agg #[.int .i64 0, .int .i64 0, .int .i64 0]]) (by simp [results, Tryz.results75, go_sem, Y1]) rfl ⟨⟨0, 0, 0, rfl, .inl ⟨rfl, hp0⟩⟩, bel3 hbw (Nat.le_refl _) _ _ _⟩
    case pos =>
      obtain ⟨g, o, rfl, hg, hx⟩ := hc.resolve_left (by intro e; rw [e] at hlt; simp at hlt)
      have hx0 := hx k hlt
      have cL := kL k hlt
      have cR := kR k hlt
      have cP := kP k hlt
      have s1 : (k : Int) < (L.length : Int) := by omega
      have s0 : (0 : Int) ≤ (k : Int) := by omega
      have tk : k + 1 ≤ L.length := hlt
      have hLeaf := st_leaf st L k hlt
      have hOne := st_one st L k hlt
      have hTwo := st_two st L k hlt
      have hcase := hop k hlt
      have hk1 := Hk (k + 1) tk
      clear kL kR kP hop hx hc Hk
      generalize L[k] = x at *
      obtain ⟨op, val, nm, ln, cl⟩ := x
      simp only [ruW] at *
      have p0 := (hbw.cell (p := ⟨g, _, none⟩) hg).trans hx0.1
      have p1 := (hbw.cell (p := ⟨g, _, none⟩) hg).trans hx0.2.1
      have p2 := (hbw.cell (p := ⟨g, _, none⟩) hg).trans hx0.2.2.1
      have p3 := (hbw.cell (p := ⟨g, _, none⟩) hg).trans hx0.2.2.2.1
      have p4 := (hbw.cell (p := ⟨g, _, none⟩) hg).trans hx0.2.2.2.2
      clear hx0
      rcases hcase with ⟨ho, hH⟩ | ⟨⟨ho1, ho2⟩, hB, hn1, hH⟩ | ⟨ho1, hB, hn2, hH⟩
      · have cL := cL ho
        have cR := cR (.inl ho)
        have ho20 : op < 20 := by unfold lfO at ho; omega
        rw [hLeaf ho20] at hq
        rw [show ruO op = 0 by unfold ruO; rw [if_pos ho20]] at cR
        have hlf : ¬ lfT op = 0 := by unfold lfT; rw [if_neg cP]; by_cases q : op = 1 ∨ op = 4 ∨ op = 7 ∨ op = 8 ∨ op = 9 <;> simp [q]
        clear hLeaf hOne hTwo
        generalize ruT op = T at *
        generalize ruJ op = I at *
        generalize lfT op = tt at *
        have K1 : Has (wr.alloc (.cells #[.int .i64 op, .int .i32 val, .string nm, .int .i64 ln, .int .i64 cl] 88)) wr.heap.size #[.int .i64 op, .int .i32 val, .string nm, .int .i64 ln, .int .i64 cl] := Has.new _ _ _ rfl
        have hb1 : Below W0.heap.size W0 (wr.alloc (.cells #[.int .i64 op, .int .i32 val, .string nm, .int .i64 ln, .int .i64 cl] 88)) := hb.alloc hb.size _
        have o1 := own_bel ow (bel1 (.cells #[.int .i64 op, .int .i32 val, .string nm, .int .i64 ln, .int .i64 cl] 88))
        have z1 : wr.heap.size < (wr.alloc (.cells #[.int .i64 op, .int .i32 val, .string nm, .int .i64 ln, .int .i64 cl] 88)).heap.size := K1.1
        go_wp2_with fail
        go_at_call 104
        refine Calls.mono (cR _) ?_
        rintro e w2 ⟨rfl, h2⟩
        have hb2 := bel_after hb1 hb1.size h2
        have o2 := own_bel o1 h2
        have K2 := K1.below h2
        have z2 := K2.1
        have K3 := K2.alloc (.cells #[.int .i64 0, .int .i64 T, .int .i64 I] 206)
        have hb3 : Below W0.heap.size W0 (w2.alloc (.cells #[.int .i64 0, .int .i64 T, .int .i64 I] 206)) := hb2.alloc hb2.size _
        have o3' := own_bel o2 (bel1 (.cells #[.int .i64 0, .int .i64 T, .int .i64 I] 206))
        have R3 : Has (w2.alloc (.cells #[.int .i64 0, .int .i64 T, .int .i64 I] 206)) w2.heap.size #[.int .i64 0, .int .i64 T, .int .i64 I] := Has.new _ _ _ rfl
        have hbX := bel_after hb0 hb0.size hb3
        obtain ⟨_, a1, a2⟩ := id K3
        obtain ⟨_, c1', c2'⟩ := id R3
        clear K1 K2 o1 o2 hb1
        go_wp2_with fail
        go_at_call 76
        refine Calls.mono (cL _) ?_
        rintro e w4 ⟨rfl, h4⟩
        have hbM := bel_after hb3 hb3.size h4
        have o4 := own_bel o3' h4
        have K4 := K3.below h4
        clear K3 R3 a1 a2 c1' c2'
        go_wp2_with (at_builtin; (refine wpList_append_mine _ rfl _ _ 113 rfl W0.heap.size 3 ti _ 1 8 Tryz.underlying113 hi hi0 hi1 hi2 rfl (by decide) (.slice sa n sc) n (vI st) rfl (own_bel o4 (bel1 _)) ⟨w4.heap.size, 0, none⟩ 1 1 [.int .i64 tt] rfl rfl (cells_at (W := w4) rfl _ _) (all_one rfl) (by decide) (by unfold maxLen; omega) (by omega) (by have := hbM.size; simp; omega) ?_); intro g' c' y o3 gr _ _ _; have b3 := grown_bel (hbM.alloc hbM.size _) gr (Nat.le_refl _) (fun q hq => (own_lt o4 q hq).1))
        go_roundw
        case rel => exact ⟨k + 1, n + 1, st ++ [tt], _, _, by omega, by omega, rfl, by go_num, ⟨by omega, by simp; omega⟩, hq, all_app hpos hlf, (by show World.ownsRow _ _ _ _ _ _ _; rw [show vI (st ++ [tt]) = vI st ++ [.int .i64 tt] by simp [vI]]; exact o3), b3⟩
        case measure => simp [intOf]; omega
      · have cR := cR (.inr hB)
        obtain ⟨m, rfl⟩ : ∃ m, n = m + 1 := ⟨n - 1, by omega⟩
        rw [hOne ho1 ho2, hst] at hq
        rw [show ruO op = 1 by unfold ruO; rw [if_neg (by omega), if_pos (by omega)]] at cR
        clear hLeaf hOne hTwo cL
        have lm : m < st.length := by omega
        rw [show m + 1 - 1 = m by omega] at hq
        rw [show st.getD m 0 = st[m] by simp [List.getD_eq_getElem?_getD, lm]] at hq
        obtain ⟨gs, cs', hsv, hcp, hgs, -⟩ := own_block ow (by omega)
        injection hsv with hsv1 _ hsv2
        subst hsv1
        subst hsv2
        have hRes := tk_one op st[m] hB ho2
        have hIJ : ruJ op = ruI op := by unfold ruJ; rw [if_neg (by omega)]
        rw [← hIJ] at hRes
        have kT : ∀ X : World, X.ownsRow W0.heap.size 3 1 (.slice (some ⟨gs, 0, none⟩) (m + 1) sc) (m + 1) (vI st) → Calls Tryz.prog 105 #[.agg #[.int .i64 1, .int .i64 (ruT op), .int .i64 (ruJ op)], .slice (some ⟨gs, m, none⟩) 1 (sc - m)] X fun e w' => e = .returned (.bool (tkF (ruT op) st[m] [st[m]])) ∧ Below X.heap.size X w' := fun X hX => takes_any 1 (ruT op) (ruJ op) [st[m]] gs m (sc - m) X (by simp) (by simp) (own_lt hX gs rfl).2 (fun i h => by
          obtain rfl : i = 0 := by simp at h; omega
          exact (hX.cellAt m (by omega)).trans (vI_get lm))
        have hI : ¬ ruJ op = 0 := by unfold ruJ; rw [if_neg (by omega)]; unfold ruI; rw [if_neg (by omega)]; by_cases q : op = 1 ∨ op = 4 ∨ op = 20 ∨ op = 22 ∨ (30 ≤ op ∧ op ≤ 36) <;> simp [q]
        generalize ruT op = T at *
        clear hIJ
        generalize ruJ op = I at *
        generalize st[m] = ta at *
        generalize resF op ta 0 = tt at *
        generalize tkF T ta [ta] = bb at *
        have i0 : (0 : Int) ≤ (m : Int) := by omega
        have i1 : m ≤ sc := by omega
        have i4 : (m : Int) ≤ (m : Int) + 1 := by omega
        have i5 : (m : Int) ≤ (sc : Int) := by omega
        have i2 : ¬ sc = m := by omega
        have i3 : decide (sc = m) = false := by simpa using i2
        have hgw := (own_lt ow gs rfl).2
        have K1 : Has (wr.alloc (.cells #[.int .i64 op, .int .i32 val, .string nm, .int .i64 ln, .int .i64 cl] 88)) wr.heap.size #[.int .i64 op, .int .i32 val, .string nm, .int .i64 ln, .int .i64 cl] := Has.new _ _ _ rfl
        have hb1 : Below W0.heap.size W0 (wr.alloc (.cells #[.int .i64 op, .int .i32 val, .string nm, .int .i64 ln, .int .i64 cl] 88)) := hb.alloc hb.size _
        have o1 := own_bel ow (bel1 (.cells #[.int .i64 op, .int .i32 val, .string nm, .int .i64 ln, .int .i64 cl] 88))
        have z1 : wr.heap.size < (wr.alloc (.cells #[.int .i64 op, .int .i32 val, .string nm, .int .i64 ln, .int .i64 cl] 88)).heap.size := K1.1
        go_wp2_with fail
        go_at_call 104
        refine Calls.mono (cR _) ?_
        rintro e w2 ⟨rfl, h2⟩
        have hb2 := bel_after hb1 hb1.size h2
        have o2 := own_bel o1 h2
        have K2 := K1.below h2
        have z2 := K2.1
        have K3 := K2.alloc (.cells #[.int .i64 1, .int .i64 T, .int .i64 I] 206)
        have hb3 : Below W0.heap.size W0 (w2.alloc (.cells #[.int .i64 1, .int .i64 T, .int .i64 I] 206)) := hb2.alloc hb2.size _
        have o3' := own_bel o2 (bel1 (.cells #[.int .i64 1, .int .i64 T, .int .i64 I] 206))
        have R3 : Has (w2.alloc (.cells #[.int .i64 1, .int .i64 T, .int .i64 I] 206)) w2.heap.size #[.int .i64 1, .int .i64 T, .int .i64 I] := Has.new _ _ _ rfl
        have hbX := bel_after hb0 hb0.size hb3
        obtain ⟨_, a1, a2⟩ := id K3
        obtain ⟨_, c1', c2'⟩ := id R3
        clear K1 K2 o1 o2 hb1
        go_wp2_with fail
        cases bb with
        | false =>
          simp only [Bool.false_eq_true, if_false] at hRes
          rw [if_pos hRes] at hq
          subst hq
          refine wp_region_noPanic ?_
          refine wp_region_held_drew (S := fun w' => w'.cell? ⟨w2.heap.size, 0, none⟩ = some (.int .i64 1) ∧ w'.cell? ⟨w2.heap.size, 1, none⟩ = some (.int .i64 T) ∧ w'.cell? ⟨w2.heap.size, 2, none⟩ = some (.int .i64 I)) (by kernel_rfl) ?_ (fun hHeld => ?_)
          · (try dsimp only)
            exact ⟨R3.drew.2.1 0, R3.drew.2.1 1, R3.drew.2.1 2⟩
          refine tkY 0 ⟨some 46, .load 206 (.tmp 9), 206, "expression.go:62", #[], none⟩ ?_ rfl ⟨by rfl, ?_⟩ ?_
          rotate_left
          · intro wz hSz; (try dsimp only at hSz); go_simp; all_goals (with_reducible rfl)
          (try simp only [Act.put, List.setIfInBounds_toArray, List.set_cons_zero, List.set_cons_succ])
          refine tkY 1 ⟨some 47, .move (.tmp 6), 113, "expression.go:62", #[], none⟩ ?_ rfl ⟨by rfl, ?_⟩ ?_
          rotate_left
          · intro wz hSz; (try dsimp only at hSz); go_simp; all_goals (with_reducible rfl)
          (try simp only [Act.put, List.setIfInBounds_toArray, List.set_cons_zero, List.set_cons_succ])
          refine tkY 2 ⟨some 48, .move (.tmp 12), 3, "expression.go:62", #[], none⟩ ?_ rfl ⟨by rfl, ?_⟩ ?_
          rotate_left
          · intro wz hSz; (try dsimp only at hSz); go_simp; all_goals (with_reducible rfl)
          (try simp only [Act.put, List.setIfInBounds_toArray, List.set_cons_zero, List.set_cons_succ])
          refine tkY 3 ⟨some 49, .slice 113 (.tmp 47) (some (.tmp 48)) none none, 113, "expression.go:62", #[⟨1, .data⟩, ⟨2, .data⟩], none⟩ ?_ rfl ⟨by rfl, ?_⟩ ?_
          rotate_left
          · intro wz hSz; (try dsimp only at hSz); go_simp; all_goals (with_reducible rfl)
          (try simp only [Act.put, List.setIfInBounds_toArray, List.set_cons_zero, List.set_cons_succ])
          refine wpAnyH_ready (rs := [4]) (by kernel_rfl) (by simp) ?_
          refine AllReadyH.cons (o := ⟨some 50, .call { callee := Callee.value (.func 105), args := #[.tmp 46, .tmp 49], argTypes := #[206, 113] }, 4, "expression.go:62", #[⟨0, .data⟩, ⟨3, .data⟩], none⟩) rfl (fun K hK => ?_) AllReadyH.nil
          go_simp
          (go_at_call 105; (with_reducible refine Calls.mono (kT _ (by exact o3'.drew)) ?_); rintro e w4 ⟨rfl, h4⟩; have K4 := K3.drew.below h4; have R4 := R3.drew.below h4; have o4 := own_bel o3'.drew h4; have hbM := bel_after hb3.drew hb3.size h4)
          go_wp2_with fail
          refine hK.out _ _ ?_ (fun hHeld => ?_)
          · (try dsimp only)
            exact ⟨R4.2.1 0, R4.2.1 1, R4.2.1 2⟩
          clear hK K
          (try simp only [Act.put, List.setIfInBounds_toArray, List.set_cons_zero, List.set_cons_succ])
          refine tkY 5 ⟨some 51, .unOp UnOp.not 4 (.tmp 50), 4, "expression.go:62", #[⟨4, .data⟩], none⟩ ?_ rfl ⟨by rfl, ?_⟩ ?_
          rotate_left
          · intro wz hSz; (try dsimp only at hSz); go_simp; all_goals (with_reducible rfl)
          (try simp only [Act.put, List.setIfInBounds_toArray, List.set_cons_zero, List.set_cons_succ])
          refine wpAnyH_done (by kernel_rfl) ?_ _
          refine NoPanic.normal ?_
          have hbZ := bel_after hb0 hb0.size hbM
          have KZ := K0.below hbM
          go_wp2_with fail
          obtain ⟨_, KZ1, KZ2⟩ := id KZ
          refine wp_region_noPanic ?_
          refine wp_region_held_drew (S := fun w' => w'.cell? ⟨wr.heap.size, 3, none⟩ = some (.int .i64 ln) ∧ w'.cell? ⟨wr.heap.size, 4, none⟩ = some (.int .i64 cl)) (by kernel_rfl) ?_ (fun hHeld => ?_)
          · (try dsimp only)
            exact ⟨K4.drew.2.1 3, K4.drew.2.1 4⟩
          refine tkY 0 ⟨some 52, .fieldAddr 88 (.tmp 8) 3, 0, "expression.go:63", #[{ on := 3, ground := Ground.gcOnly Departure.lateStores }], none⟩ ?_ rfl ⟨by rfl, ?_⟩ ?_
          rotate_left
          · intro wz hSz; (try dsimp only at hSz); go_simp; all_goals (with_reducible rfl)
          (try simp only [Act.put, List.setIfInBounds_toArray, List.set_cons_zero, List.set_cons_succ])
          refine tkY 1 ⟨some 53, .load 86 (.tmp 52), 86, "expression.go:63", #[⟨0, .data⟩, { on := 3, ground := Ground.gcOnly Departure.lateStores }], none⟩ ?_ rfl ⟨by rfl, ?_⟩ ?_
          rotate_left
          · intro wz hSz; (try dsimp only at hSz); go_simp; all_goals (with_reducible rfl)
          (try simp only [Act.put, List.setIfInBounds_toArray, List.set_cons_zero, List.set_cons_succ])
          refine tkY 2 ⟨some 54, .build 154 #[(0, .const (Value.int IntKind.i64 53)), (1, .tmp 53)], 154, "expression.go:63", #[⟨1, .data⟩, { on := 3, ground := Ground.gcOnly Departure.lateStores }], none⟩ ?_ rfl ⟨by rfl, ?_⟩ ?_
          rotate_left
          · intro wz hSz; (try dsimp only at hSz); go_simp; all_goals (with_reducible rfl)
          (try simp only [Act.put, List.setIfInBounds_toArray, List.set_cons_zero, List.set_cons_succ])
          refine tkY 3 ⟨some 4, .assign (.const (Value.int IntKind.i64 0)), 3, "expression.go:63", #[{ on := 0, ground := Ground.textOnly Departure.lateStores }, { on := 1, ground := Ground.textOnly Departure.lateStores }, { on := 2, ground := Ground.textOnly Departure.lateStores }], none⟩ ?_ rfl ⟨by rfl, ?_⟩ ?_
          rotate_left
          · intro wz hSz; (try dsimp only at hSz); go_simp; all_goals (with_reducible rfl)
          (try simp only [Act.put, List.setIfInBounds_toArray, List.set_cons_zero, List.set_cons_succ])
          refine wpAnyH_ready (rs := [4]) (by kernel_rfl) (by simp) ?_
          refine AllReadyH.cons (o := ⟨none, .store 154 (.tmp 5) (.tmp 54), 0, "expression.go:63", #[⟨2, .data⟩, ⟨3, .chain⟩, ⟨0, .phase⟩, ⟨1, .phase⟩, ⟨2, .phase⟩, ⟨3, .phase⟩], none⟩) rfl (fun K hK => ?_) AllReadyH.nil
          go_simp
          refine hK.out _ _ ?_ (fun hHeld => ?_)
          · (try dsimp only)
            exact ⟨(((K4.drew.far hne _).far hne _).far hne _).2.1 3, (((K4.drew.far hne _).far hne _).far hne _).2.1 4⟩
          clear hK K
          (try simp only [Act.put, List.setIfInBounds_toArray, List.set_cons_zero, List.set_cons_succ])
          refine wpAnyH_done (by kernel_rfl) ?_ _
          refine NoPanic.normal ?_
          go_wp2_with fail
          obtain ⟨y0, Y1, y2⟩ := (KZ.set3 (.int .i64 53) (.int .i64 ln) (.int .i64 cl)).drew
          exact bodyPost_ret (v := .tuple #[.int .i64 0, .agg #[.int .i64 53, .int .i64 ln, .int .i64 cl]]) (by simp [results, Tryz.results75, go_sem, Y1]) rfl ⟨⟨53, ln, cl, rfl, .inr ⟨rfl, rfl⟩⟩, (bel3 hbZ (Nat.le_refl _) _ _ _).drew⟩
        | true =>
          simp only [if_true] at hRes
          subst hRes
          rw [if_neg hI] at hq
          refine wp_region_noPanic ?_
          refine wp_region_held_drew (S := fun w' => w'.cell? ⟨w2.heap.size, 0, none⟩ = some (.int .i64 1) ∧ w'.cell? ⟨w2.heap.size, 1, none⟩ = some (.int .i64 T) ∧ w'.cell? ⟨w2.heap.size, 2, none⟩ = some (.int .i64 tt)) (by kernel_rfl) ?_ (fun hHeld => ?_)
          · (try dsimp only)
            exact ⟨R3.drew.2.1 0, R3.drew.2.1 1, R3.drew.2.1 2⟩
          refine tkY 0 ⟨some 46, .load 206 (.tmp 9), 206, "expression.go:62", #[], none⟩ ?_ rfl ⟨by rfl, ?_⟩ ?_
          rotate_left
          · intro wz hSz; (try dsimp only at hSz); go_simp; all_goals (with_reducible rfl)
          (try simp only [Act.put, List.setIfInBounds_toArray, List.set_cons_zero, List.set_cons_succ])
          refine tkY 1 ⟨some 47, .move (.tmp 6), 113, "expression.go:62", #[], none⟩ ?_ rfl ⟨by rfl, ?_⟩ ?_
          rotate_left
          · intro wz hSz; (try dsimp only at hSz); go_simp; all_goals (with_reducible rfl)
          (try simp only [Act.put, List.setIfInBounds_toArray, List.set_cons_zero, List.set_cons_succ])
          refine tkY 2 ⟨some 48, .move (.tmp 12), 3, "expression.go:62", #[], none⟩ ?_ rfl ⟨by rfl, ?_⟩ ?_
          rotate_left
          · intro wz hSz; (try dsimp only at hSz); go_simp; all_goals (with_reducible rfl)
          (try simp only [Act.put, List.setIfInBounds_toArray, List.set_cons_zero, List.set_cons_succ])
          refine tkY 3 ⟨some 49, .slice 113 (.tmp 47) (some (.tmp 48)) none none, 113, "expression.go:62", #[⟨1, .data⟩, ⟨2, .data⟩], none⟩ ?_ rfl ⟨by rfl, ?_⟩ ?_
          rotate_left
          · intro wz hSz; (try dsimp only at hSz); go_simp; all_goals (with_reducible rfl)
          (try simp only [Act.put, List.setIfInBounds_toArray, List.set_cons_zero, List.set_cons_succ])
          refine wpAnyH_ready (rs := [4]) (by kernel_rfl) (by simp) ?_
          refine AllReadyH.cons (o := ⟨some 50, .call { callee := Callee.value (.func 105), args := #[.tmp 46, .tmp 49], argTypes := #[206, 113] }, 4, "expression.go:62", #[⟨0, .data⟩, ⟨3, .data⟩], none⟩) rfl (fun K hK => ?_) AllReadyH.nil
          go_simp
          (go_at_call 105; (with_reducible refine Calls.mono (kT _ (by exact o3'.drew)) ?_); rintro e w4 ⟨rfl, h4⟩; have K4 := K3.drew.below h4; have R4 := R3.drew.below h4; have o4 := own_bel o3'.drew h4; have hbM := bel_after hb3.drew hb3.size h4)
          go_wp2_with fail
          refine hK.out _ _ ?_ (fun hHeld => ?_)
          · (try dsimp only)
            exact ⟨R4.2.1 0, R4.2.1 1, R4.2.1 2⟩
          clear hK K
          (try simp only [Act.put, List.setIfInBounds_toArray, List.set_cons_zero, List.set_cons_succ])
          refine tkY 5 ⟨some 51, .unOp UnOp.not 4 (.tmp 50), 4, "expression.go:62", #[⟨4, .data⟩], none⟩ ?_ rfl ⟨by rfl, ?_⟩ ?_
          rotate_left
          · intro wz hSz; (try dsimp only at hSz); go_simp; all_goals (with_reducible rfl)
          (try simp only [Act.put, List.setIfInBounds_toArray, List.set_cons_zero, List.set_cons_succ])
          refine wpAnyH_done (by kernel_rfl) ?_ _
          refine NoPanic.normal ?_
          go_wp2_with fail
          refine wp_region_noPanic ?_
          refine wp_region_held_drew (S := fun w' => w'.cell? ⟨w2.heap.size, 2, none⟩ = some (.int .i64 tt)) (by kernel_rfl) ?_ (fun hHeld => ?_)
          · (try dsimp only)
            exact R4.drew.2.1 2
          refine tkY 0 ⟨some 55, .move (.tmp 6), 113, "expression.go:65", #[], none⟩ ?_ rfl ⟨by rfl, ?_⟩ ?_
          rotate_left
          · intro wz hSz; (try dsimp only at hSz); go_simp; all_goals (with_reducible rfl)
          (try simp only [Act.put, List.setIfInBounds_toArray, List.set_cons_zero, List.set_cons_succ])
          refine tkY 1 ⟨some 56, .move (.tmp 12), 3, "expression.go:65", #[], none⟩ ?_ rfl ⟨by rfl, ?_⟩ ?_
          rotate_left
          · intro wz hSz; (try dsimp only at hSz); go_simp; all_goals (with_reducible rfl)
          (try simp only [Act.put, List.setIfInBounds_toArray, List.set_cons_zero, List.set_cons_succ])
          refine tkY 2 ⟨some 57, .slice 113 (.tmp 55) none (some (.tmp 56)) none, 113, "expression.go:65", #[⟨0, .data⟩, ⟨1, .data⟩], none⟩ ?_ rfl ⟨by rfl, ?_⟩ ?_
          rotate_left
          · intro wz hSz; (try dsimp only at hSz); go_simp; all_goals (with_reducible rfl)
          (try simp only [Act.put, List.setIfInBounds_toArray, List.set_cons_zero, List.set_cons_succ])
          refine tkY 3 ⟨some 58, .fieldAddr 206 (.tmp 9) 2, 0, "expression.go:65", #[], none⟩ ?_ rfl ⟨by rfl, ?_⟩ ?_
          rotate_left
          · intro wz hSz; (try dsimp only at hSz); go_simp; all_goals (with_reducible rfl)
          (try simp only [Act.put, List.setIfInBounds_toArray, List.set_cons_zero, List.set_cons_succ])
          refine tkY 4 ⟨some 59, .load 3 (.tmp 58), 3, "expression.go:65", #[⟨3, .data⟩], none⟩ ?_ rfl ⟨by rfl, ?_⟩ ?_
          rotate_left
          · intro wz hSz; (try dsimp only at hSz); go_simp; all_goals (with_reducible rfl)
          (try simp only [Act.put, List.setIfInBounds_toArray, List.set_cons_zero, List.set_cons_succ])
          refine wpAnyH_ready (rs := [5]) (by kernel_rfl) (by simp) ?_
          refine AllReadyH.cons (o := ⟨some 60, .buildSlice 113 1 #[(0, .tmp 59)], 113, "expression.go:65", #[⟨4, .data⟩], none⟩) rfl (fun K hK => ?_) AllReadyH.nil
          go_simp
          refine hK.out _ _ ?_ (fun hHeld => ?_)
          · (try dsimp only)
            exact (R4.drew.alloc _).2.1 2
          clear hK K
          (try simp only [Act.put, List.setIfInBounds_toArray, List.set_cons_zero, List.set_cons_succ])
          refine wpAnyH_ready (rs := [6]) (by kernel_rfl) (by simp) ?_
          refine AllReadyH.cons (o := ⟨some 61, .call { callee := Callee.builtin Builtin.append, args := #[.tmp 57, .tmp 60], argTypes := #[113, 113] }, 113, "expression.go:65", #[⟨2, .data⟩, ⟨5, .data⟩], none⟩) rfl (fun K hK => ?_) AllReadyH.nil
          have oC := (ownsRow_cut (m := m) (by omega) o4).drew
          refine step_append_lies _ rfl _ _ 113 rfl W0.heap.size 3 ti _ 1 8 Tryz.underlying113 hi hi0 hi1 hi2 rfl (by decide) (.slice (some ⟨gs, 0, none⟩) m sc) m ((vI st).take (m * 1)) rfl (own_bel oC (bel1 _)) ⟨w4.heap.size, 0, none⟩ 1 1 [.int .i64 tt] rfl rfl (cells_at (W := w4.drew) rfl _ _) (all_one rfl) (by decide) (by unfold maxLen; omega) (by omega) (by have := hbM.size; show W0.heap.size ≤ (w4.drew.alloc _).heap.size; rw [World.size_alloc]; show W0.heap.size ≤ w4.heap.size + 1; omega) _ rfl ?_
          intro g' c' w6 o6 gr hl6 _
          have b6 : Below W0.heap.size W0 w6 := grown_bel (hbM.drew.alloc hbM.size _) gr (Nat.le_refl _) (fun q hq => by cases hq; exact hgs)
          have R5 := R4.drew.alloc (.cells #[.int .i64 tt] 3)
          have R6 := R5.blk gr.size (gr.block _ R5.1 (by intro e; have e' : some w2.heap.size = some gs := e; injection e' with e'; omega))
          refine hK.out _ _ ?_ (fun hHeld => ?_)
          · (try dsimp only)
            exact R6.2.1 2
          clear hK K
          (try simp only [Act.put, List.setIfInBounds_toArray, List.set_cons_zero, List.set_cons_succ])
          refine tkY 7 ⟨some 6, .assign (.tmp 61), 113, "expression.go:65", #[⟨6, .data⟩, ⟨6, .chain⟩, ⟨0, .phase⟩, ⟨1, .phase⟩, ⟨2, .phase⟩, ⟨3, .phase⟩, ⟨4, .phase⟩, ⟨5, .phase⟩, ⟨6, .phase⟩], none⟩ ?_ rfl ⟨by rfl, ?_⟩ ?_
          rotate_left
          · intro wz hSz; (try dsimp only at hSz); go_simp; all_goals (with_reducible rfl)
          (try simp only [Act.put, List.setIfInBounds_toArray, List.set_cons_zero, List.set_cons_succ])
          refine wpAnyH_done (by kernel_rfl) ?_ _
          refine NoPanic.normal ?_
          go_wp2_with fail
          go_roundw
          case rel => exact ⟨k + 1, m + 1, st.take m ++ [tt], _, _, by omega, by omega, rfl, by go_num, ⟨by omega, by simp; omega⟩, hq, (all_app (fun s hs => hpos s (List.mem_of_mem_take hs)) hI), (by show World.ownsRow _ _ _ _ _ _ _; rw [show vI (st.take m ++ [tt]) = (vI st).take (m * 1) ++ [.int .i64 tt] by simp [vI, List.map_take]]; exact o6), b6⟩
          case measure => simp [intOf]; omega
      · have cR := cR (.inr hB)
        obtain ⟨m, rfl⟩ : ∃ m, n = m + 2 := ⟨n - 2, by omega⟩
        rw [hTwo ho1, hst] at hq
        rw [show ruO op = 2 by unfold ruO; rw [if_neg (by omega), if_neg (by omega)]] at cR
        clear hLeaf hOne hTwo cL
        have lm : m < st.length := by omega
        have lm1 : m + 1 < st.length := by omega
        rw [show m + 2 - 2 = m by omega, show m + 2 - 1 = m + 1 by omega] at hq
        rw [show st.getD m 0 = st[m] by simp [List.getD_eq_getElem?_getD, lm], show st.getD (m + 1) 0 = st[m + 1] by simp [List.getD_eq_getElem?_getD, lm1]] at hq
        obtain ⟨gs, cs', hsv, hcp, hgs, -⟩ := own_block ow (by omega)
        injection hsv with hsv1 _ hsv2
        subst hsv1
        subst hsv2
        have hRes := tk_two op st[m] st[m + 1] hB ho1
        have hIJ : ruJ op = ruI op := by unfold ruJ; rw [if_neg (by omega)]
        rw [← hIJ] at hRes
        have kT : ∀ X : World, X.ownsRow W0.heap.size 3 1 (.slice (some ⟨gs, 0, none⟩) (m + 2) sc) (m + 2) (vI st) → Calls Tryz.prog 105 #[.agg #[.int .i64 2, .int .i64 (ruT op), .int .i64 (ruJ op)], .slice (some ⟨gs, m, none⟩) 2 (sc - m)] X fun e w' => e = .returned (.bool (tkF (ruT op) st[m] [st[m], st[m + 1]])) ∧ Below X.heap.size X w' := fun X hX => takes_any 2 (ruT op) (ruJ op) [st[m], st[m + 1]] gs m (sc - m) X (by simp) (by simp) (own_lt hX gs rfl).2 (fun i h => by
          have hi2 : i = 0 ∨ i = 1 := by simp at h; omega
          rcases hi2 with rfl | rfl
          · exact (hX.cellAt m (by omega)).trans (vI_get lm)
          · exact (hX.cellAt (m + 1) (by omega)).trans (vI_get lm1))
        have hI : ¬ ruJ op = 0 := by unfold ruJ; rw [if_neg (by omega)]; unfold ruI; rw [if_neg (by omega)]; by_cases q : op = 1 ∨ op = 4 ∨ op = 20 ∨ op = 22 ∨ (30 ≤ op ∧ op ≤ 36) <;> simp [q]
        generalize ruT op = T at *
        clear hIJ
        generalize ruJ op = I at *
        generalize st[m] = ta at *
        generalize st[m + 1] = tb at *
        generalize resF op ta tb = tt at *
        generalize tkF T ta [ta, tb] = bb at *
        have i0 : (0 : Int) ≤ (m : Int) := by omega
        have i1 : m ≤ sc := by omega
        have i4 : (m : Int) ≤ (m : Int) + 2 := by omega
        have i5 : (m : Int) ≤ (sc : Int) := by omega
        have i2 : ¬ sc = m := by omega
        have i3 : decide (sc = m) = false := by simpa using i2
        have hgw := (own_lt ow gs rfl).2
        have K1 : Has (wr.alloc (.cells #[.int .i64 op, .int .i32 val, .string nm, .int .i64 ln, .int .i64 cl] 88)) wr.heap.size #[.int .i64 op, .int .i32 val, .string nm, .int .i64 ln, .int .i64 cl] := Has.new _ _ _ rfl
        have hb1 : Below W0.heap.size W0 (wr.alloc (.cells #[.int .i64 op, .int .i32 val, .string nm, .int .i64 ln, .int .i64 cl] 88)) := hb.alloc hb.size _
        have o1 := own_bel ow (bel1 (.cells #[.int .i64 op, .int .i32 val, .string nm, .int .i64 ln, .int .i64 cl] 88))
        have z1 : wr.heap.size < (wr.alloc (.cells #[.int .i64 op, .int .i32 val, .string nm, .int .i64 ln, .int .i64 cl] 88)).heap.size := K1.1
        go_wp2_with fail
        go_at_call 104
        refine Calls.mono (cR _) ?_
        rintro e w2 ⟨rfl, h2⟩
        have hb2 := bel_after hb1 hb1.size h2
        have o2 := own_bel o1 h2
        have K2 := K1.below h2
        have z2 := K2.1
        have K3 := K2.alloc (.cells #[.int .i64 2, .int .i64 T, .int .i64 I] 206)
        have hb3 : Below W0.heap.size W0 (w2.alloc (.cells #[.int .i64 2, .int .i64 T, .int .i64 I] 206)) := hb2.alloc hb2.size _
        have o3' := own_bel o2 (bel1 (.cells #[.int .i64 2, .int .i64 T, .int .i64 I] 206))
        have R3 : Has (w2.alloc (.cells #[.int .i64 2, .int .i64 T, .int .i64 I] 206)) w2.heap.size #[.int .i64 2, .int .i64 T, .int .i64 I] := Has.new _ _ _ rfl
        have hbX := bel_after hb0 hb0.size hb3
        obtain ⟨_, a1, a2⟩ := id K3
        obtain ⟨_, c1', c2'⟩ := id R3
        clear K1 K2 o1 o2 hb1
        go_wp2_with fail
        cases bb with
        | false =>
          simp only [Bool.false_eq_true, if_false] at hRes
          rw [if_pos hRes] at hq
          subst hq
          refine wp_region_noPanic ?_
          refine wp_region_held_drew (S := fun w' => w'.cell? ⟨w2.heap.size, 0, none⟩ = some (.int .i64 2) ∧ w'.cell? ⟨w2.heap.size, 1, none⟩ = some (.int .i64 T) ∧ w'.cell? ⟨w2.heap.size, 2, none⟩ = some (.int .i64 I)) (by kernel_rfl) ?_ (fun hHeld => ?_)
          · (try dsimp only)
            exact ⟨R3.drew.2.1 0, R3.drew.2.1 1, R3.drew.2.1 2⟩
          refine tkY 0 ⟨some 46, .load 206 (.tmp 9), 206, "expression.go:62", #[], none⟩ ?_ rfl ⟨by rfl, ?_⟩ ?_
          rotate_left
          · intro wz hSz; (try dsimp only at hSz); go_simp; all_goals (with_reducible rfl)
          (try simp only [Act.put, List.setIfInBounds_toArray, List.set_cons_zero, List.set_cons_succ])
          refine tkY 1 ⟨some 47, .move (.tmp 6), 113, "expression.go:62", #[], none⟩ ?_ rfl ⟨by rfl, ?_⟩ ?_
          rotate_left
          · intro wz hSz; (try dsimp only at hSz); go_simp; all_goals (with_reducible rfl)
          (try simp only [Act.put, List.setIfInBounds_toArray, List.set_cons_zero, List.set_cons_succ])
          refine tkY 2 ⟨some 48, .move (.tmp 12), 3, "expression.go:62", #[], none⟩ ?_ rfl ⟨by rfl, ?_⟩ ?_
          rotate_left
          · intro wz hSz; (try dsimp only at hSz); go_simp; all_goals (with_reducible rfl)
          (try simp only [Act.put, List.setIfInBounds_toArray, List.set_cons_zero, List.set_cons_succ])
          refine tkY 3 ⟨some 49, .slice 113 (.tmp 47) (some (.tmp 48)) none none, 113, "expression.go:62", #[⟨1, .data⟩, ⟨2, .data⟩], none⟩ ?_ rfl ⟨by rfl, ?_⟩ ?_
          rotate_left
          · intro wz hSz; (try dsimp only at hSz); go_simp; all_goals (with_reducible rfl)
          (try simp only [Act.put, List.setIfInBounds_toArray, List.set_cons_zero, List.set_cons_succ])
          refine wpAnyH_ready (rs := [4]) (by kernel_rfl) (by simp) ?_
          refine AllReadyH.cons (o := ⟨some 50, .call { callee := Callee.value (.func 105), args := #[.tmp 46, .tmp 49], argTypes := #[206, 113] }, 4, "expression.go:62", #[⟨0, .data⟩, ⟨3, .data⟩], none⟩) rfl (fun K hK => ?_) AllReadyH.nil
          go_simp
          (go_at_call 105; (with_reducible refine Calls.mono (kT _ (by exact o3'.drew)) ?_); rintro e w4 ⟨rfl, h4⟩; have K4 := K3.drew.below h4; have R4 := R3.drew.below h4; have o4 := own_bel o3'.drew h4; have hbM := bel_after hb3.drew hb3.size h4)
          go_wp2_with fail
          refine hK.out _ _ ?_ (fun hHeld => ?_)
          · (try dsimp only)
            exact ⟨R4.2.1 0, R4.2.1 1, R4.2.1 2⟩
          clear hK K
          (try simp only [Act.put, List.setIfInBounds_toArray, List.set_cons_zero, List.set_cons_succ])
          refine tkY 5 ⟨some 51, .unOp UnOp.not 4 (.tmp 50), 4, "expression.go:62", #[⟨4, .data⟩], none⟩ ?_ rfl ⟨by rfl, ?_⟩ ?_
          rotate_left
          · intro wz hSz; (try dsimp only at hSz); go_simp; all_goals (with_reducible rfl)
          (try simp only [Act.put, List.setIfInBounds_toArray, List.set_cons_zero, List.set_cons_succ])
          refine wpAnyH_done (by kernel_rfl) ?_ _
          refine NoPanic.normal ?_
          have hbZ := bel_after hb0 hb0.size hbM
          have KZ := K0.below hbM
          go_wp2_with fail
          obtain ⟨_, KZ1, KZ2⟩ := id KZ
          refine wp_region_noPanic ?_
          refine wp_region_held_drew (S := fun w' => w'.cell? ⟨wr.heap.size, 3, none⟩ = some (.int .i64 ln) ∧ w'.cell? ⟨wr.heap.size, 4, none⟩ = some (.int .i64 cl)) (by kernel_rfl) ?_ (fun hHeld => ?_)
          · (try dsimp only)
            exact ⟨K4.drew.2.1 3, K4.drew.2.1 4⟩
          refine tkY 0 ⟨some 52, .fieldAddr 88 (.tmp 8) 3, 0, "expression.go:63", #[{ on := 3, ground := Ground.gcOnly Departure.lateStores }], none⟩ ?_ rfl ⟨by rfl, ?_⟩ ?_
          rotate_left
          · intro wz hSz; (try dsimp only at hSz); go_simp; all_goals (with_reducible rfl)
          (try simp only [Act.put, List.setIfInBounds_toArray, List.set_cons_zero, List.set_cons_succ])
          refine tkY 1 ⟨some 53, .load 86 (.tmp 52), 86, "expression.go:63", #[⟨0, .data⟩, { on := 3, ground := Ground.gcOnly Departure.lateStores }], none⟩ ?_ rfl ⟨by rfl, ?_⟩ ?_
          rotate_left
          · intro wz hSz; (try dsimp only at hSz); go_simp; all_goals (with_reducible rfl)
          (try simp only [Act.put, List.setIfInBounds_toArray, List.set_cons_zero, List.set_cons_succ])
          refine tkY 2 ⟨some 54, .build 154 #[(0, .const (Value.int IntKind.i64 53)), (1, .tmp 53)], 154, "expression.go:63", #[⟨1, .data⟩, { on := 3, ground := Ground.gcOnly Departure.lateStores }], none⟩ ?_ rfl ⟨by rfl, ?_⟩ ?_
          rotate_left
          · intro wz hSz; (try dsimp only at hSz); go_simp; all_goals (with_reducible rfl)
          (try simp only [Act.put, List.setIfInBounds_toArray, List.set_cons_zero, List.set_cons_succ])
          refine tkY 3 ⟨some 4, .assign (.const (Value.int IntKind.i64 0)), 3, "expression.go:63", #[{ on := 0, ground := Ground.textOnly Departure.lateStores }, { on := 1, ground := Ground.textOnly Departure.lateStores }, { on := 2, ground := Ground.textOnly Departure.lateStores }], none⟩ ?_ rfl ⟨by rfl, ?_⟩ ?_
          rotate_left
          · intro wz hSz; (try dsimp only at hSz); go_simp; all_goals (with_reducible rfl)
          (try simp only [Act.put, List.setIfInBounds_toArray, List.set_cons_zero, List.set_cons_succ])
          refine wpAnyH_ready (rs := [4]) (by kernel_rfl) (by simp) ?_
          refine AllReadyH.cons (o := ⟨none, .store 154 (.tmp 5) (.tmp 54), 0, "expression.go:63", #[⟨2, .data⟩, ⟨3, .chain⟩, ⟨0, .phase⟩, ⟨1, .phase⟩, ⟨2, .phase⟩, ⟨3, .phase⟩], none⟩) rfl (fun K hK => ?_) AllReadyH.nil
          go_simp
          refine hK.out _ _ ?_ (fun hHeld => ?_)
          · (try dsimp only)
            exact ⟨(((K4.drew.far hne _).far hne _).far hne _).2.1 3, (((K4.drew.far hne _).far hne _).far hne _).2.1 4⟩
          clear hK K
          (try simp only [Act.put, List.setIfInBounds_toArray, List.set_cons_zero, List.set_cons_succ])
          refine wpAnyH_done (by kernel_rfl) ?_ _
          refine NoPanic.normal ?_
          go_wp2_with fail
          obtain ⟨y0, Y1, y2⟩ := (KZ.set3 (.int .i64 53) (.int .i64 ln) (.int .i64 cl)).drew
          exact bodyPost_ret (v := .tuple #[.int .i64 0, .agg #[.int .i64 53, .int .i64 ln, .int .i64 cl]]) (by simp [results, Tryz.results75, go_sem, Y1]) rfl ⟨⟨53, ln, cl, rfl, .inr ⟨rfl, rfl⟩⟩, (bel3 hbZ (Nat.le_refl _) _ _ _).drew⟩
        | true =>
          simp only [if_true] at hRes
          subst hRes
          rw [if_neg hI] at hq
          refine wp_region_noPanic ?_
          refine wp_region_held_drew (S := fun w' => w'.cell? ⟨w2.heap.size, 0, none⟩ = some (.int .i64 2) ∧ w'.cell? ⟨w2.heap.size, 1, none⟩ = some (.int .i64 T) ∧ w'.cell? ⟨w2.heap.size, 2, none⟩ = some (.int .i64 tt)) (by kernel_rfl) ?_ (fun hHeld => ?_)
          · (try dsimp only)
            exact ⟨R3.drew.2.1 0, R3.drew.2.1 1, R3.drew.2.1 2⟩
          refine tkY 0 ⟨some 46, .load 206 (.tmp 9), 206, "expression.go:62", #[], none⟩ ?_ rfl ⟨by rfl, ?_⟩ ?_
          rotate_left
          · intro wz hSz; (try dsimp only at hSz); go_simp; all_goals (with_reducible rfl)
          (try simp only [Act.put, List.setIfInBounds_toArray, List.set_cons_zero, List.set_cons_succ])
          refine tkY 1 ⟨some 47, .move (.tmp 6), 113, "expression.go:62", #[], none⟩ ?_ rfl ⟨by rfl, ?_⟩ ?_
          rotate_left
          · intro wz hSz; (try dsimp only at hSz); go_simp; all_goals (with_reducible rfl)
          (try simp only [Act.put, List.setIfInBounds_toArray, List.set_cons_zero, List.set_cons_succ])
          refine tkY 2 ⟨some 48, .move (.tmp 12), 3, "expression.go:62", #[], none⟩ ?_ rfl ⟨by rfl, ?_⟩ ?_
          rotate_left
          · intro wz hSz; (try dsimp only at hSz); go_simp; all_goals (with_reducible rfl)
          (try simp only [Act.put, List.setIfInBounds_toArray, List.set_cons_zero, List.set_cons_succ])
          refine tkY 3 ⟨some 49, .slice 113 (.tmp 47) (some (.tmp 48)) none none, 113, "expression.go:62", #[⟨1, .data⟩, ⟨2, .data⟩], none⟩ ?_ rfl ⟨by rfl, ?_⟩ ?_
          rotate_left
          · intro wz hSz; (try dsimp only at hSz); go_simp; all_goals (with_reducible rfl)
          (try simp only [Act.put, List.setIfInBounds_toArray, List.set_cons_zero, List.set_cons_succ])
          refine wpAnyH_ready (rs := [4]) (by kernel_rfl) (by simp) ?_
          refine AllReadyH.cons (o := ⟨some 50, .call { callee := Callee.value (.func 105), args := #[.tmp 46, .tmp 49], argTypes := #[206, 113] }, 4, "expression.go:62", #[⟨0, .data⟩, ⟨3, .data⟩], none⟩) rfl (fun K hK => ?_) AllReadyH.nil
          go_simp
          (go_at_call 105; (with_reducible refine Calls.mono (kT _ (by exact o3'.drew)) ?_); rintro e w4 ⟨rfl, h4⟩; have K4 := K3.drew.below h4; have R4 := R3.drew.below h4; have o4 := own_bel o3'.drew h4; have hbM := bel_after hb3.drew hb3.size h4)
          go_wp2_with fail
          refine hK.out _ _ ?_ (fun hHeld => ?_)
          · (try dsimp only)
            exact ⟨R4.2.1 0, R4.2.1 1, R4.2.1 2⟩
          clear hK K
          (try simp only [Act.put, List.setIfInBounds_toArray, List.set_cons_zero, List.set_cons_succ])
          refine tkY 5 ⟨some 51, .unOp UnOp.not 4 (.tmp 50), 4, "expression.go:62", #[⟨4, .data⟩], none⟩ ?_ rfl ⟨by rfl, ?_⟩ ?_
          rotate_left
          · intro wz hSz; (try dsimp only at hSz); go_simp; all_goals (with_reducible rfl)
          (try simp only [Act.put, List.setIfInBounds_toArray, List.set_cons_zero, List.set_cons_succ])
          refine wpAnyH_done (by kernel_rfl) ?_ _
          refine NoPanic.normal ?_
          go_wp2_with fail
          refine wp_region_noPanic ?_
          refine wp_region_held_drew (S := fun w' => w'.cell? ⟨w2.heap.size, 2, none⟩ = some (.int .i64 tt)) (by kernel_rfl) ?_ (fun hHeld => ?_)
          · (try dsimp only)
            exact R4.drew.2.1 2
          refine tkY 0 ⟨some 55, .move (.tmp 6), 113, "expression.go:65", #[], none⟩ ?_ rfl ⟨by rfl, ?_⟩ ?_
          rotate_left
          · intro wz hSz; (try dsimp only at hSz); go_simp; all_goals (with_reducible rfl)
          (try simp only [Act.put, List.setIfInBounds_toArray, List.set_cons_zero, List.set_cons_succ])
          refine tkY 1 ⟨some 56, .move (.tmp 12), 3, "expression.go:65", #[], none⟩ ?_ rfl ⟨by rfl, ?_⟩ ?_
          rotate_left
          · intro wz hSz; (try dsimp only at hSz); go_simp; all_goals (with_reducible rfl)
          (try simp only [Act.put, List.setIfInBounds_toArray, List.set_cons_zero, List.set_cons_succ])
          refine tkY 2 ⟨some 57, .slice 113 (.tmp 55) none (some (.tmp 56)) none, 113, "expression.go:65", #[⟨0, .data⟩, ⟨1, .data⟩], none⟩ ?_ rfl ⟨by rfl, ?_⟩ ?_
          rotate_left
          · intro wz hSz; (try dsimp only at hSz); go_simp; all_goals (with_reducible rfl)
          (try simp only [Act.put, List.setIfInBounds_toArray, List.set_cons_zero, List.set_cons_succ])
          refine tkY 3 ⟨some 58, .fieldAddr 206 (.tmp 9) 2, 0, "expression.go:65", #[], none⟩ ?_ rfl ⟨by rfl, ?_⟩ ?_
          rotate_left
          · intro wz hSz; (try dsimp only at hSz); go_simp; all_goals (with_reducible rfl)
          (try simp only [Act.put, List.setIfInBounds_toArray, List.set_cons_zero, List.set_cons_succ])
          refine tkY 4 ⟨some 59, .load 3 (.tmp 58), 3, "expression.go:65", #[⟨3, .data⟩], none⟩ ?_ rfl ⟨by rfl, ?_⟩ ?_
          rotate_left
          · intro wz hSz; (try dsimp only at hSz); go_simp; all_goals (with_reducible rfl)
          (try simp only [Act.put, List.setIfInBounds_toArray, List.set_cons_zero, List.set_cons_succ])
          refine wpAnyH_ready (rs := [5]) (by kernel_rfl) (by simp) ?_
          refine AllReadyH.cons (o := ⟨some 60, .buildSlice 113 1 #[(0, .tmp 59)], 113, "expression.go:65", #[⟨4, .data⟩], none⟩) rfl (fun K hK => ?_) AllReadyH.nil
          go_simp
          refine hK.out _ _ ?_ (fun hHeld => ?_)
          · (try dsimp only)
            exact (R4.drew.alloc _).2.1 2
          clear hK K
          (try simp only [Act.put, List.setIfInBounds_toArray, List.set_cons_zero, List.set_cons_succ])
          refine wpAnyH_ready (rs := [6]) (by kernel_rfl) (by simp) ?_
          refine AllReadyH.cons (o := ⟨some 61, .call { callee := Callee.builtin Builtin.append, args := #[.tmp 57, .tmp 60], argTypes := #[113, 113] }, 113, "expression.go:65", #[⟨2, .data⟩, ⟨5, .data⟩], none⟩) rfl (fun K hK => ?_) AllReadyH.nil
          have oC := (ownsRow_cut (m := m) (by omega) o4).drew
          refine step_append_lies _ rfl _ _ 113 rfl W0.heap.size 3 ti _ 1 8 Tryz.underlying113 hi hi0 hi1 hi2 rfl (by decide) (.slice (some ⟨gs, 0, none⟩) m sc) m ((vI st).take (m * 1)) rfl (own_bel oC (bel1 _)) ⟨w4.heap.size, 0, none⟩ 1 1 [.int .i64 tt] rfl rfl (cells_at (W := w4.drew) rfl _ _) (all_one rfl) (by decide) (by unfold maxLen; omega) (by omega) (by have := hbM.size; show W0.heap.size ≤ (w4.drew.alloc _).heap.size; rw [World.size_alloc]; show W0.heap.size ≤ w4.heap.size + 1; omega) _ rfl ?_
          intro g' c' w6 o6 gr hl6 _
          have b6 : Below W0.heap.size W0 w6 := grown_bel (hbM.drew.alloc hbM.size _) gr (Nat.le_refl _) (fun q hq => by cases hq; exact hgs)
          have R5 := R4.drew.alloc (.cells #[.int .i64 tt] 3)
          have R6 := R5.blk gr.size (gr.block _ R5.1 (by intro e; have e' : some w2.heap.size = some gs := e; injection e' with e'; omega))
          refine hK.out _ _ ?_ (fun hHeld => ?_)
          · (try dsimp only)
            exact R6.2.1 2
          clear hK K
          (try simp only [Act.put, List.setIfInBounds_toArray, List.set_cons_zero, List.set_cons_succ])
          refine tkY 7 ⟨some 6, .assign (.tmp 61), 113, "expression.go:65", #[⟨6, .data⟩, ⟨6, .chain⟩, ⟨0, .phase⟩, ⟨1, .phase⟩, ⟨2, .phase⟩, ⟨3, .phase⟩, ⟨4, .phase⟩, ⟨5, .phase⟩, ⟨6, .phase⟩], none⟩ ?_ rfl ⟨by rfl, ?_⟩ ?_
          rotate_left
          · intro wz hSz; (try dsimp only at hSz); go_simp; all_goals (with_reducible rfl)
          (try simp only [Act.put, List.setIfInBounds_toArray, List.set_cons_zero, List.set_cons_succ])
          refine wpAnyH_done (by kernel_rfl) ?_ _
          refine NoPanic.normal ?_
          go_wp2_with fail
          go_roundw
          case rel => exact ⟨k + 1, m + 1, st.take m ++ [tt], _, _, by omega, by omega, rfl, by go_num, ⟨by omega, by simp; omega⟩, hq, (all_app (fun s hs => hpos s (List.mem_of_mem_take hs)) hI), (by show World.ownsRow _ _ _ _ _ _ _; rw [show vI (st.take m ++ [tt]) = (vI st).take (m * 1) ++ [.int .i64 tt] by simp [vI, List.map_take]]; exact o6), b6⟩
          case measure => simp [intOf]; omega
end Go.Proofs.YtnicolaphmffkaaGreatDoor
