import Derived.Test.YtcajejfddfiidaaDoorTrC
import Derived.Test.YtcajejfddfiidaaDoorTrW
namespace Go.Proofs.YtcajejfddfiidaaDoor
open Go.RowKit
set_option linter.unusedVariables false
set_option linter.unusedSimpArgs false

theorem libCells (x : ByteArray) : byteCells x = Lib.byteCells x.data.toList := rfl
theorem bc_app (x y : ByteArray) : byteCells (x ++ y) = byteCells x ++ byteCells y := by unfold byteCells; simp
theorem to_arr (x : ByteArray) : (⟨x.data.toList.toArray⟩ : ByteArray) = x := by apply WideShapes.bytes_inj; simp
set_option maxRecDepth 100000 in
set_option maxHeartbeats 4000000 in
theorem trace_any (L : List En) (v : Value) (w : World) (hPw : Pw w) (hL : Fl 2 En.cs w v L) (hh : ∀ e ∈ L, e.heads.size ≤ 9223372036854775807) (hl : L.length ≤ 9223372036854775807) :
    Calls Tryd.prog 10 #[v] w fun e w' => e = .returned (anV (trA L)) ∧ Below w.heap.size w w' := by
  obtain ⟨va, vc, rfl, kL⟩ := hL.any
  unfold trA
  by_cases hbig : 65536 < L.length
  case pos =>
    have t1 : (65536 : Int) < (L.length : Int) := by omega
    rw [if_pos hbig]
    go_enter Tryd.func10, Tryd.ntmps10
    go_wp2_with fail
    go_ret2
    exact ⟨rfl, Below.refl _ _⟩
  rw [if_neg hbig]
  have t1 : ¬ (65536 : Int) < (L.length : Int) := by omega
  have hA0 : Hid ((trR 0 0 (L.drop 0)).map (fun t => (⟨#[]⟩ : ByteArray) ++ t) = trR 0 0 L) := by
    show _ = _
    rw [List.drop_zero]
    cases trR 0 0 L with
    | none => rfl
    | some t => exact congrArg some (by apply WideShapes.bytes_inj; simp)
  generalize trR 0 0 L = A at *
  clear hL
  have hI0 : Lib.IsBuilder 57 5 w.heap.size w.heap.size (byteCells ⟨#[]⟩) (w.alloc (.cells #[.pointer none, .slice none 0 0] 57)) := Lib.fresh_isBuilder 57 5 w
  have hb0 : Below w.heap.size w (w.alloc (.cells #[.pointer none, .slice none 0 0] 57)) := (Below.refl _ _).alloc (Nat.le_refl _) _
  go_enter Tryd.func10, Tryd.ntmps10
  go_wp2_with fail
  go_loopw [5] (fun nx wr => ∃ (k : Nat) (x : ByteArray), k ≤ L.length ∧ x.size ≤ k * 200 ∧ nx = .int .i64 (k : Int) ∧ Hid ((trR k k (L.drop k)).map (fun t => x ++ t) = A) ∧ Hid (Lib.IsBuilder 57 5 w.heap.size w.heap.size (byteCells x) wr) ∧ Hid (Below w.heap.size w wr)) (fun nx _ => L.length - (intOf nx).toNat)
  case atStart => exact ⟨0, ⟨#[]⟩, by omega, by decide, rfl, hA0, hI0, hb0⟩
  case round =>
    clear hA0 hI0 hb0
    obtain ⟨k, x, hk, hx, rfl, hA, hI, hb'⟩ := hrel
    have hb := hb'.out
    clear hb'
    by_cases hlt : k < L.length
    case neg =>
      have t2 : ¬ (k : Int) < (L.length : Int) := by omega
      have hA2 := hA.out
      rw [List.drop_eq_nil_of_le (by omega)] at hA2
      have hA3 : A = some x := by
        rw [← hA2]
        exact congrArg some (by apply WideShapes.bytes_inj; simp)
      subst hA3
      have k21 := Tryd.Builder_String_any w.heap.size w.heap.size x.data.toList wr (by rw [← libCells]; exact hI.out) hb.size
      rw [to_arr] at k21
      clear hA hA2 kL hI
      go_wp2_with fail
      go_at_call 27
      refine Calls.mono k21 ?_
      rintro e w1 ⟨rfl, h1⟩
      have hb1 := hb.trans h1
      go_wp2_with fail
      go_ret2
      exact ⟨rfl, hb1⟩
    have t2 : (k : Int) < (L.length : Int) := by omega
    have t3 : (0 : Int) ≤ (k : Int) := by omega
    obtain ⟨g, o, rfl, hg, hx2⟩ := kL.resolve_left (by intro e; rw [e] at hlt; simp at hlt)
    have p0 := (hb.cell (p := ⟨g, _, none⟩) hg).trans (hx2 k hlt 0 _ rfl)
    have p1 := (hb.cell (p := ⟨g, _, none⟩) hg).trans (hx2 k hlt 1 _ rfl)
    simp only [Nat.add_zero] at p0
    have k17 := fun (X : World) => isHeads_any L[k].heads X (hh _ (List.getElem_mem hlt))
    have k18 := fun (X : World) => isStage_any L[k].stage X
    have hA1 := hA.out
    rw [trR_at k k L k hlt] at hA1
    have hsz := @toB_sz L[k]
    have hN : Hid (toB L[k] = true → ∀ (p : Nat) (hp : p < L.length), L[p] = L[k] → ∀ V, trR k p (L.drop p) = V → (if nxS L[k] (L.drop (p + 1)) then trR k (p + 1) (L.drop (p + 1)) else (trR (p + 1) (p + 1) (L.drop (p + 1))).map fun t => lnF k p L[k].heads L[k].stage ++ t) = V) := by
      intro hT p hp he V hV
      rw [← hV, trR_at k p L p hp, he, if_pos hT]
    have hV0 : Hid ((trR k k (L.drop k)).map (fun t => x ++ t) = A) := hA
    clear hA
    unfold toB at hsz hA1
    cases hH : hdB L[k].heads with
    | false =>
      rw [hH] at hA1 k17
      have hA3 : A = none := by rw [← hA1]; rfl
      subst hA3
      clear hA1 hsz hN hV0 hI hx2
      generalize L[k].heads = hk at *
      generalize L[k].stage = sk at *
      have hb1 := hb.alloc hb.size (.cells #[.string hk, .int .i64 sk, .int .i64 (k : Int), .int .i64 0] 50)
      go_wp2_with fail
      go_at_call 23
      refine Calls.mono (k17 _) ?_
      rintro e w1 ⟨rfl, hw1⟩
      have hw2 := hw1.symm
      clear hw1
      subst hw2
      go_wp2_with fail
      go_ret2
      exact ⟨rfl, hb1⟩
    | true =>
    cases hS : stB L[k].stage with
    | false =>
      rw [hH, hS] at hA1
      rw [hH] at k17
      rw [hS] at k18
      have hA3 : A = none := by rw [← hA1]; rfl
      subst hA3
      clear hA1 hsz hN hV0 hI hx2
      generalize L[k].heads = hk at *
      generalize L[k].stage = sk at *
      have hb1 := hb.alloc hb.size (.cells #[.string hk, .int .i64 sk, .int .i64 (k : Int), .int .i64 0] 50)
      go_wp2_with fail
      go_at_call 23
      refine Calls.mono (k17 _) ?_
      rintro e w1 ⟨rfl, hw1⟩
      have hw2 := hw1.symm
      clear hw1
      subst hw2
      go_wp2_with fail
      go_at_call 24
      refine Calls.mono (k18 _) ?_
      rintro e w1 ⟨rfl, hw1⟩
      have hw2 := hw1.symm
      clear hw1
      subst hw2
      go_wp2_with fail
      go_ret2
      exact ⟨rfl, hb1⟩
    | true =>
      rw [hH] at k17
      rw [hS] at k18
      have hT : toB L[k] = true := by unfold toB; rw [hH, hS]; rfl
      have hN2 : Hid (∀ (p : Nat) (hp : p < L.length), L[p] = L[k] → ∀ V, trR k p (L.drop p) = V → (if nxS L[k] (L.drop (p + 1)) then trR k (p + 1) (L.drop (p + 1)) else (trR (p + 1) (p + 1) (L.drop (p + 1))).map fun t => lnF k p L[k].heads L[k].stage ++ t) = V) := hN.out hT
      obtain ⟨z1, z2, z3⟩ := hsz (by rw [hH, hS]; rfl)
      have hlz := fun (p : Nat) (hp : p ≤ 65536) => ln_size k p L[k].heads L[k].stage (by omega) hp z1 ⟨by omega, by omega⟩
      have hlz' : Hid (∀ (p : Nat), p ≤ 65536 → (lnF k p L[k].heads L[k].stage).size ≤ 200) := hlz
      have k20 : Hid (∀ (p : Nat) (hp : p ≤ 65536) (X : World), Pw X → Calls Tryd.prog 26 #[.agg #[.string L[k].heads, .int .i64 L[k].stage, .int .i64 (k : Int), .int .i64 (p : Int)]] X fun e w' => e = .returned (.string (lnF k p L[k].heads L[k].stage)) ∧ Below X.heap.size X w') := fun p hp X hX => line_any k p L[k].heads L[k].stage X hX (by omega) hp z1 ⟨by omega, by omega⟩
      have heq : Hid (∀ (n : Nat) (hn : n < L.length), eqE L[n] L[k] = true → L[n] = L[k]) := fun n hn h => eqE_of h
      clear hN hlz hsz hA1 hT hH hS
      generalize hek : L[k] = ek at *
      obtain ⟨hk, sk⟩ := ek
      have hbw := hb
      have hb1 : Below wr.heap.size wr (wr.alloc (.cells #[.string hk, .int .i64 sk, .int .i64 (k : Int), .int .i64 0] 50)) := (Below.refl _ _).alloc (Nat.le_refl _) _
      have K1 : Has (wr.alloc (.cells #[.string hk, .int .i64 sk, .int .i64 (k : Int), .int .i64 0] 50)) wr.heap.size #[.string hk, .int .i64 sk, .int .i64 (k : Int), .int .i64 0] := Has.new _ _ _ rfl
      go_wp2_with fail
      go_at_call 23
      refine Calls.mono (k17 _) ?_
      rintro e w1 ⟨rfl, hw1⟩
      have hw2 := hw1.symm
      clear hw1
      subst hw2
      go_wp2_with fail
      go_at_call 24
      refine Calls.mono (k18 _) ?_
      rintro e w1 ⟨rfl, hw1⟩
      have hw2 := hw1.symm
      clear hw1
      subst hw2
      go_wp2_with fail
      clear k17 k18 p0 p1
      obtain ⟨WZ, rfl⟩ : ∃ WZ, WZ = wr := ⟨wr, rfl⟩
      go_loopw [5] (fun nx wv => ∃ (n p : Nat), n ≤ L.length ∧ k ≤ p ∧ p < L.length ∧ ((n = k ∧ p = k) ∨ n = p + 1) ∧ nx = .int .i64 (n : Int) ∧ Hid (∀ h : p < L.length, L[p] = ⟨hk, sk⟩) ∧ Hid ((trR k p (L.drop p)).map (fun t => x ++ t) = A) ∧ Hid (Has wv WZ.heap.size #[.string hk, .int .i64 sk, .int .i64 (k : Int), .int .i64 0]) ∧ Hid (Below WZ.heap.size WZ wv)) (fun nx _ => L.length - (intOf nx).toNat)
      case atStart => exact ⟨k, k, by omega, by omega, hlt, .inl ⟨rfl, rfl⟩, rfl, (fun _ => hek : ∀ h : k < L.length, L[k] = ⟨hk, sk⟩), hV0, K1, hb1⟩
      case round =>
        clear hV0 K1 hb1
        obtain ⟨n, p, hnl, hkp, hp, hnp, rfl, hLp', hV, Ks', hbs'⟩ := hrel
        have hLp := hLp'.out hp
        have Ks := Ks'.out
        have hbs := hbs'.out
        clear hLp' Ks' hbs'
        have hbi := bel_after hbw hbw.size hbs
        by_cases hn : n < L.length
        case neg =>
          have s1 : ¬ (n : Int) < (L.length : Int) := by omega
          obtain rfl : n = p + 1 := by omega
          have s3 : ¬ (p : Int) + 1 < (L.length : Int) := by omega
          have hnxf := nxS_end (⟨hk, sk⟩ : En) L (p + 1) (by omega)
          clear hx2
          go_upto_region 9 with fail
          refine wp_region_noPanic ?_
          refine wp_region_held_drew (S := fun w' => w'.cell? ⟨WZ.heap.size, 0, none⟩ = some (.string hk) ∧ w'.cell? ⟨WZ.heap.size, 1, none⟩ = some (.int .i64 sk)) (by kernel_rfl) ?_ (fun hHeld => ?_)
          · (try dsimp only)
            exact ⟨Ks.drew.2.1 0, Ks.drew.2.1 1⟩
          refine wpAnyH_take (i := 0) (oi := { dst := some 32, op := Op.move (Operand.tmp 5), type := 3, pos := "trace.go:29", after := #[], guard := none }) (v := ?_) rfl (by kernel_rfl) (by kernel_rfl) (by kernel_rfl) (fun _ _ _ h => h) (Or.inl ⟨by rfl, ?_⟩) (by assumption) ?_
          rotate_left
          · intro wz hSz; (try dsimp only at hSz); go_simp; all_goals (with_reducible rfl)
          (try simp only [Act.put, List.setIfInBounds_toArray, List.set_cons_zero, List.set_cons_succ])
          refine wpAnyH_take (i := 1) (oi := { dst := some 33, op := Op.move (Operand.tmp 0), type := 28, pos := "trace.go:29", after := #[], guard := none }) (v := ?_) rfl (by kernel_rfl) (by kernel_rfl) (by kernel_rfl) (fun _ _ _ h => h) (Or.inl ⟨by rfl, ?_⟩) (by assumption) ?_
          rotate_left
          · intro wz hSz; (try dsimp only at hSz); go_simp; all_goals (with_reducible rfl)
          (try simp only [Act.put, List.setIfInBounds_toArray, List.set_cons_zero, List.set_cons_succ])
          refine wpAnyH_take (i := 2) (oi := { dst := some 34, op := Op.call { callee := Callee.builtin Builtin.len, args := #[Operand.tmp 33], argTypes := #[28] }, type := 3, pos := "trace.go:29", after := #[{ on := 1, ground := Ground.data }], guard := none }) (v := ?_) rfl (by kernel_rfl) (by kernel_rfl) (by kernel_rfl) (fun _ _ _ h => h) (Or.inl ⟨by rfl, ?_⟩) (by assumption) ?_
          rotate_left
          · intro wz hSz; (try dsimp only at hSz); go_simp; all_goals (with_reducible rfl)
          (try simp only [Act.put, List.setIfInBounds_toArray, List.set_cons_zero, List.set_cons_succ])
          refine wpAnyH_take (i := 3) (oi := { dst := some 35, op := Op.binOp BinOp.lss 3 (Operand.tmp 32) (Operand.tmp 34) 3, type := 4, pos := "trace.go:29", after := #[{ on := 0, ground := Ground.data }, { on := 2, ground := Ground.data }], guard := none }) (v := ?_) rfl (by kernel_rfl) (by kernel_rfl) (by kernel_rfl) (fun _ _ _ h => h) (Or.inl ⟨by rfl, ?_⟩) (by assumption) ?_
          rotate_left
          · intro wz hSz; (try dsimp only at hSz); go_simp; all_goals (with_reducible rfl)
          (try simp only [Act.put, List.setIfInBounds_toArray, List.set_cons_zero, List.set_cons_succ])
          refine wpAnyH_take (i := 4) (oi := { dst := some 36, op := Op.move (Operand.tmp 35), type := 4, pos := "trace.go:29", after := #[{ on := 3, ground := Ground.data }], guard := none }) (v := ?_) rfl (by kernel_rfl) (by kernel_rfl) (by kernel_rfl) (fun _ _ _ h => h) (Or.inl ⟨by rfl, ?_⟩) (by assumption) ?_
          rotate_left
          · intro wz hSz; (try dsimp only at hSz); go_simp; all_goals (with_reducible rfl)
          (try simp only [Act.put, List.setIfInBounds_toArray, List.set_cons_zero, List.set_cons_succ])
          refine wpAnyH_take (i := 5) (oi := { dst := some 37, op := Op.move (Operand.tmp 0), type := 28, pos := "trace.go:29", after := #[{ on := 4, ground := Ground.guard }], guard := some (4, true) }) (v := undef) rfl (by kernel_rfl) (by kernel_rfl) (by kernel_rfl) (fun _ _ _ h => h) (Or.inr ⟨by rfl, rfl⟩) (by assumption) ?_
          (try simp only [Act.put, List.setIfInBounds_toArray, List.set_cons_zero, List.set_cons_succ])
          refine wpAnyH_take (i := 6) (oi := { dst := some 38, op := Op.move (Operand.tmp 5), type := 3, pos := "trace.go:29", after := #[{ on := 4, ground := Ground.guard }], guard := some (4, true) }) (v := undef) rfl (by kernel_rfl) (by kernel_rfl) (by kernel_rfl) (fun _ _ _ h => h) (Or.inr ⟨by rfl, rfl⟩) (by assumption) ?_
          (try simp only [Act.put, List.setIfInBounds_toArray, List.set_cons_zero, List.set_cons_succ])
          refine wpAnyH_take (i := 7) (oi := { dst := some 39, op := Op.indexAddr 28 (Operand.tmp 37) (Operand.tmp 38), type := 0, pos := "trace.go:29", after := #[{ on := 5, ground := Ground.data }, { on := 6, ground := Ground.data }, { on := 4, ground := Ground.guard }], guard := some (4, true) }) (v := undef) rfl (by kernel_rfl) (by kernel_rfl) (by kernel_rfl) (fun _ _ _ h => h) (Or.inr ⟨by rfl, rfl⟩) (by assumption) ?_
          (try simp only [Act.put, List.setIfInBounds_toArray, List.set_cons_zero, List.set_cons_succ])
          refine wpAnyH_take (i := 8) (oi := { dst := some 40, op := Op.load 34 (Operand.tmp 39), type := 34, pos := "trace.go:29", after := #[{ on := 7, ground := Ground.data }, { on := 4, ground := Ground.guard }], guard := some (4, true) }) (v := undef) rfl (by kernel_rfl) (by kernel_rfl) (by kernel_rfl) (fun _ _ _ h => h) (Or.inr ⟨by rfl, rfl⟩) (by assumption) ?_
          (try simp only [Act.put, List.setIfInBounds_toArray, List.set_cons_zero, List.set_cons_succ])
          refine wpAnyH_take (i := 9) (oi := { dst := some 41, op := Op.fieldAddr 50 (Operand.tmp 6) 0, type := 0, pos := "trace.go:29", after := #[{ on := 4, ground := Ground.guard }], guard := some (4, true) }) (v := undef) rfl (by kernel_rfl) (by kernel_rfl) (by kernel_rfl) (fun _ _ _ h => h) (Or.inr ⟨by rfl, rfl⟩) (by assumption) ?_
          (try simp only [Act.put, List.setIfInBounds_toArray, List.set_cons_zero, List.set_cons_succ])
          refine wpAnyH_take (i := 10) (oi := { dst := some 42, op := Op.load 34 (Operand.tmp 41), type := 34, pos := "trace.go:29", after := #[{ on := 9, ground := Ground.data }, { on := 4, ground := Ground.guard }], guard := some (4, true) }) (v := undef) rfl (by kernel_rfl) (by kernel_rfl) (by kernel_rfl) (fun _ _ _ h => h) (Or.inr ⟨by rfl, rfl⟩) (by assumption) ?_
          (try simp only [Act.put, List.setIfInBounds_toArray, List.set_cons_zero, List.set_cons_succ])
          refine wpAnyH_take (i := 11) (oi := { dst := some 43, op := Op.binOp BinOp.eql 34 (Operand.tmp 40) (Operand.tmp 42) 34, type := 4, pos := "trace.go:29", after := #[{ on := 8, ground := Ground.data }, { on := 10, ground := Ground.data }, { on := 4, ground := Ground.guard }], guard := some (4, true) }) (v := undef) rfl (by kernel_rfl) (by kernel_rfl) (by kernel_rfl) (fun _ _ _ h => h) (Or.inr ⟨by rfl, rfl⟩) (by assumption) ?_
          (try simp only [Act.put, List.setIfInBounds_toArray, List.set_cons_zero, List.set_cons_succ])
          refine wpAnyH_take (i := 12) (oi := { dst := some 44, op := Op.pick (Operand.tmp 36) (Operand.tmp 43) (Operand.const (Value.bool false)), type := 4, pos := "trace.go:29", after := #[{ on := 4, ground := Ground.data }, { on := 11, ground := Ground.data }], guard := none }) (v := ?_) rfl (by kernel_rfl) (by kernel_rfl) (by kernel_rfl) (fun _ _ _ h => h) (Or.inl ⟨by rfl, ?_⟩) (by assumption) ?_
          rotate_left
          · intro wz hSz; (try dsimp only at hSz); go_simp; all_goals (with_reducible rfl)
          (try simp only [Act.put, List.setIfInBounds_toArray, List.set_cons_zero, List.set_cons_succ])
          refine wpAnyH_done (by kernel_rfl) ?_ _
          refine NoPanic.normal ?_
          have hA3 : Hid ((trR (p + 1) (p + 1) (L.drop (p + 1))).map (fun t => x ++ lnF k p hk sk ++ t) = A) := by
            show _ = _
            rw [← hV.out, ← hN2.out p hp hLp _ rfl, hnxf]
            exact (map_app _ _ _).symm
          clear hV hN2 heq
          have wp : IntKind.i64.wrap (p : Int) = (p : Int) := wrap64 _ (by omega)
          have wp2 : ((p + 1 : Nat) : Int) - 1 = (p : Int) := by omega
          have Kd := Ks.drew
          obtain ⟨_, v1, v2⟩ := id Kd
          go_upto_region 12 with fail
          have K9 : Has (wr.setCell ⟨WZ.heap.size, 3, none⟩ (.int .i64 (p : Int))).drew WZ.heap.size #[.string hk, .int .i64 sk, .int .i64 (k : Int), .int .i64 (p : Int)] := (show Has (wr.setCell ⟨WZ.heap.size, 3, none⟩ (.int .i64 (p : Int))) WZ.heap.size #[.string hk, .int .i64 sk, .int .i64 (k : Int), .int .i64 (p : Int)] from Ks.set 3 (by simp) _).drew
          have hb9 : Below WZ.heap.size WZ (wr.setCell ⟨WZ.heap.size, 3, none⟩ (.int .i64 (p : Int))).drew := (hbs.setCell (p := ⟨WZ.heap.size, 3, none⟩) (Nat.le_refl _) _).drew
          have hI9 := isB_below hI.out hb9
          have hW9 := bel_after hbw hbw.size hb9
          have k20' := k20.out p (by omega) _ (hPw.below hW9)
          have hl6 := hlz'.out p (by omega)
          clear v1 v2 k20 hlz'
          obtain ⟨_, v1, v2⟩ := id K9
          generalize (wr.setCell ⟨WZ.heap.size, 3, none⟩ (.int .i64 (p : Int))).drew = W9 at *
          go_wp2_with fail
          go_at_call 26
          refine Calls.mono k20' ?_
          rintro e w5 ⟨rfl, h5⟩
          have hI5 := isB_below hI9 h5
          have hW5 := bel_after hW9 hW9.size h5
          have k19 := writeString_any w.heap.size w.heap.size (byteCells x) (lnF k p hk sk) w5 hI5 (by rw [byteCells_length]; omega) hW5.size
          clear v1 v2 hI9 hI5
          go_wp2_with fail
          go_at_call 25
          refine Calls.mono k19 ?_
          rintro e w6 ⟨rfl, hB6, hb6, _⟩
          have hI6 : Lib.IsBuilder 57 5 w.heap.size w.heap.size (byteCells (x ++ lnF k p hk sk)) w6 := by rw [bc_app]; exact .inr hB6
          have hW6 := hW5.trans hb6
          go_wp2_with fail
          go_roundw
          case rel => exact ⟨p + 1, x ++ lnF k p hk sk, by omega, by rw [ByteArray.size_append]; omega, by first | rfl | go_num, hA3, hI6, hW6⟩
          case measure => simp [intOf]; omega
        case pos =>
          have s1 : (n : Int) < (L.length : Int) := by omega
          have s2 : (0 : Int) ≤ (n : Int) := by omega
          have n0 := (hbi.cell (p := ⟨g, _, none⟩) hg).trans (hx2 n hn 0 _ rfl)
          have n1 := (hbi.cell (p := ⟨g, _, none⟩) hg).trans (hx2 n hn 1 _ rfl)
          simp only [Nat.add_zero] at n0
          cases hE : eqE L[n] ⟨hk, sk⟩ with
          | true =>
            have hee := heq.out n hn hE
            rw [hee] at n0 n1
            have hV2 : Hid ((trR k n (L.drop n)).map (fun t => x ++ t) = A) := by
              show _ = _
              rcases hnp with ⟨e1, e2⟩ | e1
              · subst e1; subst e2; exact hV.out
              · subst e1
                rw [← hV.out, ← hN2.out p hp hLp _ rfl, nxS_at _ L (p + 1) hn, hE, if_pos rfl]
            clear hE hV hx2
            go_upto_region 9 with fail
            refine wp_region_noPanic ?_
            refine wp_region_held_drew (S := fun w' => w'.cell? ⟨WZ.heap.size, 0, none⟩ = some (.string hk) ∧ w'.cell? ⟨WZ.heap.size, 1, none⟩ = some (.int .i64 sk) ∧ w'.cell? ⟨g, o + n * 2, none⟩ = some (.string hk) ∧ w'.cell? ⟨g, o + n * 2 + 1, none⟩ = some (.int .i64 sk)) (by kernel_rfl) ?_ (fun hHeld => ?_)
            · (try dsimp only)
              exact ⟨Ks.drew.2.1 0, Ks.drew.2.1 1, n0, n1⟩
            refine wpAnyH_take (i := 0) (oi := { dst := some 32, op := Op.move (Operand.tmp 5), type := 3, pos := "trace.go:29", after := #[], guard := none }) (v := ?_) rfl (by kernel_rfl) (by kernel_rfl) (by kernel_rfl) (fun _ _ _ h => h) (Or.inl ⟨by rfl, ?_⟩) (by assumption) ?_
            rotate_left
            · intro wz hSz; (try dsimp only at hSz); go_simp; all_goals (with_reducible rfl)
            (try simp only [Act.put, List.setIfInBounds_toArray, List.set_cons_zero, List.set_cons_succ])
            refine wpAnyH_take (i := 1) (oi := { dst := some 33, op := Op.move (Operand.tmp 0), type := 28, pos := "trace.go:29", after := #[], guard := none }) (v := ?_) rfl (by kernel_rfl) (by kernel_rfl) (by kernel_rfl) (fun _ _ _ h => h) (Or.inl ⟨by rfl, ?_⟩) (by assumption) ?_
            rotate_left
            · intro wz hSz; (try dsimp only at hSz); go_simp; all_goals (with_reducible rfl)
            (try simp only [Act.put, List.setIfInBounds_toArray, List.set_cons_zero, List.set_cons_succ])
            refine wpAnyH_take (i := 2) (oi := { dst := some 34, op := Op.call { callee := Callee.builtin Builtin.len, args := #[Operand.tmp 33], argTypes := #[28] }, type := 3, pos := "trace.go:29", after := #[{ on := 1, ground := Ground.data }], guard := none }) (v := ?_) rfl (by kernel_rfl) (by kernel_rfl) (by kernel_rfl) (fun _ _ _ h => h) (Or.inl ⟨by rfl, ?_⟩) (by assumption) ?_
            rotate_left
            · intro wz hSz; (try dsimp only at hSz); go_simp; all_goals (with_reducible rfl)
            (try simp only [Act.put, List.setIfInBounds_toArray, List.set_cons_zero, List.set_cons_succ])
            refine wpAnyH_take (i := 3) (oi := { dst := some 35, op := Op.binOp BinOp.lss 3 (Operand.tmp 32) (Operand.tmp 34) 3, type := 4, pos := "trace.go:29", after := #[{ on := 0, ground := Ground.data }, { on := 2, ground := Ground.data }], guard := none }) (v := ?_) rfl (by kernel_rfl) (by kernel_rfl) (by kernel_rfl) (fun _ _ _ h => h) (Or.inl ⟨by rfl, ?_⟩) (by assumption) ?_
            rotate_left
            · intro wz hSz; (try dsimp only at hSz); go_simp; all_goals (with_reducible rfl)
            (try simp only [Act.put, List.setIfInBounds_toArray, List.set_cons_zero, List.set_cons_succ])
            refine wpAnyH_take (i := 4) (oi := { dst := some 36, op := Op.move (Operand.tmp 35), type := 4, pos := "trace.go:29", after := #[{ on := 3, ground := Ground.data }], guard := none }) (v := ?_) rfl (by kernel_rfl) (by kernel_rfl) (by kernel_rfl) (fun _ _ _ h => h) (Or.inl ⟨by rfl, ?_⟩) (by assumption) ?_
            rotate_left
            · intro wz hSz; (try dsimp only at hSz); go_simp; all_goals (with_reducible rfl)
            (try simp only [Act.put, List.setIfInBounds_toArray, List.set_cons_zero, List.set_cons_succ])
            refine wpAnyH_take (i := 5) (oi := { dst := some 37, op := Op.move (Operand.tmp 0), type := 28, pos := "trace.go:29", after := #[{ on := 4, ground := Ground.guard }], guard := some (4, true) }) (v := ?_) rfl (by kernel_rfl) (by kernel_rfl) (by kernel_rfl) (fun _ _ _ h => h) (Or.inl ⟨by rfl, ?_⟩) (by assumption) ?_
            rotate_left
            · intro wz hSz; (try dsimp only at hSz); go_simp; all_goals (with_reducible rfl)
            (try simp only [Act.put, List.setIfInBounds_toArray, List.set_cons_zero, List.set_cons_succ])
            refine wpAnyH_take (i := 6) (oi := { dst := some 38, op := Op.move (Operand.tmp 5), type := 3, pos := "trace.go:29", after := #[{ on := 4, ground := Ground.guard }], guard := some (4, true) }) (v := ?_) rfl (by kernel_rfl) (by kernel_rfl) (by kernel_rfl) (fun _ _ _ h => h) (Or.inl ⟨by rfl, ?_⟩) (by assumption) ?_
            rotate_left
            · intro wz hSz; (try dsimp only at hSz); go_simp; all_goals (with_reducible rfl)
            (try simp only [Act.put, List.setIfInBounds_toArray, List.set_cons_zero, List.set_cons_succ])
            refine wpAnyH_take (i := 7) (oi := { dst := some 39, op := Op.indexAddr 28 (Operand.tmp 37) (Operand.tmp 38), type := 0, pos := "trace.go:29", after := #[{ on := 5, ground := Ground.data }, { on := 6, ground := Ground.data }, { on := 4, ground := Ground.guard }], guard := some (4, true) }) (v := ?_) rfl (by kernel_rfl) (by kernel_rfl) (by kernel_rfl) (fun _ _ _ h => h) (Or.inl ⟨by rfl, ?_⟩) (by assumption) ?_
            rotate_left
            · intro wz hSz; (try dsimp only at hSz); go_simp; all_goals (with_reducible rfl)
            (try simp only [Act.put, List.setIfInBounds_toArray, List.set_cons_zero, List.set_cons_succ])
            refine wpAnyH_take (i := 8) (oi := { dst := some 40, op := Op.load 34 (Operand.tmp 39), type := 34, pos := "trace.go:29", after := #[{ on := 7, ground := Ground.data }, { on := 4, ground := Ground.guard }], guard := some (4, true) }) (v := ?_) rfl (by kernel_rfl) (by kernel_rfl) (by kernel_rfl) (fun _ _ _ h => h) (Or.inl ⟨by rfl, ?_⟩) (by assumption) ?_
            rotate_left
            · intro wz hSz; (try dsimp only at hSz); go_simp; all_goals (with_reducible rfl)
            (try simp only [Act.put, List.setIfInBounds_toArray, List.set_cons_zero, List.set_cons_succ])
            refine wpAnyH_take (i := 9) (oi := { dst := some 41, op := Op.fieldAddr 50 (Operand.tmp 6) 0, type := 0, pos := "trace.go:29", after := #[{ on := 4, ground := Ground.guard }], guard := some (4, true) }) (v := ?_) rfl (by kernel_rfl) (by kernel_rfl) (by kernel_rfl) (fun _ _ _ h => h) (Or.inl ⟨by rfl, ?_⟩) (by assumption) ?_
            rotate_left
            · intro wz hSz; (try dsimp only at hSz); go_simp; all_goals (with_reducible rfl)
            (try simp only [Act.put, List.setIfInBounds_toArray, List.set_cons_zero, List.set_cons_succ])
            refine wpAnyH_take (i := 10) (oi := { dst := some 42, op := Op.load 34 (Operand.tmp 41), type := 34, pos := "trace.go:29", after := #[{ on := 9, ground := Ground.data }, { on := 4, ground := Ground.guard }], guard := some (4, true) }) (v := ?_) rfl (by kernel_rfl) (by kernel_rfl) (by kernel_rfl) (fun _ _ _ h => h) (Or.inl ⟨by rfl, ?_⟩) (by assumption) ?_
            rotate_left
            · intro wz hSz; (try dsimp only at hSz); go_simp; all_goals (with_reducible rfl)
            (try simp only [Act.put, List.setIfInBounds_toArray, List.set_cons_zero, List.set_cons_succ])
            refine wpAnyH_take (i := 11) (oi := { dst := some 43, op := Op.binOp BinOp.eql 34 (Operand.tmp 40) (Operand.tmp 42) 34, type := 4, pos := "trace.go:29", after := #[{ on := 8, ground := Ground.data }, { on := 10, ground := Ground.data }, { on := 4, ground := Ground.guard }], guard := some (4, true) }) (v := ?_) rfl (by kernel_rfl) (by kernel_rfl) (by kernel_rfl) (fun _ _ _ h => h) (Or.inl ⟨by rfl, ?_⟩) (by assumption) ?_
            rotate_left
            · intro wz hSz; (try dsimp only at hSz); go_simp; all_goals (with_reducible rfl)
            (try simp only [Act.put, List.setIfInBounds_toArray, List.set_cons_zero, List.set_cons_succ])
            refine wpAnyH_take (i := 12) (oi := { dst := some 44, op := Op.pick (Operand.tmp 36) (Operand.tmp 43) (Operand.const (Value.bool false)), type := 4, pos := "trace.go:29", after := #[{ on := 4, ground := Ground.data }, { on := 11, ground := Ground.data }], guard := none }) (v := ?_) rfl (by kernel_rfl) (by kernel_rfl) (by kernel_rfl) (fun _ _ _ h => h) (Or.inl ⟨by rfl, ?_⟩) (by assumption) ?_
            rotate_left
            · intro wz hSz; (try dsimp only at hSz); go_simp; all_goals (with_reducible rfl)
            (try simp only [Act.put, List.setIfInBounds_toArray, List.set_cons_zero, List.set_cons_succ])
            refine wpAnyH_done (by kernel_rfl) ?_ _
            refine NoPanic.normal ?_
            go_wp2_with fail
            go_roundw
            case rel => exact ⟨n + 1, n, by omega, by omega, hn, .inr rfl, by go_num, (fun _ => hee : ∀ h : n < L.length, L[n] = ⟨hk, sk⟩), hV2, Ks.drew, hbs.drew⟩
            case measure => simp [intOf]; omega
          | false =>
            have hnk : n ≠ k := by
              intro e
              subst e
              rw [hek, eqE_self] at hE
              cases hE
            obtain rfl : n = p + 1 := by omega
            have s3 : (p : Int) + 1 < (L.length : Int) := by omega
            have s4 : (0 : Int) ≤ (p : Int) + 1 := by omega
            have tn : ((p : Int) + 1).toNat = p + 1 := by omega
            have hnxf : nxS (⟨hk, sk⟩ : En) (L.drop (p + 1)) = false := by rw [nxS_at _ L (p + 1) hn]; exact hE
            have hne : ¬ (L[p + 1].heads = hk ∧ L[p + 1].stage = sk) := of_decide_eq_false hE
            clear hE hx2
            generalize L[p + 1].heads = hn' at *
            generalize L[p + 1].stage = sn at *
            by_cases hts : hn'.toList = hk.toList
            case neg =>
              go_upto_region 9 with fail
              refine wp_region_noPanic ?_
              refine wp_region_held_drew (S := fun w' => w'.cell? ⟨WZ.heap.size, 0, none⟩ = some (.string hk) ∧ w'.cell? ⟨WZ.heap.size, 1, none⟩ = some (.int .i64 sk) ∧ w'.cell? ⟨g, o + (p + 1) * 2, none⟩ = some (.string hn') ∧ w'.cell? ⟨g, o + (p + 1) * 2 + 1, none⟩ = some (.int .i64 sn)) (by kernel_rfl) ?_ (fun hHeld => ?_)
              · (try dsimp only)
                exact ⟨Ks.drew.2.1 0, Ks.drew.2.1 1, n0, n1⟩
              refine wpAnyH_take (i := 0) (oi := { dst := some 32, op := Op.move (Operand.tmp 5), type := 3, pos := "trace.go:29", after := #[], guard := none }) (v := ?_) rfl (by kernel_rfl) (by kernel_rfl) (by kernel_rfl) (fun _ _ _ h => h) (Or.inl ⟨by rfl, ?_⟩) (by assumption) ?_
              rotate_left
              · intro wz hSz; (try dsimp only at hSz); go_simp; all_goals (with_reducible rfl)
              (try simp only [Act.put, List.setIfInBounds_toArray, List.set_cons_zero, List.set_cons_succ])
              refine wpAnyH_take (i := 1) (oi := { dst := some 33, op := Op.move (Operand.tmp 0), type := 28, pos := "trace.go:29", after := #[], guard := none }) (v := ?_) rfl (by kernel_rfl) (by kernel_rfl) (by kernel_rfl) (fun _ _ _ h => h) (Or.inl ⟨by rfl, ?_⟩) (by assumption) ?_
              rotate_left
              · intro wz hSz; (try dsimp only at hSz); go_simp; all_goals (with_reducible rfl)
              (try simp only [Act.put, List.setIfInBounds_toArray, List.set_cons_zero, List.set_cons_succ])
              refine wpAnyH_take (i := 2) (oi := { dst := some 34, op := Op.call { callee := Callee.builtin Builtin.len, args := #[Operand.tmp 33], argTypes := #[28] }, type := 3, pos := "trace.go:29", after := #[{ on := 1, ground := Ground.data }], guard := none }) (v := ?_) rfl (by kernel_rfl) (by kernel_rfl) (by kernel_rfl) (fun _ _ _ h => h) (Or.inl ⟨by rfl, ?_⟩) (by assumption) ?_
              rotate_left
              · intro wz hSz; (try dsimp only at hSz); go_simp; all_goals (with_reducible rfl)
              (try simp only [Act.put, List.setIfInBounds_toArray, List.set_cons_zero, List.set_cons_succ])
              refine wpAnyH_take (i := 3) (oi := { dst := some 35, op := Op.binOp BinOp.lss 3 (Operand.tmp 32) (Operand.tmp 34) 3, type := 4, pos := "trace.go:29", after := #[{ on := 0, ground := Ground.data }, { on := 2, ground := Ground.data }], guard := none }) (v := ?_) rfl (by kernel_rfl) (by kernel_rfl) (by kernel_rfl) (fun _ _ _ h => h) (Or.inl ⟨by rfl, ?_⟩) (by assumption) ?_
              rotate_left
              · intro wz hSz; (try dsimp only at hSz); go_simp; all_goals (with_reducible rfl)
              (try simp only [Act.put, List.setIfInBounds_toArray, List.set_cons_zero, List.set_cons_succ])
              refine wpAnyH_take (i := 4) (oi := { dst := some 36, op := Op.move (Operand.tmp 35), type := 4, pos := "trace.go:29", after := #[{ on := 3, ground := Ground.data }], guard := none }) (v := ?_) rfl (by kernel_rfl) (by kernel_rfl) (by kernel_rfl) (fun _ _ _ h => h) (Or.inl ⟨by rfl, ?_⟩) (by assumption) ?_
              rotate_left
              · intro wz hSz; (try dsimp only at hSz); go_simp; all_goals (with_reducible rfl)
              (try simp only [Act.put, List.setIfInBounds_toArray, List.set_cons_zero, List.set_cons_succ])
              refine wpAnyH_take (i := 5) (oi := { dst := some 37, op := Op.move (Operand.tmp 0), type := 28, pos := "trace.go:29", after := #[{ on := 4, ground := Ground.guard }], guard := some (4, true) }) (v := ?_) rfl (by kernel_rfl) (by kernel_rfl) (by kernel_rfl) (fun _ _ _ h => h) (Or.inl ⟨by rfl, ?_⟩) (by assumption) ?_
              rotate_left
              · intro wz hSz; (try dsimp only at hSz); go_simp; all_goals (with_reducible rfl)
              (try simp only [Act.put, List.setIfInBounds_toArray, List.set_cons_zero, List.set_cons_succ])
              refine wpAnyH_take (i := 6) (oi := { dst := some 38, op := Op.move (Operand.tmp 5), type := 3, pos := "trace.go:29", after := #[{ on := 4, ground := Ground.guard }], guard := some (4, true) }) (v := ?_) rfl (by kernel_rfl) (by kernel_rfl) (by kernel_rfl) (fun _ _ _ h => h) (Or.inl ⟨by rfl, ?_⟩) (by assumption) ?_
              rotate_left
              · intro wz hSz; (try dsimp only at hSz); go_simp; all_goals (with_reducible rfl)
              (try simp only [Act.put, List.setIfInBounds_toArray, List.set_cons_zero, List.set_cons_succ])
              refine wpAnyH_take (i := 7) (oi := { dst := some 39, op := Op.indexAddr 28 (Operand.tmp 37) (Operand.tmp 38), type := 0, pos := "trace.go:29", after := #[{ on := 5, ground := Ground.data }, { on := 6, ground := Ground.data }, { on := 4, ground := Ground.guard }], guard := some (4, true) }) (v := ?_) rfl (by kernel_rfl) (by kernel_rfl) (by kernel_rfl) (fun _ _ _ h => h) (Or.inl ⟨by rfl, ?_⟩) (by assumption) ?_
              rotate_left
              · intro wz hSz; (try dsimp only at hSz); go_simp; all_goals (with_reducible rfl)
              (try simp only [Act.put, List.setIfInBounds_toArray, List.set_cons_zero, List.set_cons_succ])
              refine wpAnyH_take (i := 8) (oi := { dst := some 40, op := Op.load 34 (Operand.tmp 39), type := 34, pos := "trace.go:29", after := #[{ on := 7, ground := Ground.data }, { on := 4, ground := Ground.guard }], guard := some (4, true) }) (v := ?_) rfl (by kernel_rfl) (by kernel_rfl) (by kernel_rfl) (fun _ _ _ h => h) (Or.inl ⟨by rfl, ?_⟩) (by assumption) ?_
              rotate_left
              · intro wz hSz; (try dsimp only at hSz); go_simp; all_goals (with_reducible rfl)
              (try simp only [Act.put, List.setIfInBounds_toArray, List.set_cons_zero, List.set_cons_succ])
              refine wpAnyH_take (i := 9) (oi := { dst := some 41, op := Op.fieldAddr 50 (Operand.tmp 6) 0, type := 0, pos := "trace.go:29", after := #[{ on := 4, ground := Ground.guard }], guard := some (4, true) }) (v := ?_) rfl (by kernel_rfl) (by kernel_rfl) (by kernel_rfl) (fun _ _ _ h => h) (Or.inl ⟨by rfl, ?_⟩) (by assumption) ?_
              rotate_left
              · intro wz hSz; (try dsimp only at hSz); go_simp; all_goals (with_reducible rfl)
              (try simp only [Act.put, List.setIfInBounds_toArray, List.set_cons_zero, List.set_cons_succ])
              refine wpAnyH_take (i := 10) (oi := { dst := some 42, op := Op.load 34 (Operand.tmp 41), type := 34, pos := "trace.go:29", after := #[{ on := 9, ground := Ground.data }, { on := 4, ground := Ground.guard }], guard := some (4, true) }) (v := ?_) rfl (by kernel_rfl) (by kernel_rfl) (by kernel_rfl) (fun _ _ _ h => h) (Or.inl ⟨by rfl, ?_⟩) (by assumption) ?_
              rotate_left
              · intro wz hSz; (try dsimp only at hSz); go_simp; all_goals (with_reducible rfl)
              (try simp only [Act.put, List.setIfInBounds_toArray, List.set_cons_zero, List.set_cons_succ])
              refine wpAnyH_take (i := 11) (oi := { dst := some 43, op := Op.binOp BinOp.eql 34 (Operand.tmp 40) (Operand.tmp 42) 34, type := 4, pos := "trace.go:29", after := #[{ on := 8, ground := Ground.data }, { on := 10, ground := Ground.data }, { on := 4, ground := Ground.guard }], guard := some (4, true) }) (v := ?_) rfl (by kernel_rfl) (by kernel_rfl) (by kernel_rfl) (fun _ _ _ h => h) (Or.inl ⟨by rfl, ?_⟩) (by assumption) ?_
              rotate_left
              · intro wz hSz; (try dsimp only at hSz); go_simp; all_goals (with_reducible rfl)
              (try simp only [Act.put, List.setIfInBounds_toArray, List.set_cons_zero, List.set_cons_succ])
              refine wpAnyH_take (i := 12) (oi := { dst := some 44, op := Op.pick (Operand.tmp 36) (Operand.tmp 43) (Operand.const (Value.bool false)), type := 4, pos := "trace.go:29", after := #[{ on := 4, ground := Ground.data }, { on := 11, ground := Ground.data }], guard := none }) (v := ?_) rfl (by kernel_rfl) (by kernel_rfl) (by kernel_rfl) (fun _ _ _ h => h) (Or.inl ⟨by rfl, ?_⟩) (by assumption) ?_
              rotate_left
              · intro wz hSz; (try dsimp only at hSz); go_simp; all_goals (with_reducible rfl)
              (try simp only [Act.put, List.setIfInBounds_toArray, List.set_cons_zero, List.set_cons_succ])
              refine wpAnyH_done (by kernel_rfl) ?_ _
              refine NoPanic.normal ?_
              have hA3 : Hid ((trR (p + 1) (p + 1) (L.drop (p + 1))).map (fun t => x ++ lnF k p hk sk ++ t) = A) := by
                show _ = _
                rw [← hV.out, ← hN2.out p hp hLp _ rfl, hnxf]
                exact (map_app _ _ _).symm
              clear hV hN2 heq
              have wp : IntKind.i64.wrap (p : Int) = (p : Int) := wrap64 _ (by omega)
              have wp2 : ((p + 1 : Nat) : Int) - 1 = (p : Int) := by omega
              have Kd := Ks.drew
              obtain ⟨_, v1, v2⟩ := id Kd
              go_upto_region 12 with fail
              have K9 : Has (wr.setCell ⟨WZ.heap.size, 3, none⟩ (.int .i64 (p : Int))).drew WZ.heap.size #[.string hk, .int .i64 sk, .int .i64 (k : Int), .int .i64 (p : Int)] := (show Has (wr.setCell ⟨WZ.heap.size, 3, none⟩ (.int .i64 (p : Int))) WZ.heap.size #[.string hk, .int .i64 sk, .int .i64 (k : Int), .int .i64 (p : Int)] from Ks.set 3 (by simp) _).drew
              have hb9 : Below WZ.heap.size WZ (wr.setCell ⟨WZ.heap.size, 3, none⟩ (.int .i64 (p : Int))).drew := (hbs.setCell (p := ⟨WZ.heap.size, 3, none⟩) (Nat.le_refl _) _).drew
              have hI9 := isB_below hI.out hb9
              have hW9 := bel_after hbw hbw.size hb9
              have k20' := k20.out p (by omega) _ (hPw.below hW9)
              have hl6 := hlz'.out p (by omega)
              clear v1 v2 k20 hlz'
              obtain ⟨_, v1, v2⟩ := id K9
              generalize (wr.setCell ⟨WZ.heap.size, 3, none⟩ (.int .i64 (p : Int))).drew = W9 at *
              go_wp2_with fail
              go_at_call 26
              refine Calls.mono k20' ?_
              rintro e w5 ⟨rfl, h5⟩
              have hI5 := isB_below hI9 h5
              have hW5 := bel_after hW9 hW9.size h5
              have k19 := writeString_any w.heap.size w.heap.size (byteCells x) (lnF k p hk sk) w5 hI5 (by rw [byteCells_length]; omega) hW5.size
              clear v1 v2 hI9 hI5
              go_wp2_with fail
              go_at_call 25
              refine Calls.mono k19 ?_
              rintro e w6 ⟨rfl, hB6, hb6, _⟩
              have hI6 : Lib.IsBuilder 57 5 w.heap.size w.heap.size (byteCells (x ++ lnF k p hk sk)) w6 := by rw [bc_app]; exact .inr hB6
              have hW6 := hW5.trans hb6
              go_wp2_with fail
              go_roundw
              case rel => exact ⟨p + 1, x ++ lnF k p hk sk, by omega, by rw [ByteArray.size_append]; omega, by first | rfl | go_num, hA3, hI6, hW6⟩
              case measure => simp [intOf]; omega
            case pos =>
              have hss : ¬ sn = sk := fun q => hne ⟨WideShapes.bytes_inj (by rw [← ByteArray.toList_eq, ← ByteArray.toList_eq]; exact hts), q⟩
              go_upto_region 9 with fail
              refine wp_region_noPanic ?_
              refine wp_region_held_drew (S := fun w' => w'.cell? ⟨WZ.heap.size, 0, none⟩ = some (.string hk) ∧ w'.cell? ⟨WZ.heap.size, 1, none⟩ = some (.int .i64 sk) ∧ w'.cell? ⟨g, o + (p + 1) * 2, none⟩ = some (.string hn') ∧ w'.cell? ⟨g, o + (p + 1) * 2 + 1, none⟩ = some (.int .i64 sn)) (by kernel_rfl) ?_ (fun hHeld => ?_)
              · (try dsimp only)
                exact ⟨Ks.drew.2.1 0, Ks.drew.2.1 1, n0, n1⟩
              refine wpAnyH_take (i := 0) (oi := { dst := some 32, op := Op.move (Operand.tmp 5), type := 3, pos := "trace.go:29", after := #[], guard := none }) (v := ?_) rfl (by kernel_rfl) (by kernel_rfl) (by kernel_rfl) (fun _ _ _ h => h) (Or.inl ⟨by rfl, ?_⟩) (by assumption) ?_
              rotate_left
              · intro wz hSz; (try dsimp only at hSz); go_simp; all_goals (with_reducible rfl)
              (try simp only [Act.put, List.setIfInBounds_toArray, List.set_cons_zero, List.set_cons_succ])
              refine wpAnyH_take (i := 1) (oi := { dst := some 33, op := Op.move (Operand.tmp 0), type := 28, pos := "trace.go:29", after := #[], guard := none }) (v := ?_) rfl (by kernel_rfl) (by kernel_rfl) (by kernel_rfl) (fun _ _ _ h => h) (Or.inl ⟨by rfl, ?_⟩) (by assumption) ?_
              rotate_left
              · intro wz hSz; (try dsimp only at hSz); go_simp; all_goals (with_reducible rfl)
              (try simp only [Act.put, List.setIfInBounds_toArray, List.set_cons_zero, List.set_cons_succ])
              refine wpAnyH_take (i := 2) (oi := { dst := some 34, op := Op.call { callee := Callee.builtin Builtin.len, args := #[Operand.tmp 33], argTypes := #[28] }, type := 3, pos := "trace.go:29", after := #[{ on := 1, ground := Ground.data }], guard := none }) (v := ?_) rfl (by kernel_rfl) (by kernel_rfl) (by kernel_rfl) (fun _ _ _ h => h) (Or.inl ⟨by rfl, ?_⟩) (by assumption) ?_
              rotate_left
              · intro wz hSz; (try dsimp only at hSz); go_simp; all_goals (with_reducible rfl)
              (try simp only [Act.put, List.setIfInBounds_toArray, List.set_cons_zero, List.set_cons_succ])
              refine wpAnyH_take (i := 3) (oi := { dst := some 35, op := Op.binOp BinOp.lss 3 (Operand.tmp 32) (Operand.tmp 34) 3, type := 4, pos := "trace.go:29", after := #[{ on := 0, ground := Ground.data }, { on := 2, ground := Ground.data }], guard := none }) (v := ?_) rfl (by kernel_rfl) (by kernel_rfl) (by kernel_rfl) (fun _ _ _ h => h) (Or.inl ⟨by rfl, ?_⟩) (by assumption) ?_
              rotate_left
              · intro wz hSz; (try dsimp only at hSz); go_simp; all_goals (with_reducible rfl)
              (try simp only [Act.put, List.setIfInBounds_toArray, List.set_cons_zero, List.set_cons_succ])
              refine wpAnyH_take (i := 4) (oi := { dst := some 36, op := Op.move (Operand.tmp 35), type := 4, pos := "trace.go:29", after := #[{ on := 3, ground := Ground.data }], guard := none }) (v := ?_) rfl (by kernel_rfl) (by kernel_rfl) (by kernel_rfl) (fun _ _ _ h => h) (Or.inl ⟨by rfl, ?_⟩) (by assumption) ?_
              rotate_left
              · intro wz hSz; (try dsimp only at hSz); go_simp; all_goals (with_reducible rfl)
              (try simp only [Act.put, List.setIfInBounds_toArray, List.set_cons_zero, List.set_cons_succ])
              refine wpAnyH_take (i := 5) (oi := { dst := some 37, op := Op.move (Operand.tmp 0), type := 28, pos := "trace.go:29", after := #[{ on := 4, ground := Ground.guard }], guard := some (4, true) }) (v := ?_) rfl (by kernel_rfl) (by kernel_rfl) (by kernel_rfl) (fun _ _ _ h => h) (Or.inl ⟨by rfl, ?_⟩) (by assumption) ?_
              rotate_left
              · intro wz hSz; (try dsimp only at hSz); go_simp; all_goals (with_reducible rfl)
              (try simp only [Act.put, List.setIfInBounds_toArray, List.set_cons_zero, List.set_cons_succ])
              refine wpAnyH_take (i := 6) (oi := { dst := some 38, op := Op.move (Operand.tmp 5), type := 3, pos := "trace.go:29", after := #[{ on := 4, ground := Ground.guard }], guard := some (4, true) }) (v := ?_) rfl (by kernel_rfl) (by kernel_rfl) (by kernel_rfl) (fun _ _ _ h => h) (Or.inl ⟨by rfl, ?_⟩) (by assumption) ?_
              rotate_left
              · intro wz hSz; (try dsimp only at hSz); go_simp; all_goals (with_reducible rfl)
              (try simp only [Act.put, List.setIfInBounds_toArray, List.set_cons_zero, List.set_cons_succ])
              refine wpAnyH_take (i := 7) (oi := { dst := some 39, op := Op.indexAddr 28 (Operand.tmp 37) (Operand.tmp 38), type := 0, pos := "trace.go:29", after := #[{ on := 5, ground := Ground.data }, { on := 6, ground := Ground.data }, { on := 4, ground := Ground.guard }], guard := some (4, true) }) (v := ?_) rfl (by kernel_rfl) (by kernel_rfl) (by kernel_rfl) (fun _ _ _ h => h) (Or.inl ⟨by rfl, ?_⟩) (by assumption) ?_
              rotate_left
              · intro wz hSz; (try dsimp only at hSz); go_simp; all_goals (with_reducible rfl)
              (try simp only [Act.put, List.setIfInBounds_toArray, List.set_cons_zero, List.set_cons_succ])
              refine wpAnyH_take (i := 8) (oi := { dst := some 40, op := Op.load 34 (Operand.tmp 39), type := 34, pos := "trace.go:29", after := #[{ on := 7, ground := Ground.data }, { on := 4, ground := Ground.guard }], guard := some (4, true) }) (v := ?_) rfl (by kernel_rfl) (by kernel_rfl) (by kernel_rfl) (fun _ _ _ h => h) (Or.inl ⟨by rfl, ?_⟩) (by assumption) ?_
              rotate_left
              · intro wz hSz; (try dsimp only at hSz); go_simp; all_goals (with_reducible rfl)
              (try simp only [Act.put, List.setIfInBounds_toArray, List.set_cons_zero, List.set_cons_succ])
              refine wpAnyH_take (i := 9) (oi := { dst := some 41, op := Op.fieldAddr 50 (Operand.tmp 6) 0, type := 0, pos := "trace.go:29", after := #[{ on := 4, ground := Ground.guard }], guard := some (4, true) }) (v := ?_) rfl (by kernel_rfl) (by kernel_rfl) (by kernel_rfl) (fun _ _ _ h => h) (Or.inl ⟨by rfl, ?_⟩) (by assumption) ?_
              rotate_left
              · intro wz hSz; (try dsimp only at hSz); go_simp; all_goals (with_reducible rfl)
              (try simp only [Act.put, List.setIfInBounds_toArray, List.set_cons_zero, List.set_cons_succ])
              refine wpAnyH_take (i := 10) (oi := { dst := some 42, op := Op.load 34 (Operand.tmp 41), type := 34, pos := "trace.go:29", after := #[{ on := 9, ground := Ground.data }, { on := 4, ground := Ground.guard }], guard := some (4, true) }) (v := ?_) rfl (by kernel_rfl) (by kernel_rfl) (by kernel_rfl) (fun _ _ _ h => h) (Or.inl ⟨by rfl, ?_⟩) (by assumption) ?_
              rotate_left
              · intro wz hSz; (try dsimp only at hSz); go_simp; all_goals (with_reducible rfl)
              (try simp only [Act.put, List.setIfInBounds_toArray, List.set_cons_zero, List.set_cons_succ])
              refine wpAnyH_take (i := 11) (oi := { dst := some 43, op := Op.binOp BinOp.eql 34 (Operand.tmp 40) (Operand.tmp 42) 34, type := 4, pos := "trace.go:29", after := #[{ on := 8, ground := Ground.data }, { on := 10, ground := Ground.data }, { on := 4, ground := Ground.guard }], guard := some (4, true) }) (v := ?_) rfl (by kernel_rfl) (by kernel_rfl) (by kernel_rfl) (fun _ _ _ h => h) (Or.inl ⟨by rfl, ?_⟩) (by assumption) ?_
              rotate_left
              · intro wz hSz; (try dsimp only at hSz); go_simp; all_goals (with_reducible rfl)
              (try simp only [Act.put, List.setIfInBounds_toArray, List.set_cons_zero, List.set_cons_succ])
              refine wpAnyH_take (i := 12) (oi := { dst := some 44, op := Op.pick (Operand.tmp 36) (Operand.tmp 43) (Operand.const (Value.bool false)), type := 4, pos := "trace.go:29", after := #[{ on := 4, ground := Ground.data }, { on := 11, ground := Ground.data }], guard := none }) (v := ?_) rfl (by kernel_rfl) (by kernel_rfl) (by kernel_rfl) (fun _ _ _ h => h) (Or.inl ⟨by rfl, ?_⟩) (by assumption) ?_
              rotate_left
              · intro wz hSz; (try dsimp only at hSz); go_simp; all_goals (with_reducible rfl)
              (try simp only [Act.put, List.setIfInBounds_toArray, List.set_cons_zero, List.set_cons_succ])
              refine wpAnyH_done (by kernel_rfl) ?_ _
              refine NoPanic.normal ?_
              have hA3 : Hid ((trR (p + 1) (p + 1) (L.drop (p + 1))).map (fun t => x ++ lnF k p hk sk ++ t) = A) := by
                show _ = _
                rw [← hV.out, ← hN2.out p hp hLp _ rfl, hnxf]
                exact (map_app _ _ _).symm
              clear hV hN2 heq
              have wp : IntKind.i64.wrap (p : Int) = (p : Int) := wrap64 _ (by omega)
              have wp2 : ((p + 1 : Nat) : Int) - 1 = (p : Int) := by omega
              have Kd := Ks.drew
              obtain ⟨_, v1, v2⟩ := id Kd
              go_upto_region 12 with fail
              have K9 : Has (wr.setCell ⟨WZ.heap.size, 3, none⟩ (.int .i64 (p : Int))).drew WZ.heap.size #[.string hk, .int .i64 sk, .int .i64 (k : Int), .int .i64 (p : Int)] := (show Has (wr.setCell ⟨WZ.heap.size, 3, none⟩ (.int .i64 (p : Int))) WZ.heap.size #[.string hk, .int .i64 sk, .int .i64 (k : Int), .int .i64 (p : Int)] from Ks.set 3 (by simp) _).drew
              have hb9 : Below WZ.heap.size WZ (wr.setCell ⟨WZ.heap.size, 3, none⟩ (.int .i64 (p : Int))).drew := (hbs.setCell (p := ⟨WZ.heap.size, 3, none⟩) (Nat.le_refl _) _).drew
              have hI9 := isB_below hI.out hb9
              have hW9 := bel_after hbw hbw.size hb9
              have k20' := k20.out p (by omega) _ (hPw.below hW9)
              have hl6 := hlz'.out p (by omega)
              clear v1 v2 k20 hlz'
              obtain ⟨_, v1, v2⟩ := id K9
              generalize (wr.setCell ⟨WZ.heap.size, 3, none⟩ (.int .i64 (p : Int))).drew = W9 at *
              go_wp2_with fail
              go_at_call 26
              refine Calls.mono k20' ?_
              rintro e w5 ⟨rfl, h5⟩
              have hI5 := isB_below hI9 h5
              have hW5 := bel_after hW9 hW9.size h5
              have k19 := writeString_any w.heap.size w.heap.size (byteCells x) (lnF k p hk sk) w5 hI5 (by rw [byteCells_length]; omega) hW5.size
              clear v1 v2 hI9 hI5
              go_wp2_with fail
              go_at_call 25
              refine Calls.mono k19 ?_
              rintro e w6 ⟨rfl, hB6, hb6, _⟩
              have hI6 : Lib.IsBuilder 57 5 w.heap.size w.heap.size (byteCells (x ++ lnF k p hk sk)) w6 := by rw [bc_app]; exact .inr hB6
              have hW6 := hW5.trans hb6
              go_wp2_with fail
              go_roundw
              case rel => exact ⟨p + 1, x ++ lnF k p hk sk, by omega, by rw [ByteArray.size_append]; omega, by first | rfl | go_num, hA3, hI6, hW6⟩
              case measure => simp [intOf]; omega
end Go.Proofs.YtcajejfddfiidaaDoor
