import Derived.Deep.DeepCutAuto
import Derived.Test.YtoaokpmnjppfcaaWbL
namespace Go.Proofs.Ytoaokpmnjppfcaa
open Go.RowKit
set_option linter.unusedVariables false
set_option linter.unusedSimpArgs false

theorem setAll_row {α : Type} {sz : Nat} {cs : α → List Value} (hl : ∀ x, (cs x).length = sz) (h0 : 0 < sz) (L : List α) (k : Nat) (hk : k < L.length) (x : α) : setAll (cellsF cs L) (k * sz) (cs x) = cellsF cs (L.set k x) := by
  have e1 := cellsF_len hl L
  have e2 := cellsF_len hl (L.set k x)
  apply List.ext_getElem?
  intro i
  by_cases hi : i < L.length * sz
  · have hm := Nat.mod_lt i h0
    have hq : i / sz < L.length := Nat.div_lt_of_lt_mul (by rw [Nat.mul_comm]; exact hi)
    have ei : i = i / sz * sz + i % sz := by have := Nat.div_add_mod i sz; rw [Nat.mul_comm]; omega
    have hle : k * sz + sz ≤ L.length * sz := by rw [← Nat.succ_mul]; exact Nat.mul_le_mul_right _ hk
    generalize i / sz = q at *
    generalize i % sz = r at *
    subst ei
    rw [cellsF_get hl (L.set k x) _ _ (by rw [List.length_set]; exact hq) hm]
    by_cases ek : q = k
    · subst ek
      rw [setAll_in _ _ _ _ (by rw [hl, e1]; exact hle) (by rw [hl]; exact hm)]
      simp
    · rw [setAll_out _ _ _ _ (by
        rw [hl]
        rcases Nat.lt_or_ge q k with h | h
        · left
          have : (q + 1) * sz ≤ k * sz := Nat.mul_le_mul_right sz h
          rw [Nat.succ_mul] at this
          omega
        · right
          have : (k + 1) * sz ≤ q * sz := Nat.mul_le_mul_right sz (by omega)
          rw [Nat.succ_mul] at this
          omega), cellsF_get hl L _ _ hq hm]
      rw [List.getElem_set_ne (Ne.symm ek)]
  · rw [List.getElem?_eq_none (by rw [setAll_len, e1]; omega), List.getElem?_eq_none (by rw [e2, List.length_set]; omega)]
/-- A log that was told, written full and grown; or nothing. -/
def LV (w : World) (base : Nat) (v : Value) (mark : Int) (N : Nat) : Prop := v = .slice none 0 0 ∨ ∃ n a c, n ≤ N ∧ v = .slice a (n + 1) c ∧ w.ownsRow base 43 4 v (n + 1) (cellsF Al.cs (List.replicate (n + 1) ⟨mark, 0, 0, 0⟩))
/-- What stands while a log is written full. -/
structure MS (w wr : World) (a : Option Addr) (n c k : Nat) (mark : Int) (M : List Al) : Prop where
  len : M.length = n
  ms : ∀ j, j < k → M[j]? = some ⟨mark, 0, 0, 0⟩
  own : wr.ownsRow (w.heap.size + 1) 43 4 (.slice a n c) n (cellsF Al.cs M)
  be : Below w.heap.size w wr
set_option maxRecDepth 100000 in
set_option maxHeartbeats 4000000 in
theorem step_any {w : World} {F : Nat → Prop} {b1 b2 : Nat} {G : List Gp} {C : List Cf} {st : Sta} {N : Nat} (h : Pr w F b1 b2 G C st N) (kd nn mark : Int) (s : ByteArray) (hk : 0 ≤ kd ∧ kd < 8) (hg : gridB G C = true) (lC : C.length ≤ 4398046511000) (hN : N + 1 ≤ 4398046511000) :
    Calls Try.prog 9 #[.pointer (some ⟨b1, 0, none⟩), .pointer (some ⟨b2, 0, none⟩), .agg #[.int .i64 kd, .int .i64 nn, .string s], .int .i64 mark] w fun e w' => ∃ F' st' v, e = .returned (.tuple #[v, .bool true]) ∧ Pr w' F' b1 b2 G C st' (N + 1) ∧ (∀ q, F' q → F q ∨ w.heap.size ≤ q) ∧ Only F w w' ∧ LV w' w.heap.size v mark N ∧ ∀ q, v.ownBlock = some q → ¬ F' q := by
  have hlt := h.lt
  have hw0 : Hid (Pr w F b1 b2 G C st N) := h
  have nF : ¬ F w.heap.size := fun e => by have := hlt _ e; omega
  have h1 : Pr (w.alloc (.cells #[.int .i64 kd, .int .i64 nn, .string s] 38)) F b1 b2 G C st N := h.below belN1
  have XO : Has (w.alloc (.cells #[.int .i64 kd, .int .i64 nn, .string s] 38)) w.heap.size #[.int .i64 kd, .int .i64 nn, .string s] := Has.new _ _ _ rfl
  have XB : Below w.heap.size w (w.alloc (.cells #[.int .i64 kd, .int .i64 nn, .string s] 38)) := belN1
  have hsz : (w.alloc (.cells #[.int .i64 kd, .int .i64 nn, .string s] 38)).heap.size = w.heap.size + 1 := by simp
  by_cases k1 : kd < 5
  · have kb : decide (kd < 5) = true := by simp [k1]
    have kc : (kd < 5) := k1
    clear h
    go_enter Try.func9, Try.ntmps9
    go_upto_region 1 with fail
    generalize (w.alloc (.cells #[.int .i64 kd, .int .i64 nn, .string s] 38)) = V at *
    obtain ⟨_, i1, _⟩ := id XO
    go_upto_region 2 with fail
    replace h1 := h1.below (Below.refl _ _).drew
    replace XO := XO.drew
    have XO0 := XO
    have zd : V.drew.heap.size = V.heap.size := rfl
    have XBd := XB.drew
    obtain ⟨x, h15⟩ := pair_feed h1 s hg lC hN
    clear h1
    refine wp_region_noPanic ?_
    refine wp_region_held_drew (S := fun w' => w'.cell? ⟨w.heap.size, 2, none⟩ = some (.string s)) (by kernel_rfl) ?_ (fun hHeld => ?_)
    · (try dsimp only)
      exact XO.reads rfl
    refine wpAnyH_take (i := 0) (oi := { dst := some 17, op := Op.move (Operand.tmp 0), type := 28, pos := "law.go:78", after := #[], guard := none }) (v := ?_) rfl (by kernel_rfl) (by kernel_rfl) (by kernel_rfl) (fun _ _ _ h => h) (Or.inl ⟨by rfl, ?_⟩) (by assumption) ?_
    rotate_left
    · intro wz hSz; (try dsimp only at hSz); go_simp; all_goals (with_reducible rfl)
    (try simp only [Act.put, List.setIfInBounds_toArray, List.set_cons_zero, List.set_cons_succ])
    refine wpAnyH_take (i := 1) (oi := { dst := some 18, op := Op.fieldAddr 38 (Operand.tmp 6) 2, type := 0, pos := "law.go:78", after := #[], guard := none }) (v := ?_) rfl (by kernel_rfl) (by kernel_rfl) (by kernel_rfl) (fun _ _ _ h => h) (Or.inl ⟨by rfl, ?_⟩) (by assumption) ?_
    rotate_left
    · intro wz hSz; (try dsimp only at hSz); go_simp; all_goals (with_reducible rfl)
    (try simp only [Act.put, List.setIfInBounds_toArray, List.set_cons_zero, List.set_cons_succ])
    refine wpAnyH_take (i := 2) (oi := { dst := some 19, op := Op.load 9 (Operand.tmp 18), type := 9, pos := "law.go:78", after := #[{ on := 1, ground := Ground.data }], guard := none }) (v := ?_) rfl (by kernel_rfl) (by kernel_rfl) (by kernel_rfl) (fun _ _ _ h => h) (Or.inl ⟨by rfl, ?_⟩) (by assumption) ?_
    rotate_left
    · intro wz hSz; (try dsimp only at hSz); go_simp; all_goals (with_reducible rfl)
    (try simp only [Act.put, List.setIfInBounds_toArray, List.set_cons_zero, List.set_cons_succ])
    refine wpAnyH_take (i := 4) (oi := { dst := some 21, op := Op.move (Operand.tmp 1), type := 32, pos := "law.go:78", after := #[], guard := none }) (v := ?_) rfl (by kernel_rfl) (by kernel_rfl) (by kernel_rfl) (fun _ _ _ h => h) (Or.inl ⟨by rfl, ?_⟩) (by assumption) ?_
    rotate_left
    · intro wz hSz; (try dsimp only at hSz); go_simp; all_goals (with_reducible rfl)
    (try simp only [Act.put, List.setIfInBounds_toArray, List.set_cons_zero, List.set_cons_succ])
    refine wpAnyH_take (i := 5) (oi := { dst := some 22, op := Op.fieldAddr 38 (Operand.tmp 6) 2, type := 0, pos := "law.go:78", after := #[], guard := none }) (v := ?_) rfl (by kernel_rfl) (by kernel_rfl) (by kernel_rfl) (fun _ _ _ h => h) (Or.inl ⟨by rfl, ?_⟩) (by assumption) ?_
    rotate_left
    · intro wz hSz; (try dsimp only at hSz); go_simp; all_goals (with_reducible rfl)
    (try simp only [Act.put, List.setIfInBounds_toArray, List.set_cons_zero, List.set_cons_succ])
    refine wpAnyH_take (i := 6) (oi := { dst := some 23, op := Op.load 9 (Operand.tmp 22), type := 9, pos := "law.go:78", after := #[{ on := 5, ground := Ground.data }], guard := none }) (v := ?_) rfl (by kernel_rfl) (by kernel_rfl) (by kernel_rfl) (fun _ _ _ h => h) (Or.inl ⟨by rfl, ?_⟩) (by assumption) ?_
    rotate_left
    · intro wz hSz; (try dsimp only at hSz); go_simp; all_goals (with_reducible rfl)
    (try simp only [Act.put, List.setIfInBounds_toArray, List.set_cons_zero, List.set_cons_succ])
    refine wpAnyH_ready (rs := [3]) (by kernel_rfl) (by simp) ?_
    refine AllReadyH.cons (o := { dst := some 20, op := Op.call { callee := Callee.value (Operand.func 15), args := #[Operand.tmp 17, Operand.tmp 19], argTypes := #[28, 9] }, type := 43, pos := "law.go:78", after := #[{ on := 0, ground := Ground.data }, { on := 2, ground := Ground.data }], guard := none }) rfl (fun K hK => ?_) AllReadyH.nil
    go_simp
    go_at_call 15; (with_reducible refine Calls.mono h15 ?_); rintro e w1 ⟨rfl, oF1, h21⟩; replace XO := XO.only oF1 nF
    go_wp2_with fail
    refine hK.out _ _ ?_ (fun hHeld => ?_)
    · (try dsimp only)
      exact XO.reads rfl
    clear hK K
    (try simp only [Act.put, List.setIfInBounds_toArray, List.set_cons_zero, List.set_cons_succ])
    refine wpAnyH_ready (rs := [7]) (by kernel_rfl) (by simp) ?_
    refine AllReadyH.cons (o := { dst := some 24, op := Op.call { callee := Callee.value (Operand.func 21), args := #[Operand.tmp 21, Operand.tmp 23], argTypes := #[32, 9] }, type := 43, pos := "law.go:78", after := #[{ on := 4, ground := Ground.data }, { on := 6, ground := Ground.data }, { on := 3, ground := Ground.chain }], guard := none }) rfl (fun K hK => ?_) AllReadyH.nil
    go_simp
    go_at_call 21; (with_reducible refine Calls.mono (h21 _ (Below.refl _ _)) ?_); rintro e w2 ⟨rfl, ⟨st', hP⟩, oF⟩; replace XO := XO0.only oF nF
    go_wp2_with fail
    refine hK.out _ _ ?_ (fun hHeld => ?_)
    · (try dsimp only)
      exact XO.reads rfl
    clear hK K
    (try simp only [Act.put, List.setIfInBounds_toArray, List.set_cons_zero, List.set_cons_succ])
    refine wpAnyH_take (i := 8) (oi := { dst := some 25, op := Op.binOp BinOp.eql 43 (Operand.tmp 20) (Operand.tmp 24) 43, type := 4, pos := "law.go:78", after := #[{ on := 3, ground := Ground.data }, { on := 7, ground := Ground.data }, { on := 9, ground := Ground.gcOnly Departure.lateStores }], guard := none }) (v := ?_) rfl (by kernel_rfl) (by kernel_rfl) (by kernel_rfl) (fun _ _ _ h => h) (Or.inl ⟨by rfl, ?_⟩) (by assumption) ?_
    rotate_left
    · intro wz hSz; (try dsimp only at hSz); go_simp; all_goals (with_reducible rfl)
    (try simp only [Act.put, List.setIfInBounds_toArray, List.set_cons_zero, List.set_cons_succ])
    refine wpAnyH_take (i := 9) (oi := { dst := some 8, op := Op.assign (Operand.const (Value.slice none 0 0)), type := 39, pos := "law.go:78", after := #[{ on := 7, ground := Ground.chain }, { on := 0, ground := Ground.textOnly Departure.lateStores }, { on := 1, ground := Ground.textOnly Departure.lateStores }, { on := 2, ground := Ground.textOnly Departure.lateStores }, { on := 3, ground := Ground.textOnly Departure.lateStoresUnsure }, { on := 4, ground := Ground.textOnly Departure.lateStores }, { on := 5, ground := Ground.textOnly Departure.lateStores }, { on := 6, ground := Ground.textOnly Departure.lateStores }, { on := 7, ground := Ground.textOnly Departure.lateStoresUnsure }, { on := 8, ground := Ground.textOnly Departure.lateStores }], guard := none }) (v := ?_) rfl (by kernel_rfl) (by kernel_rfl) (by kernel_rfl) (fun _ _ _ h => h) (Or.inl ⟨by rfl, ?_⟩) (by assumption) ?_
    rotate_left
    · intro wz hSz; (try dsimp only at hSz); go_simp; all_goals (with_reducible rfl)
    (try simp only [Act.put, List.setIfInBounds_toArray, List.set_cons_zero, List.set_cons_succ])
    refine wpAnyH_take (i := 10) (oi := { dst := some 9, op := Op.assign (Operand.tmp 25), type := 4, pos := "law.go:78", after := #[{ on := 8, ground := Ground.data }, { on := 9, ground := Ground.chain }, { on := 0, ground := Ground.phase }, { on := 1, ground := Ground.phase }, { on := 2, ground := Ground.phase }, { on := 3, ground := Ground.phase }, { on := 4, ground := Ground.phase }, { on := 5, ground := Ground.phase }, { on := 6, ground := Ground.phase }, { on := 7, ground := Ground.phase }, { on := 8, ground := Ground.phase }, { on := 9, ground := Ground.phase }], guard := none }) (v := ?_) rfl (by kernel_rfl) (by kernel_rfl) (by kernel_rfl) (fun _ _ _ h => h) (Or.inl ⟨by rfl, ?_⟩) (by assumption) ?_
    rotate_left
    · intro wz hSz; (try dsimp only at hSz); go_simp; all_goals (with_reducible rfl)
    (try simp only [Act.put, List.setIfInBounds_toArray, List.set_cons_zero, List.set_cons_succ])
    refine wpAnyH_done (by kernel_rfl) ?_ _
    refine NoPanic.normal ?_
    go_wp2_with fail
    go_ret2
    refine ⟨_, st', .slice none 0 0, rfl, hP, ?_, (Only.of_below XBd).trans oF, .inl rfl, fun q e => by cases e⟩
    intro q hq
    rcases hq with e | e
    · exact .inl e
    · exact .inr (by omega)
  · by_cases k2 : kd = 5
    · subst k2
      obtain ⟨h16, h22⟩ := pair_trip (h1.below (Below.refl _ _).drew)
      have h22 : ∀ W, Below (w.alloc (.cells #[.int .i64 5, .int .i64 nn, .string s] 38)).drew.heap.size (w.alloc (.cells #[.int .i64 5, .int .i64 nn, .string s] 38)).drew W → Calls Try.prog 22 #[.pointer (some ⟨b2, 0, none⟩)] W fun e w1 => e = .returned (.agg #[.int .i64 st.tr.k, .int .i64 st.tr.t, .int .i64 st.tr.a, .int .i64 st.tr.b]) ∧ Below W.heap.size W w1 := fun W hW => (pair_trip ((h1.below (Below.refl _ _).drew).below hW)).2
      clear h
      go_enter Try.func9, Try.ntmps9
      go_upto_region 1 with fail
      generalize (w.alloc (.cells #[.int .i64 5, .int .i64 nn, .string s] 38)) = V at *
      obtain ⟨_, i1, _⟩ := id XO
      go_upto_region 4 with fail
      replace XO := XO.drew
      refine wp_region_noPanic ?_
      refine wp_region_held_drew (S := fun w' => w'.cell? ⟨w.heap.size, 2, none⟩ = some (.string s)) (by kernel_rfl) ?_ (fun hHeld => ?_)
      · (try dsimp only)
        exact XO.reads rfl
      refine wpAnyH_take (i := 0) (oi := { dst := some 30, op := Op.move (Operand.tmp 0), type := 28, pos := "law.go:80", after := #[], guard := none }) (v := ?_) rfl (by kernel_rfl) (by kernel_rfl) (by kernel_rfl) (fun _ _ _ h => h) (Or.inl ⟨by rfl, ?_⟩) (by assumption) ?_
      rotate_left
      · intro wz hSz; (try dsimp only at hSz); go_simp; all_goals (with_reducible rfl)
      (try simp only [Act.put, List.setIfInBounds_toArray, List.set_cons_zero, List.set_cons_succ])
      refine wpAnyH_take (i := 2) (oi := { dst := some 32, op := Op.move (Operand.tmp 1), type := 32, pos := "law.go:80", after := #[], guard := none }) (v := ?_) rfl (by kernel_rfl) (by kernel_rfl) (by kernel_rfl) (fun _ _ _ h => h) (Or.inl ⟨by rfl, ?_⟩) (by assumption) ?_
      rotate_left
      · intro wz hSz; (try dsimp only at hSz); go_simp; all_goals (with_reducible rfl)
      (try simp only [Act.put, List.setIfInBounds_toArray, List.set_cons_zero, List.set_cons_succ])
      refine wpAnyH_ready (rs := [1]) (by kernel_rfl) (by simp) ?_
      refine AllReadyH.cons (o := { dst := some 31, op := Op.call { callee := Callee.value (Operand.func 16), args := #[Operand.tmp 30], argTypes := #[28] }, type := 43, pos := "law.go:80", after := #[{ on := 0, ground := Ground.data }], guard := none }) rfl (fun K hK => ?_) AllReadyH.nil
      go_simp
      go_at_call 16; (with_reducible refine Calls.mono h16 ?_); rintro e w1 ⟨rfl, hb1⟩; replace XO := XO.below hb1
      go_wp2_with fail
      refine hK.out _ _ ?_ (fun hHeld => ?_)
      · (try dsimp only)
        exact XO.reads rfl
      clear hK K
      (try simp only [Act.put, List.setIfInBounds_toArray, List.set_cons_zero, List.set_cons_succ])
      refine wpAnyH_ready (rs := [3]) (by kernel_rfl) (by simp) ?_
      refine AllReadyH.cons (o := { dst := some 33, op := Op.call { callee := Callee.value (Operand.func 22), args := #[Operand.tmp 32], argTypes := #[32] }, type := 43, pos := "law.go:80", after := #[{ on := 2, ground := Ground.data }, { on := 1, ground := Ground.chain }], guard := none }) rfl (fun K hK => ?_) AllReadyH.nil
      go_simp
      go_at_call 22; (with_reducible refine Calls.mono (h22 _ hb1) ?_); rintro e w2 ⟨rfl, hb2⟩; replace XO := XO.below hb2
      go_wp2_with fail
      refine hK.out _ _ ?_ (fun hHeld => ?_)
      · (try dsimp only)
        exact XO.reads rfl
      clear hK K
      (try simp only [Act.put, List.setIfInBounds_toArray, List.set_cons_zero, List.set_cons_succ])
      refine wpAnyH_take (i := 4) (oi := { dst := some 34, op := Op.binOp BinOp.eql 43 (Operand.tmp 31) (Operand.tmp 33) 43, type := 4, pos := "law.go:80", after := #[{ on := 1, ground := Ground.data }, { on := 3, ground := Ground.data }, { on := 5, ground := Ground.gcOnly Departure.lateStores }], guard := none }) (v := ?_) rfl (by kernel_rfl) (by kernel_rfl) (by kernel_rfl) (fun _ _ _ h => h) (Or.inl ⟨by rfl, ?_⟩) (by assumption) ?_
      rotate_left
      · intro wz hSz; (try dsimp only at hSz); go_simp; all_goals (with_reducible rfl)
      (try simp only [Act.put, List.setIfInBounds_toArray, List.set_cons_zero, List.set_cons_succ])
      refine wpAnyH_take (i := 5) (oi := { dst := some 8, op := Op.assign (Operand.const (Value.slice none 0 0)), type := 39, pos := "law.go:80", after := #[{ on := 3, ground := Ground.chain }, { on := 0, ground := Ground.textOnly Departure.lateStores }, { on := 1, ground := Ground.textOnly Departure.lateStoresUnsure }, { on := 2, ground := Ground.textOnly Departure.lateStores }, { on := 3, ground := Ground.textOnly Departure.lateStoresUnsure }, { on := 4, ground := Ground.textOnly Departure.lateStores }], guard := none }) (v := ?_) rfl (by kernel_rfl) (by kernel_rfl) (by kernel_rfl) (fun _ _ _ h => h) (Or.inl ⟨by rfl, ?_⟩) (by assumption) ?_
      rotate_left
      · intro wz hSz; (try dsimp only at hSz); go_simp; all_goals (with_reducible rfl)
      (try simp only [Act.put, List.setIfInBounds_toArray, List.set_cons_zero, List.set_cons_succ])
      refine wpAnyH_take (i := 6) (oi := { dst := some 9, op := Op.assign (Operand.tmp 34), type := 4, pos := "law.go:80", after := #[{ on := 4, ground := Ground.data }, { on := 5, ground := Ground.chain }, { on := 0, ground := Ground.phase }, { on := 1, ground := Ground.phase }, { on := 2, ground := Ground.phase }, { on := 3, ground := Ground.phase }, { on := 4, ground := Ground.phase }, { on := 5, ground := Ground.phase }], guard := none }) (v := ?_) rfl (by kernel_rfl) (by kernel_rfl) (by kernel_rfl) (fun _ _ _ h => h) (Or.inl ⟨by rfl, ?_⟩) (by assumption) ?_
      rotate_left
      · intro wz hSz; (try dsimp only at hSz); go_simp; all_goals (with_reducible rfl)
      (try simp only [Act.put, List.setIfInBounds_toArray, List.set_cons_zero, List.set_cons_succ])
      refine wpAnyH_done (by kernel_rfl) ?_ _
      refine NoPanic.normal ?_
      go_wp2_with fail
      go_ret2
      have B2 : Below V.heap.size V w2 := ((Below.refl V.heap.size V).drew.trans hb1).trans (hb2.mono hb1.size)
      exact ⟨F, st, .slice none 0 0, rfl, (h1.below B2).up (Nat.le_succ _), fun q e => .inl e, Only.of_below (XB.trans (B2.mono XB.size)), .inl rfl, fun q e => by cases e⟩
    · by_cases k3 : kd = 6
      · subst k3
        have hln := h1.ln
        obtain ⟨ti, hi, hx⟩ := Option.map_eq_some_iff.1 infoA
        have hi0 : ti.zero = some (.agg #[.int .i64 0, .int .i64 0, .int .i64 0, .int .i64 0]) := congrArg (·.1) hx
        have hi1 : ti.size = 4 := congrArg (·.2.1) hx
        have hi2 : ti.bytes = 32 := congrArg (·.2.2) hx
        have h11 := (pair_log h1 (by omega)).1
        have h12 : ∀ W, Below (w.alloc (.cells #[.int .i64 6, .int .i64 nn, .string s] 38)).heap.size (w.alloc (.cells #[.int .i64 6, .int .i64 nn, .string s] 38)) W → Calls Try.prog 12 #[.pointer (some ⟨b2, 0, none⟩)] W fun e w1 => (∃ a c, e = .returned (.slice a st.lg.length c) ∧ w1.ownsRow W.heap.size 43 4 (.slice a st.lg.length c) st.lg.length (cellsF Al.cs st.lg)) ∧ Below W.heap.size W w1 := fun W hW => (pair_log (h1.below hW) (by omega)).2
        obtain ⟨n, hn⟩ : ∃ n, st.lg.length = n := ⟨_, rfl⟩
        have h10 := fun a1 a2 c1 c2 B1 B2 W => same_any st.lg n hn a1 a2 c1 c2 B1 B2 W (by omega)
        have hn' : Hid (st.lg.length = n) := hn
        rw [hn] at h11 h12 hln
        clear h hn
        go_enter Try.func9, Try.ntmps9
        go_upto_region 1 with fail
        generalize (w.alloc (.cells #[.int .i64 6, .int .i64 nn, .string s] 38)) = V at *
        obtain ⟨_, i1, _⟩ := id XO
        go_upto_region 8 with (first
          | (go_at_call 11; (with_reducible refine Calls.mono h11 ?_); rintro e w1 ⟨⟨a, c, rfl, o1⟩, hb1⟩)
          | (go_at_call 12; (with_reducible refine Calls.mono (h12 _ hb1) ?_); rintro e w2 ⟨⟨a2, c2, rfl, o2⟩, hb2⟩)
          | (go_at_call 10; (with_reducible refine Calls.mono (h10 _ _ _ _ _ _ _ (own_bel o1 hb2) o2) ?_); rintro e w3 ⟨rfl, hb3⟩))
        have B1 := XB.trans (hb1.mono XB.size)
        have B2 := B1.trans (hb2.mono B1.size)
        have B3 := B2.trans (hb3.mono B2.size)
        have S0 : MS w w3 a n c 0 mark st.lg := ⟨hn'.out, fun j hj => by omega, own_base (own_bel (own_bel o1 hb2) hb3) (by omega), B3⟩
        clear h10 h11 h12 o1 o2 hb1 hb2 hb3 B1 B2 B3 i1 XO
        go_wp2
        go_loopg [12] n (fun gk v wr => ∃ (k : Nat) (M : List Al), k + gk = n ∧ v = .int .i64 (k : Int) ∧ Hid (MS w wr a n c k mark M))
        case atStart => exact ⟨0, _, by omega, rfl, S0⟩
        case round =>
          clear S0
          obtain ⟨k, M, hkk, rfl, hS⟩ := hrel
          cases gk with
          | zero =>
            have ek : k = n := by omega
            subst ek
            have eM : M = List.replicate k ⟨mark, 0, 0, 0⟩ := by
              apply List.ext_getElem?
              intro j
              by_cases hj : j < k
              · rw [hS.out.ms j hj, List.getElem?_replicate, if_pos hj]
              · rw [List.getElem?_eq_none (by rw [hS.out.len]; omega), List.getElem?_eq_none (by simp; omega)]
            subst eM
            go_wp2_with (at_builtin; (refine wpList_append_mine _ rfl _ _ 39 rfl (w.heap.size + 1) 43 ti _ 4 32 Try.underlying39 hi hi0 hi1 hi2 rfl (by decide) (.slice a k c) k _ rfl (own_bel hS.out.own belN1) ⟨wr.heap.size, 0, none⟩ 1 1 [.int .i64 mark, .int .i64 0, .int .i64 0, .int .i64 0] rfl rfl (cells_at (W := wr) rfl _ _) (all_one rfl) (by decide) (by unfold maxLen; omega) (by omega) (by have := hS.out.be.size; simp; omega) ?_); intro g' cap' w4 o1 o2 o3 o4 o5)
            have B4 : Below w.heap.size w w4 := grown_bel (hS.out.be.alloc (o := .cells #[.int .i64 mark, .int .i64 0, .int .i64 0, .int .i64 0] 43) hS.out.be.size) o2 (Nat.le_refl _) (fun q hq => by have := (own_lt hS.out.own q hq).1; omega)
            have gw : w.heap.size ≤ g' := by have := (own_lt o1 g' rfl).1; omega
            have fG : cellsF Al.cs (List.replicate k ⟨mark, 0, 0, 0⟩) ++ [.int .i64 mark, .int .i64 0, .int .i64 0, .int .i64 0] = cellsF Al.cs (List.replicate (k + 1) ⟨mark, 0, 0, 0⟩) := by rw [List.replicate_succ', cellsF_append]; rfl
            rw [fG] at o1
            go_ret2
            refine ⟨F, st, .slice (some ⟨g', 0, none⟩) (k + 1) cap', rfl, ?_, fun q e => .inl e, Only.of_below B4, .inr ⟨k, _, _, hln, rfl, own_base o1 (Nat.le_succ _)⟩, fun q e hf => ?_⟩
            · exact (hw0.out.below B4).up (Nat.le_succ _)
            · have e' : g' = q := Option.some.inj e
              have := hlt q hf
              omega
          | succ g =>
            have hki : (k : Int) < (n : Int) := by omega
            have hkM : k < M.length := by rw [hS.out.len]; omega
            have hwk : IntKind.i64.wrap ((k : Int) + 1) = (k : Int) + 1 := wrap64 _ (by omega)
            obtain ⟨gb, c', e5, -, hgb, -⟩ := own_block hS.out.own (by omega)
            injection e5 with e5 _ e6
            subst e5 e6
            have rd : ∀ j u, (Al.cs M[k])[j]? = some u → wr.cell? ⟨gb, k * 4 + j, none⟩ = some u := fun j u hu => by
              have hj : j < 4 := by have := (List.getElem?_eq_some_iff.1 hu).1; rwa [al_len] at this
              exact own_reads hS.out.own rfl _ _ (by rw [cellsF_get al_len M k j hkM hj]; exact hu)
            have y0 := rd 0 _ rfl
            have y1 := rd 1 _ rfl
            have y2 := rd 2 _ rfl
            have y3 := rd 3 _ rfl
            have z := hS.out.own.frozenAt
            simp only [Nat.add_zero] at y0
            clear rd
            go_wp2
            go_roundg g
            case measure => omega
            case rel =>
            refine ⟨k + 1, M.set k ⟨mark, 0, 0, 0⟩, by omega, by push_cast; rfl, ?_⟩
            refine ⟨by rw [List.length_set]; exact hS.out.len, fun j hj => ?_, ?_, ?_⟩
            · rw [List.getElem?_set]
              by_cases e : k = j
              · rw [if_pos e, if_pos hkM]
              · rw [if_neg e]; exact hS.out.ms j (by omega)
            · have := own_stored (Al.cs ⟨mark, 0, 0, 0⟩) wr _ (k * 4) hS.out.own
              rw [setAll_row al_len (by decide) M k hkM] at this
              exact this
            · exact (((hS.out.be.setCell (p := ⟨gb, k * 4, none⟩) (by show w.heap.size ≤ gb; omega) _).setCell (p := ⟨gb, k * 4 + 1, none⟩) (by show w.heap.size ≤ gb; omega) _).setCell (p := ⟨gb, k * 4 + 2, none⟩) (by show w.heap.size ≤ gb; omega) _).setCell (p := ⟨gb, k * 4 + 3, none⟩) (by show w.heap.size ≤ gb; omega) _
      · have k7 : kd = 7 := by omega
        subst k7
        obtain ⟨x, h17⟩ := pair_reset h1 hg
        clear h
        go_enter Try.func9, Try.ntmps9
        go_upto_region 1 with fail
        generalize (w.alloc (.cells #[.int .i64 7, .int .i64 nn, .string s] 38)) = V at *
        obtain ⟨_, i1, _⟩ := id XO
        go_wp2_with (first | (go_at_call 17; (with_reducible refine Calls.mono h17 ?_); rintro e w1 ⟨rfl, oF1, h23⟩) | (go_at_call 23; (with_reducible refine Calls.mono (h23 _ (Below.refl _ _)) ?_); rintro e w2 ⟨rfl, ⟨st', hP⟩, oF⟩))
        go_ret2
        refine ⟨_, st', .slice none 0 0, rfl, hP, ?_, (Only.of_below XB).trans oF, .inl rfl, fun q e => by cases e⟩
        intro q hq
        rcases hq with e | e
        · exact .inl e
        · exact .inr (by omega)
end Go.Proofs.Ytoaokpmnjppfcaa
