import Derived.Test.YtoaokpmnjppfcaaWaP
namespace Go.Proofs.Ytoaokpmnjppfcaa
open Go.RowKit
set_option linter.unusedVariables false
set_option linter.unusedSimpArgs false

/-- What a monitor remembers. -/
structure Sta where
  f : Nat → Lm
  tk : Int
  tr : Al
  lg : List Al
def trN (tr x : Al) : Al := if x.k = 0 then tr else x
def lgN (L : List Al) (x : Al) : List Al := if x.k = 0 then L else L ++ [x]
/-- What a feed answers, and what is remembered behind it. -/
def fdA (R : List Gr) (C : List Cf) (st : Sta) (s : ByteArray) : Al := if st.tr.k = 0 then frF R C st.f st.tk s else al0
def fdS (R : List Gr) (C : List Cf) (st : Sta) (s : ByteArray) : Sta :=
  if st.tr.k = 0 then ⟨lmF R st.f st.tk s, st.tk + 1, trN st.tr (frF R C st.f st.tk s), lgN st.lg (frF R C st.f st.tk s)⟩ else st
set_option maxRecDepth 100000 in
set_option maxHeartbeats 2000000 in
theorem feed_no {w : World} {lo lb gl b B : Nat} {vg vc vl : Value} {R : List Gr} {C : List Cf} {f : Nat → Lm} {tk : Int} {tr : Al} {L : List Al} (h : Mo w lo lb gl b B vg vc vl R C f tk tr L) (s : ByteArray) (hk : tr.k ≠ 0) : Calls Try.prog 15 #[.pointer (some ⟨b, 0, none⟩), .string s] w fun e w' => e = .returned (.agg #[.int .i64 al0.k, .int .i64 al0.t, .int .i64 al0.a, .int .i64 al0.b]) ∧ Below w.heap.size w w' := by
  have h25 := fun W => isAlarm_any tr.k tr.t tr.a tr.b W
  have hd : decide (tr.k = 0) = false := by simp [hk]
  rw [hd] at h25
  have HB : Below w.heap.size w (w.alloc (.cells #[.int .i64 0, .int .i64 0, .int .i64 0, .int .i64 0] 43)) := belN1
  have HR : Has (w.alloc (.cells #[.int .i64 0, .int .i64 0, .int .i64 0, .int .i64 0] 43)) w.heap.size #[.int .i64 0, .int .i64 0, .int .i64 0, .int .i64 0] := Has.new _ _ _ rfl
  have HM := (h.ob.alloc (.cells #[.int .i64 0, .int .i64 0, .int .i64 0, .int .i64 0] 43))
  obtain ⟨⟨x1, x2, x3, e1⟩, ⟨y1, y2, y3, e2⟩, z1, z2, e3⟩ := h.vs
  subst e1 e2 e3
  clear h hk hd
  obtain ⟨k0, t0, a0, b0⟩ := tr
  dsimp only at *
  have h25' : ∀ W, Calls Try.prog 25 #[.agg #[.int .i64 k0, .int .i64 t0, .int .i64 a0, .int .i64 b0]] W fun e w' => e = .returned (.bool true) ∧ Below W.heap.size W w' := h25
  generalize R.length = n at *
  go_enter Try.func15, Try.ntmps15
  go_upto_region 1 with fail
  generalize (w.alloc (.cells #[.int .i64 0, .int .i64 0, .int .i64 0, .int .i64 0] 43)) = V at *
  obtain ⟨_, i1, _⟩ := id HM
  go_wp2_with (go_at_call 25; (with_reducible refine Calls.mono (h25' _) ?_); rintro e w1 ⟨rfl, hb⟩; replace HB := HB.trans (hb.mono HB.size); replace HR := HR.below hb; obtain ⟨_, i2, f2⟩ := id HR)
  exact bodyPost_ret (v := .agg #[.int .i64 0, .int .i64 0, .int .i64 0, .int .i64 0]) (by simp [results, Try.results15, go_sem, i2]) rfl ⟨rfl, (((HB.setCell (p := ⟨w.heap.size, 0, none⟩) (Nat.le_refl _) _).setCell (p := ⟨w.heap.size, 1, none⟩) (Nat.le_refl _) _).setCell (p := ⟨w.heap.size, 2, none⟩) (Nat.le_refl _) _).setCell (p := ⟨w.heap.size, 3, none⟩) (Nat.le_refl _) _⟩

set_option maxRecDepth 100000 in
set_option maxHeartbeats 4000000 in
theorem feed_yes {w : World} {lo lb gl b B : Nat} {vg vc vl : Value} {R : List Gr} {C : List Cf} {f : Nat → Lm} {tk : Int} {tr : Al} {L : List Al} (h : Mo w lo lb gl b B vg vc vl R C f tk tr L) (s : ByteArray) (ok : FOk R C f tk) (hL : L.length + 1 ≤ 4398046511000) (hk : tr.k = 0) : Calls Try.prog 15 #[.pointer (some ⟨b, 0, none⟩), .string s] w fun e w' => ∃ vl', e = .returned (.agg #[.int .i64 (frF R C f tk s).k, .int .i64 (frF R C f tk s).t, .int .i64 (frF R C f tk s).a, .int .i64 (frF R C f tk s).b]) ∧ Mo w' lo lb gl b B vg vc vl' R C (lmF R f tk s) (tk + 1) (trN tr (frF R C f tk s)) (lgN L (frF R C f tk s)) ∧ (vl'.ownBlock = vl.ownBlock ∨ ∀ q, vl'.ownBlock = some q → w.heap.size ≤ q) ∧ Only (fun q => q = b ∨ q = B ∨ vl.ownBlock = some q) w w' := by
  have h25 := fun W => isAlarm_any tr.k tr.t tr.a tr.b W
  have hd : decide (tr.k = 0) = true := by simp [hk]
  rw [hd] at h25
  have hk' : Hid (tr.k = 0) := hk
  have hw : IntKind.i64.wrap (tk + 1) = tk + 1 := wrap64 _ (by have := ok.tk; omega)
  have h27 : ∀ W : World, Only (fun q => q = B) w W → Has W B (rwA Lm.cs R.length f) → Calls Try.prog 27 #[.agg #[vg, vc], .int .i64 tk, .string s, .slice (some ⟨B, 0, none⟩) R.length R.length] W fun e w' => e = .returned (.agg #[.int .i64 (frF R C f tk s).k, .int .i64 (frF R C f tk s).t, .int .i64 (frF R C f tk s).a, .int .i64 (frF R C f tk s).b]) ∧ Has w' B (rwA Lm.cs R.length (lmF R f tk s)) ∧ Only (fun q => q = B) W w' := fun W hO hLm => first_any R C f B vg vc tk s W ok (h.gr.x.only hO) (h.cf.x.only hO) hLm
  obtain ⟨x, ex⟩ : ∃ x, frF R C f tk s = x := ⟨_, rfl⟩
  rw [ex] at h27 ⊢
  have h25x := fun W => isAlarm_any x.k x.t x.a x.b W
  have HR : Has (w.alloc (.cells #[.int .i64 0, .int .i64 0, .int .i64 0, .int .i64 0] 43)) w.heap.size #[.int .i64 0, .int .i64 0, .int .i64 0, .int .i64 0] := Has.new _ _ _ rfl
  have XM := h.ob.alloc (.cells #[.int .i64 0, .int .i64 0, .int .i64 0, .int .i64 0] 43)
  have XL := h.lm.alloc (.cells #[.int .i64 0, .int .i64 0, .int .i64 0, .int .i64 0] 43)
  have XO : Only (fun q => q = B) w (w.alloc (.cells #[.int .i64 0, .int .i64 0, .int .i64 0, .int .i64 0] 43)) := (Only.refl _ _).alloc _
  have hM : Hid (Mo w lo lb gl b B vg vc vl R C f tk tr L) := h
  have hbB := h.bB
  obtain ⟨⟨v1, v2, v3, e1⟩, ⟨y1, y2, y3, e2⟩, z1, z2, e3⟩ := h.vs
  obtain ⟨n, hn⟩ : ∃ n, R.length = n := ⟨_, rfl⟩
  have hn' : Hid (R.length = n) := hn
  rw [hn] at h27 XM XL
  clear h hk hd hn ex ok
  subst e1 e2 e3
  go_enter Try.func15, Try.ntmps15
  go_upto_region 1 with fail
  generalize (w.alloc (.cells #[.int .i64 0, .int .i64 0, .int .i64 0, .int .i64 0] 43)) = V0 at *
  obtain ⟨_, i1, _⟩ := id XM
  go_upto_region 3 with (go_at_call 25; (with_reducible refine Calls.mono (h25 _) ?_); rintro e V ⟨rfl, hb⟩)
  have XR := HR.below hb
  replace XM := XM.below hb
  replace XL := XL.below hb
  replace XO := XO.below hb
  clear hb h25 HR i1
  go_cut [5] (fun s5 wx => ∃ pp, s5 = .pointer (some ⟨pp, 0, none⟩) ∧ w.heap.size + 1 ≤ pp ∧ Has wx pp #[.int .i64 x.k, .int .i64 x.t, .int .i64 x.a, .int .i64 x.b] ∧ Has wx w.heap.size #[.int .i64 0, .int .i64 0, .int .i64 0, .int .i64 0] ∧ Has wx b #[.slice v1 v2 v3, .slice y1 y2 y3, .slice (some ⟨B, 0, none⟩) n n, .int .i64 tk, .int .i64 tr.k, .int .i64 tr.t, .int .i64 tr.a, .int .i64 tr.b, .slice z1 L.length z2] ∧ Has wx B (rwA Lm.cs n (lmF R f tk s)) ∧ Only (fun q => q = B) w wx)
  case first =>
    refine wp_region_noPanic ?_
    refine wp_region_held_drew (S := fun w' => (w'.cell? ⟨b, 0, none⟩ = some (.slice v1 v2 v3) ∧ w'.cell? ⟨b, 1, none⟩ = some (.slice y1 y2 y3) ∧ w'.cell? ⟨b, 2, none⟩ = some (.slice (some ⟨B, 0, none⟩) n n) ∧ w'.cell? ⟨b, 3, none⟩ = some (.int .i64 tk))) (by kernel_rfl) ?_ (fun hHeld => ?_)
    · (try dsimp only)
      exact ⟨XM.reads rfl, XM.reads rfl, XM.reads rfl, XM.reads rfl⟩
    refine wpAnyH_take (i := 0) (oi := { dst := some 12, op := Op.move (Operand.tmp 0), type := 28, pos := "watch.go:34", after := #[], guard := none }) (v := ?_) rfl (by kernel_rfl) (by kernel_rfl) (by kernel_rfl) (fun _ _ _ h => h) (Or.inl ⟨by rfl, ?_⟩) (by assumption) ?_
    rotate_left
    · intro wz hSz; (try dsimp only at hSz); go_simp; all_goals (with_reducible rfl)
    (try simp only [Act.put, List.setIfInBounds_toArray, List.set_cons_zero, List.set_cons_succ])
    refine wpAnyH_take (i := 1) (oi := { dst := some 13, op := Op.nilCheck (Operand.tmp 12), type := 0, pos := "watch.go:34", after := #[{ on := 0, ground := Ground.data }], guard := none }) (v := ?_) rfl (by kernel_rfl) (by kernel_rfl) (by kernel_rfl) (fun _ _ _ h => h) (Or.inl ⟨by rfl, ?_⟩) (by assumption) ?_
    rotate_left
    · intro wz hSz; (try dsimp only at hSz); go_simp; all_goals (with_reducible rfl)
    (try simp only [Act.put, List.setIfInBounds_toArray, List.set_cons_zero, List.set_cons_succ])
    refine wpAnyH_take (i := 2) (oi := { dst := some 14, op := Op.fieldAddr 61 (Operand.tmp 13) 0, type := 0, pos := "watch.go:34", after := #[{ on := 1, ground := Ground.data }], guard := none }) (v := ?_) rfl (by kernel_rfl) (by kernel_rfl) (by kernel_rfl) (fun _ _ _ h => h) (Or.inl ⟨by rfl, ?_⟩) (by assumption) ?_
    rotate_left
    · intro wz hSz; (try dsimp only at hSz); go_simp; all_goals (with_reducible rfl)
    (try simp only [Act.put, List.setIfInBounds_toArray, List.set_cons_zero, List.set_cons_succ])
    refine wpAnyH_take (i := 3) (oi := { dst := some 15, op := Op.load 57 (Operand.tmp 14), type := 57, pos := "watch.go:34", after := #[{ on := 2, ground := Ground.data }], guard := none }) (v := ?_) rfl (by kernel_rfl) (by kernel_rfl) (by kernel_rfl) (fun _ _ _ h => h) (Or.inl ⟨by rfl, ?_⟩) (by assumption) ?_
    rotate_left
    · intro wz hSz; (try dsimp only at hSz); go_simp; all_goals (with_reducible rfl)
    (try simp only [Act.put, List.setIfInBounds_toArray, List.set_cons_zero, List.set_cons_succ])
    refine wpAnyH_take (i := 4) (oi := { dst := some 16, op := Op.move (Operand.tmp 0), type := 28, pos := "watch.go:34", after := #[], guard := none }) (v := ?_) rfl (by kernel_rfl) (by kernel_rfl) (by kernel_rfl) (fun _ _ _ h => h) (Or.inl ⟨by rfl, ?_⟩) (by assumption) ?_
    rotate_left
    · intro wz hSz; (try dsimp only at hSz); go_simp; all_goals (with_reducible rfl)
    (try simp only [Act.put, List.setIfInBounds_toArray, List.set_cons_zero, List.set_cons_succ])
    refine wpAnyH_take (i := 5) (oi := { dst := some 17, op := Op.nilCheck (Operand.tmp 16), type := 0, pos := "watch.go:34", after := #[{ on := 4, ground := Ground.data }], guard := none }) (v := ?_) rfl (by kernel_rfl) (by kernel_rfl) (by kernel_rfl) (fun _ _ _ h => h) (Or.inl ⟨by rfl, ?_⟩) (by assumption) ?_
    rotate_left
    · intro wz hSz; (try dsimp only at hSz); go_simp; all_goals (with_reducible rfl)
    (try simp only [Act.put, List.setIfInBounds_toArray, List.set_cons_zero, List.set_cons_succ])
    refine wpAnyH_take (i := 6) (oi := { dst := some 18, op := Op.fieldAddr 61 (Operand.tmp 17) 2, type := 0, pos := "watch.go:34", after := #[{ on := 5, ground := Ground.data }], guard := none }) (v := ?_) rfl (by kernel_rfl) (by kernel_rfl) (by kernel_rfl) (fun _ _ _ h => h) (Or.inl ⟨by rfl, ?_⟩) (by assumption) ?_
    rotate_left
    · intro wz hSz; (try dsimp only at hSz); go_simp; all_goals (with_reducible rfl)
    (try simp only [Act.put, List.setIfInBounds_toArray, List.set_cons_zero, List.set_cons_succ])
    refine wpAnyH_take (i := 7) (oi := { dst := some 19, op := Op.load 3 (Operand.tmp 18), type := 3, pos := "watch.go:34", after := #[{ on := 6, ground := Ground.data }], guard := none }) (v := ?_) rfl (by kernel_rfl) (by kernel_rfl) (by kernel_rfl) (fun _ _ _ h => h) (Or.inl ⟨by rfl, ?_⟩) (by assumption) ?_
    rotate_left
    · intro wz hSz; (try dsimp only at hSz); go_simp; all_goals (with_reducible rfl)
    (try simp only [Act.put, List.setIfInBounds_toArray, List.set_cons_zero, List.set_cons_succ])
    refine wpAnyH_take (i := 8) (oi := { dst := some 20, op := Op.move (Operand.tmp 1), type := 9, pos := "watch.go:34", after := #[], guard := none }) (v := ?_) rfl (by kernel_rfl) (by kernel_rfl) (by kernel_rfl) (fun _ _ _ h => h) (Or.inl ⟨by rfl, ?_⟩) (by assumption) ?_
    rotate_left
    · intro wz hSz; (try dsimp only at hSz); go_simp; all_goals (with_reducible rfl)
    (try simp only [Act.put, List.setIfInBounds_toArray, List.set_cons_zero, List.set_cons_succ])
    refine wpAnyH_take (i := 9) (oi := { dst := some 21, op := Op.move (Operand.tmp 0), type := 28, pos := "watch.go:34", after := #[], guard := none }) (v := ?_) rfl (by kernel_rfl) (by kernel_rfl) (by kernel_rfl) (fun _ _ _ h => h) (Or.inl ⟨by rfl, ?_⟩) (by assumption) ?_
    rotate_left
    · intro wz hSz; (try dsimp only at hSz); go_simp; all_goals (with_reducible rfl)
    (try simp only [Act.put, List.setIfInBounds_toArray, List.set_cons_zero, List.set_cons_succ])
    refine wpAnyH_take (i := 10) (oi := { dst := some 22, op := Op.nilCheck (Operand.tmp 21), type := 0, pos := "watch.go:34", after := #[{ on := 9, ground := Ground.data }], guard := none }) (v := ?_) rfl (by kernel_rfl) (by kernel_rfl) (by kernel_rfl) (fun _ _ _ h => h) (Or.inl ⟨by rfl, ?_⟩) (by assumption) ?_
    rotate_left
    · intro wz hSz; (try dsimp only at hSz); go_simp; all_goals (with_reducible rfl)
    (try simp only [Act.put, List.setIfInBounds_toArray, List.set_cons_zero, List.set_cons_succ])
    refine wpAnyH_take (i := 11) (oi := { dst := some 23, op := Op.fieldAddr 61 (Operand.tmp 22) 1, type := 0, pos := "watch.go:34", after := #[{ on := 10, ground := Ground.data }], guard := none }) (v := ?_) rfl (by kernel_rfl) (by kernel_rfl) (by kernel_rfl) (fun _ _ _ h => h) (Or.inl ⟨by rfl, ?_⟩) (by assumption) ?_
    rotate_left
    · intro wz hSz; (try dsimp only at hSz); go_simp; all_goals (with_reducible rfl)
    (try simp only [Act.put, List.setIfInBounds_toArray, List.set_cons_zero, List.set_cons_succ])
    refine wpAnyH_take (i := 12) (oi := { dst := some 24, op := Op.load 59 (Operand.tmp 23), type := 59, pos := "watch.go:34", after := #[{ on := 11, ground := Ground.data }], guard := none }) (v := ?_) rfl (by kernel_rfl) (by kernel_rfl) (by kernel_rfl) (fun _ _ _ h => h) (Or.inl ⟨by rfl, ?_⟩) (by assumption) ?_
    rotate_left
    · intro wz hSz; (try dsimp only at hSz); go_simp; all_goals (with_reducible rfl)
    (try simp only [Act.put, List.setIfInBounds_toArray, List.set_cons_zero, List.set_cons_succ])
    replace XM := XM.drew
    replace XR := XR.drew
    replace XL := XL.drew
    replace XO := XO.drew
    generalize V.drew = V1 at *
    refine wpAnyH_ready (rs := [13, 14]) (by kernel_rfl) (by simp) ?_
    refine AllReadyH.cons (o := { dst := some 25, op := Op.call { callee := Callee.value (Operand.func 27), args := #[Operand.tmp 15, Operand.tmp 19, Operand.tmp 20, Operand.tmp 24], argTypes := #[57, 3, 9, 59] }, type := 43, pos := "watch.go:34", after := #[{ on := 3, ground := Ground.data }, { on := 7, ground := Ground.data }, { on := 8, ground := Ground.data }, { on := 12, ground := Ground.data }], guard := none }) rfl (fun K hK => ?_) (AllReadyH.cons (o := { dst := some 5, op := Op.alloc 43, type := 0, pos := "watch.go:34", after := #[], guard := none }) rfl (fun K hK => ?_) (AllReadyH.nil))
    · skip
      go_simp
      go_at_call 27
      (with_reducible refine Calls.mono (h27 _ XO XL) ?_)
      rintro e Y1 ⟨rfl, q1, q2⟩
      replace XM := XM.only q2 hbB
      replace XR := XR.only q2 (by have := hM.out.lm.1; omega)
      have XL2 := q1
      replace XO := XO.trans q2
      clear q1 q2 XL
      go_wp2_with fail
      refine hK.out _ _ ?_ (fun hHeld => ?_)
      · (try dsimp only)
        exact ⟨XM.reads rfl, XM.reads rfl, XM.reads rfl, XM.reads rfl⟩
      clear hK K
      (try simp only [Act.put, List.setIfInBounds_toArray, List.set_cons_zero, List.set_cons_succ])
      refine wpAnyH_ready (rs := [14]) (by kernel_rfl) (by simp) ?_
      refine AllReadyH.cons (o := { dst := some 5, op := Op.alloc 43, type := 0, pos := "watch.go:34", after := #[], guard := none }) rfl (fun K hK => ?_) (AllReadyH.nil)
      go_simp
      have hbb : Below Y1.heap.size Y1 (Y1.alloc (.cells #[.int .i64 0, .int .i64 0, .int .i64 0, .int .i64 0] 43)) := belN1
      have p1 : w.heap.size + 1 ≤ Y1.heap.size := by have := XR.1; omega
      replace XM := XM.below hbb
      replace XR := XR.below hbb
      replace XO := XO.below hbb
      replace XL2 := XL2.below hbb
      have XP : Has (Y1.alloc (.cells #[.int .i64 0, .int .i64 0, .int .i64 0, .int .i64 0] 43)) Y1.heap.size #[.int .i64 0, .int .i64 0, .int .i64 0, .int .i64 0] := Has.new _ _ _ rfl
      clear hbb
      generalize Y1.heap.size = pp at *
      generalize (Y1.alloc (.cells #[.int .i64 0, .int .i64 0, .int .i64 0, .int .i64 0] 43)) = Y2 at *
      refine hK.out _ _ ?_ (fun hHeld => ?_)
      · (try dsimp only)
        exact ⟨XM.reads rfl, XM.reads rfl, XM.reads rfl, XM.reads rfl⟩
      clear hK K
      (try simp only [Act.put, List.setIfInBounds_toArray, List.set_cons_zero, List.set_cons_succ])
      obtain ⟨_, j1, j2⟩ := id XP
      refine wpAnyH_ready (rs := [15]) (by kernel_rfl) (by simp) ?_
      refine AllReadyH.cons (o := { dst := none, op := Op.store 43 (Operand.tmp 5) (Operand.tmp 25), type := 0, pos := "watch.go:34", after := #[{ on := 14, ground := Ground.data }, { on := 13, ground := Ground.data }, { on := 13, ground := Ground.chain }, { on := 0, ground := Ground.phase }, { on := 1, ground := Ground.phase }, { on := 2, ground := Ground.phase }, { on := 3, ground := Ground.phase }, { on := 4, ground := Ground.phase }, { on := 5, ground := Ground.phase }, { on := 6, ground := Ground.phase }, { on := 7, ground := Ground.phase }, { on := 8, ground := Ground.phase }, { on := 9, ground := Ground.phase }, { on := 10, ground := Ground.phase }, { on := 11, ground := Ground.phase }, { on := 12, ground := Ground.phase }, { on := 13, ground := Ground.phase }, { on := 14, ground := Ground.phase }], guard := none }) rfl (fun K hK => ?_) (AllReadyH.nil)
      go_simp
      have hbm : b ≠ pp := by have := hM.out.ob.1; omega
      refine hK.out _ _ ?_ (fun hHeld => ?_)
      · (try dsimp only)
        exact ⟨(far4 XM hbm).reads rfl, (far4 XM hbm).reads rfl, (far4 XM hbm).reads rfl, (far4 XM hbm).reads rfl⟩
      clear hK K
      (try simp only [Act.put, List.setIfInBounds_toArray, List.set_cons_zero, List.set_cons_succ])
      refine wpAnyH_done (by kernel_rfl) ?_ _
      refine NoPanic.normal ?_
      go_wp2_with fail
      go_meet
      exact ⟨pp, rfl, p1, XP.set4x _ _ _ _, far4 XR (by omega), far4 XM hbm, far4 XL2 (by have := hM.out.lm.1; omega), (((XO.set_new (by omega) _).set_new (by omega) _).set_new (by omega) _).set_new (by omega) _⟩
    · skip
      go_simp
      have hbb : Below V1.heap.size V1 (V1.alloc (.cells #[.int .i64 0, .int .i64 0, .int .i64 0, .int .i64 0] 43)) := belN1
      have p1 : w.heap.size + 1 ≤ V1.heap.size := by have := XR.1; omega
      replace XM := XM.below hbb
      replace XR := XR.below hbb
      replace XO := XO.below hbb
      replace XL := XL.below hbb
      have XP : Has (V1.alloc (.cells #[.int .i64 0, .int .i64 0, .int .i64 0, .int .i64 0] 43)) V1.heap.size #[.int .i64 0, .int .i64 0, .int .i64 0, .int .i64 0] := Has.new _ _ _ rfl
      clear hbb
      generalize V1.heap.size = pp at *
      generalize (V1.alloc (.cells #[.int .i64 0, .int .i64 0, .int .i64 0, .int .i64 0] 43)) = Y1 at *
      refine hK.out _ _ ?_ (fun hHeld => ?_)
      · (try dsimp only)
        exact ⟨XM.reads rfl, XM.reads rfl, XM.reads rfl, XM.reads rfl⟩
      clear hK K
      (try simp only [Act.put, List.setIfInBounds_toArray, List.set_cons_zero, List.set_cons_succ])
      refine wpAnyH_ready (rs := [13]) (by kernel_rfl) (by simp) ?_
      refine AllReadyH.cons (o := { dst := some 25, op := Op.call { callee := Callee.value (Operand.func 27), args := #[Operand.tmp 15, Operand.tmp 19, Operand.tmp 20, Operand.tmp 24], argTypes := #[57, 3, 9, 59] }, type := 43, pos := "watch.go:34", after := #[{ on := 3, ground := Ground.data }, { on := 7, ground := Ground.data }, { on := 8, ground := Ground.data }, { on := 12, ground := Ground.data }], guard := none }) rfl (fun K hK => ?_) (AllReadyH.nil)
      go_simp
      go_at_call 27
      (with_reducible refine Calls.mono (h27 _ XO XL) ?_)
      rintro e Y2 ⟨rfl, q1, q2⟩
      replace XM := XM.only q2 hbB
      replace XR := XR.only q2 (by have := hM.out.lm.1; omega)
      replace XP := XP.only q2 (by have := hM.out.lm.1; omega)
      have XL2 := q1
      replace XO := XO.trans q2
      clear q1 q2 XL
      go_wp2_with fail
      refine hK.out _ _ ?_ (fun hHeld => ?_)
      · (try dsimp only)
        exact ⟨XM.reads rfl, XM.reads rfl, XM.reads rfl, XM.reads rfl⟩
      clear hK K
      (try simp only [Act.put, List.setIfInBounds_toArray, List.set_cons_zero, List.set_cons_succ])
      obtain ⟨_, j1, j2⟩ := id XP
      refine wpAnyH_ready (rs := [15]) (by kernel_rfl) (by simp) ?_
      refine AllReadyH.cons (o := { dst := none, op := Op.store 43 (Operand.tmp 5) (Operand.tmp 25), type := 0, pos := "watch.go:34", after := #[{ on := 14, ground := Ground.data }, { on := 13, ground := Ground.data }, { on := 13, ground := Ground.chain }, { on := 0, ground := Ground.phase }, { on := 1, ground := Ground.phase }, { on := 2, ground := Ground.phase }, { on := 3, ground := Ground.phase }, { on := 4, ground := Ground.phase }, { on := 5, ground := Ground.phase }, { on := 6, ground := Ground.phase }, { on := 7, ground := Ground.phase }, { on := 8, ground := Ground.phase }, { on := 9, ground := Ground.phase }, { on := 10, ground := Ground.phase }, { on := 11, ground := Ground.phase }, { on := 12, ground := Ground.phase }, { on := 13, ground := Ground.phase }, { on := 14, ground := Ground.phase }], guard := none }) rfl (fun K hK => ?_) (AllReadyH.nil)
      go_simp
      have hbm : b ≠ pp := by have := hM.out.ob.1; omega
      refine hK.out _ _ ?_ (fun hHeld => ?_)
      · (try dsimp only)
        exact ⟨(far4 XM hbm).reads rfl, (far4 XM hbm).reads rfl, (far4 XM hbm).reads rfl, (far4 XM hbm).reads rfl⟩
      clear hK K
      (try simp only [Act.put, List.setIfInBounds_toArray, List.set_cons_zero, List.set_cons_succ])
      refine wpAnyH_done (by kernel_rfl) ?_ _
      refine NoPanic.normal ?_
      go_wp2_with fail
      go_meet
      exact ⟨pp, rfl, p1, XP.set4x _ _ _ _, far4 XR (by omega), far4 XM hbm, far4 XL2 (by have := hM.out.lm.1; omega), (((XO.set_new (by omega) _).set_new (by omega) _).set_new (by omega) _).set_new (by omega) _⟩

  case rest =>
    clear XR XM XL XO h27
    obtain ⟨pp, rfl, p1, XP, XR, XM, XL, XO⟩ := hcut
    have hpb : pp ≠ b := by have := hM.out.ob.1; omega
    have hwb : w.heap.size ≠ b := by have := hM.out.ob.1; omega
    have hwB : w.heap.size ≠ B := by have := hM.out.lm.1; omega
    have hpB : pp ≠ B := by have := hM.out.lm.1; omega
    replace XO : Only (fun q => q = b ∨ q = B) w wc := XO.mono (fun q e => .inr e)
    have YM := XM.set3' (.int .i64 (tk + 1))
    have YP := XP.far hpb (i := 3) (.int .i64 (tk + 1))
    have YR := XR.far hwb (i := 3) (.int .i64 (tk + 1))
    have YL := XL.far (Ne.symm hbB) (i := 3) (.int .i64 (tk + 1))
    have YO : Only (fun q => q = b ∨ q = B) w (wc.setCell ⟨b, 3, none⟩ (.int .i64 (tk + 1))) := XO.set (.inl rfl) _
    obtain ⟨_, i1, f1⟩ := id XM
    by_cases hx : x.k = 0
    · have hdx : decide (x.k = 0) = true := by simp [hx]
      rw [hdx] at h25x
      have hx' : Hid (x.k = 0) := hx
      clear hx hdx
      go_upto_region 5 with fail
      generalize (wc.setCell ⟨b, 3, none⟩ (.int .i64 (tk + 1))) = W4 at *
      clear XM XP XR XL XO i1 f1
      obtain ⟨_, i1, _⟩ := id YP
      go_wp2_with (go_at_call 25; (with_reducible refine Calls.mono (h25x _) ?_); rintro e w1 ⟨rfl, hb⟩; replace YM := YM.below hb; replace YP := YP.below hb; replace YR := YR.below hb; replace YL := YL.below hb; replace YO := YO.below hb; clear hb i1; obtain ⟨_, i1, _⟩ := id YP; obtain ⟨_, i2, f2⟩ := id YR)
      refine bodyPost_ret (v := .agg #[.int .i64 x.k, .int .i64 x.t, .int .i64 x.a, .int .i64 x.b]) (by simp [results, Try.results15, go_sem, i2]) rfl ⟨.slice z1 L.length z2, rfl, ?_, .inl rfl, ?_⟩
      · rw [show trN tr x = tr from if_pos hx'.out, show lgN L x = L from if_pos hx'.out]
        have hm := hM.out
        have ZO : Only (fun q => q = b ∨ q = B) w ((((w1.setCell ⟨w.heap.size, 0, none⟩ (.int .i64 x.k)).setCell ⟨w.heap.size, 1, none⟩ (.int .i64 x.t)).setCell ⟨w.heap.size, 2, none⟩ (.int .i64 x.a)).setCell ⟨w.heap.size, 3, none⟩ (.int .i64 x.b)) := (((YO.set_new (Nat.le_refl _) _).set_new (Nat.le_refl _) _).set_new (Nat.le_refl _) _).set_new (Nat.le_refl _) _
        refine hm.step (ZO.mono (fun q e => e.elim .inl (fun e => .inr (.inl e)))) ?_ ?_ (own_only2 hm.lg ZO (fun q hq e => e.elim (hm.logne q hq).1 (hm.logne q hq).2.1))
        · rw [hn'.out]; exact far4 YM (Ne.symm hwb)
        · rw [hn'.out]; exact far4 YL (Ne.symm hwB)
      · exact ((((YO.set_new (Nat.le_refl _) _).set_new (Nat.le_refl _) _).set_new (Nat.le_refl _) _).set_new (Nat.le_refl _) _).mono (fun q e => e.elim .inl (fun e => .inr (.inl e)))
    · have hdx : decide (x.k = 0) = false := by simp [hx]
      rw [hdx] at h25x
      have hx' : Hid (x.k ≠ 0) := hx
      clear hx hdx
      have h25y : ∀ W, Calls Try.prog 25 #[.agg #[.int .i64 x.k, .int .i64 x.t, .int .i64 x.a, .int .i64 x.b]] W fun e w' => e = .returned (.bool true) ∧ Below W.heap.size W w' := h25x
      clear h25x
      go_upto_region 5 with fail
      generalize (wc.setCell ⟨b, 3, none⟩ (.int .i64 (tk + 1))) = W4 at *
      clear XM XP XR XL XO i1 f1
      obtain ⟨_, i1, _⟩ := id YP
      go_upto_region 7 with (go_at_call 25; (with_reducible refine Calls.mono (h25y _) ?_); rintro e w1 ⟨rfl, hb⟩; replace YM := YM.below hb; replace YP := YP.below hb; replace YR := YR.below hb; replace YL := YL.below hb; replace YO := YO.below hb; clear hb i1; obtain ⟨_, i1, _⟩ := id YP; obtain ⟨_, i2, f2⟩ := id YM)
      have hm := hM.out
      have nlb : ¬ (Value.slice z1 L.length z2).ownBlock = some b := fun e => (hm.logne b e).1 rfl
      have nlB : ¬ (Value.slice z1 L.length z2).ownBlock = some B := fun e => (hm.logne B e).2.1 rfl
      have nlp : ¬ (Value.slice z1 L.length z2).ownBlock = some pp := fun e => by have := (own_lt hm.lg pp e).2; omega
      have nlw : ¬ (Value.slice z1 L.length z2).ownBlock = some w.heap.size := fun e => by have := (own_lt hm.lg w.heap.size e).2; omega
      have YG := own_only2 hm.lg YO (fun q hq e => e.elim (hm.logne q hq).1 (hm.logne q hq).2.1)
      have Y6 := YM.set47 (.int .i64 x.k) (.int .i64 x.t) (.int .i64 x.a) (.int .i64 x.b)
      have Q6 := (((YP.far hpb (i := 4) (.int .i64 x.k)).far hpb (i := 5) (.int .i64 x.t)).far hpb (i := 6) (.int .i64 x.a)).far hpb (i := 7) (.int .i64 x.b)
      have R6 := (((YR.far hwb (i := 4) (.int .i64 x.k)).far hwb (i := 5) (.int .i64 x.t)).far hwb (i := 6) (.int .i64 x.a)).far hwb (i := 7) (.int .i64 x.b)
      have L6 := (((YL.far (Ne.symm hbB) (i := 4) (.int .i64 x.k)).far (Ne.symm hbB) (i := 5) (.int .i64 x.t)).far (Ne.symm hbB) (i := 6) (.int .i64 x.a)).far (Ne.symm hbB) (i := 7) (.int .i64 x.b)
      have O6 := (((YO.set (.inl rfl) (b := b) (i := 4) (.int .i64 x.k)).set (.inl rfl) (b := b) (i := 5) (.int .i64 x.t)).set (.inl rfl) (b := b) (i := 6) (.int .i64 x.a)).set (.inl rfl) (b := b) (i := 7) (.int .i64 x.b)
      have G6 := own_only2 (((own_only2 (own_only2 (own_only2 YG (only_of_set w1 b 4 (.int .i64 x.k)) (fun q hq e => (hm.logne q hq).1 e)) (only_of_set _ b 5 (.int .i64 x.t)) (fun q hq e => (hm.logne q hq).1 e)) (only_of_set _ b 6 (.int .i64 x.a)) (fun q hq e => (hm.logne q hq).1 e)))) (only_of_set _ b 7 (.int .i64 x.b)) (fun q hq e => (hm.logne q hq).1 e)
      clear YM YP YR YL YO YG i1 i2 f2
      generalize ((((w1.setCell ⟨b, 4, none⟩ (.int .i64 x.k)).setCell ⟨b, 5, none⟩ (.int .i64 x.t)).setCell ⟨b, 6, none⟩ (.int .i64 x.a)).setCell ⟨b, 7, none⟩ (.int .i64 x.b)) = W6 at *
      obtain ⟨ti, hi, hxx⟩ := Option.map_eq_some_iff.1 infoA
      have hi0 : ti.zero = some (.agg #[.int .i64 0, .int .i64 0, .int .i64 0, .int .i64 0]) := congrArg (·.1) hxx
      have hi1 : ti.size = 4 := congrArg (·.2.1) hxx
      have hi2 : ti.bytes = 32 := congrArg (·.2.2) hxx
      have gl1 : gl ≤ w.heap.size := hm.l2
      have hbw : b < w.heap.size := hm.ob.1
      go_cut [] (fun wx => ∃ g cap, Has wx b #[.slice v1 v2 v3, .slice y1 y2 y3, .slice (some ⟨B, 0, none⟩) n n, .int .i64 (tk + 1), .int .i64 x.k, .int .i64 x.t, .int .i64 x.a, .int .i64 x.b, .slice (some ⟨g, 0, none⟩) (L.length + 1) cap] ∧ Has wx pp #[.int .i64 x.k, .int .i64 x.t, .int .i64 x.a, .int .i64 x.b] ∧ Has wx w.heap.size #[.int .i64 0, .int .i64 0, .int .i64 0, .int .i64 0] ∧ Has wx B (rwA Lm.cs n (lmF R f tk s)) ∧ Only (fun q => q = b ∨ q = B ∨ (Value.slice z1 L.length z2).ownBlock = some q) w wx ∧ wx.ownsRow gl 43 4 (.slice (some ⟨g, 0, none⟩) (L.length + 1) cap) (L ++ [x]).length (cellsF Al.cs (L ++ [x])) ∧ g ≠ w.heap.size ∧ ((Value.slice (some ⟨g, 0, none⟩) (L.length + 1) cap).ownBlock = (Value.slice z1 L.length z2).ownBlock ∨ ∀ q, (Value.slice (some ⟨g, 0, none⟩) (L.length + 1) cap).ownBlock = some q → w.heap.size ≤ q))
      case first =>
        refine wp_region_noPanic ?_
        refine wp_region_held_drew (S := fun w' => w'.cell? ⟨pp, 0, none⟩ = some (.int .i64 x.k) ∧ w'.cell? ⟨pp, 1, none⟩ = some (.int .i64 x.t) ∧ w'.cell? ⟨pp, 2, none⟩ = some (.int .i64 x.a) ∧ w'.cell? ⟨pp, 3, none⟩ = some (.int .i64 x.b)) (by kernel_rfl) ?_ (fun hHeld => ?_)
        · (try dsimp only)
          exact ⟨Q6.reads rfl, Q6.reads rfl, Q6.reads rfl, Q6.reads rfl⟩
        refine wpAnyH_take (i := 0) (oi := { dst := some 39, op := Op.move (Operand.tmp 0), type := 28, pos := "watch.go:38", after := #[], guard := none }) (v := ?_) rfl (by kernel_rfl) (by kernel_rfl) (by kernel_rfl) (fun _ _ _ h => h) (Or.inl ⟨by rfl, ?_⟩) (by assumption) ?_
        rotate_left
        · intro wz hSz; (try dsimp only at hSz); go_simp; all_goals (with_reducible rfl)
        (try simp only [Act.put, List.setIfInBounds_toArray, List.set_cons_zero, List.set_cons_succ])
        refine wpAnyH_take (i := 1) (oi := { dst := some 40, op := Op.move (Operand.tmp 0), type := 28, pos := "watch.go:38", after := #[], guard := none }) (v := ?_) rfl (by kernel_rfl) (by kernel_rfl) (by kernel_rfl) (fun _ _ _ h => h) (Or.inl ⟨by rfl, ?_⟩) (by assumption) ?_
        rotate_left
        · intro wz hSz; (try dsimp only at hSz); go_simp; all_goals (with_reducible rfl)
        (try simp only [Act.put, List.setIfInBounds_toArray, List.set_cons_zero, List.set_cons_succ])
        refine wpAnyH_take (i := 2) (oi := { dst := some 41, op := Op.nilCheck (Operand.tmp 40), type := 0, pos := "watch.go:38", after := #[{ on := 1, ground := Ground.data }], guard := none }) (v := ?_) rfl (by kernel_rfl) (by kernel_rfl) (by kernel_rfl) (fun _ _ _ h => h) (Or.inl ⟨by rfl, ?_⟩) (by assumption) ?_
        rotate_left
        · intro wz hSz; (try dsimp only at hSz); go_simp; all_goals (with_reducible rfl)
        (try simp only [Act.put, List.setIfInBounds_toArray, List.set_cons_zero, List.set_cons_succ])
        refine wpAnyH_take (i := 3) (oi := { dst := some 42, op := Op.fieldAddr 61 (Operand.tmp 41) 4, type := 0, pos := "watch.go:38", after := #[{ on := 2, ground := Ground.data }], guard := none }) (v := ?_) rfl (by kernel_rfl) (by kernel_rfl) (by kernel_rfl) (fun _ _ _ h => h) (Or.inl ⟨by rfl, ?_⟩) (by assumption) ?_
        rotate_left
        · intro wz hSz; (try dsimp only at hSz); go_simp; all_goals (with_reducible rfl)
        (try simp only [Act.put, List.setIfInBounds_toArray, List.set_cons_zero, List.set_cons_succ])
        refine wpAnyH_take (i := 5) (oi := { dst := some 44, op := Op.load 43 (Operand.tmp 5), type := 43, pos := "watch.go:38", after := #[], guard := none }) (v := ?_) rfl (by kernel_rfl) (by kernel_rfl) (by kernel_rfl) (fun _ _ _ h => h) (Or.inl ⟨by rfl, ?_⟩) (by assumption) ?_
        rotate_left
        · intro wz hSz; (try dsimp only at hSz); go_simp; all_goals (with_reducible rfl)
        (try simp only [Act.put, List.setIfInBounds_toArray, List.set_cons_zero, List.set_cons_succ])
        replace Y6 := Y6.drew
        replace Q6 := Q6.drew
        replace R6 := R6.drew
        replace L6 := L6.drew
        replace O6 := O6.drew
        replace G6 := own_bel G6 (Below.refl _ _).drew
        generalize W6.drew = V7 at *
        refine wpAnyH_ready (rs := [4, 6]) (by kernel_rfl) (by simp) ?_
        refine AllReadyH.cons (o := { dst := some 43, op := Op.load 39 (Operand.tmp 42), type := 39, pos := "watch.go:38", after := #[{ on := 3, ground := Ground.data }], guard := none }) rfl (fun K hK => ?_) (AllReadyH.cons (o := { dst := some 45, op := Op.buildSlice 39 1 #[(0, Operand.tmp 44)], type := 39, pos := "watch.go:38", after := #[{ on := 5, ground := Ground.data }], guard := none }) rfl (fun K hK => ?_) (AllReadyH.nil))
        · skip
          have c8 := Y6.reads (i := 8) rfl
          go_simp
          refine hK.out _ _ ?_ (fun hHeld => ?_)
          · (try dsimp only)
            exact ⟨Q6.reads rfl, Q6.reads rfl, Q6.reads rfl, Q6.reads rfl⟩
          clear hK K
          (try simp only [Act.put, List.setIfInBounds_toArray, List.set_cons_zero, List.set_cons_succ])
          refine wpAnyH_ready (rs := [6]) (by kernel_rfl) (by simp) ?_
          refine AllReadyH.cons (o := { dst := some 45, op := Op.buildSlice 39 1 #[(0, Operand.tmp 44)], type := 39, pos := "watch.go:38", after := #[{ on := 5, ground := Ground.data }], guard := none }) rfl (fun K hK => ?_) (AllReadyH.nil)
          go_simp
          have hbb : Below V7.heap.size V7 (V7.alloc (.cells #[.int .i64 x.k, .int .i64 x.t, .int .i64 x.a, .int .i64 x.b] 43)) := belN1
          have N7 : Has (V7.alloc (.cells #[.int .i64 x.k, .int .i64 x.t, .int .i64 x.a, .int .i64 x.b] 43)) V7.heap.size #[.int .i64 x.k, .int .i64 x.t, .int .i64 x.a, .int .i64 x.b] := Has.new _ _ _ rfl
          have h7 : pp < V7.heap.size := Q6.1
          replace Y6 := Y6.below hbb
          replace Q6 := Q6.below hbb
          replace R6 := R6.below hbb
          replace L6 := L6.below hbb
          replace O6 := O6.below hbb
          replace G6 := own_bel G6 hbb
          clear hbb
          generalize V7.heap.size = q0 at *
          generalize (V7.alloc (.cells #[.int .i64 x.k, .int .i64 x.t, .int .i64 x.a, .int .i64 x.b] 43)) = V8 at *
          refine hK.out _ _ ?_ (fun hHeld => ?_)
          · (try dsimp only)
            exact ⟨Q6.reads rfl, Q6.reads rfl, Q6.reads rfl, Q6.reads rfl⟩
          clear hK K
          (try simp only [Act.put, List.setIfInBounds_toArray, List.set_cons_zero, List.set_cons_succ])
          have nc : ∀ j u, x.cs[j]? = some u → V8.cell? ((⟨q0, 0, none⟩ : Addr).add j) = some u := newsOf N7
          have zH : w.heap.size + 1 ≤ V8.heap.size := by have := R6.1; omega
          refine wpAnyH_ready (rs := [7]) (by kernel_rfl) (by simp) ?_
          refine AllReadyH.cons (o := { dst := some 46, op := Op.call { callee := Callee.builtin Builtin.append, args := #[Operand.tmp 43, Operand.tmp 45], argTypes := #[39, 39] }, type := 39, pos := "watch.go:38", after := #[{ on := 4, ground := Ground.data }, { on := 6, ground := Ground.data }], guard := none }) rfl (fun K hK => ?_) (AllReadyH.nil)
          refine step_append_lies _ rfl _ _ 39 rfl gl 43 ti _ 4 32 Try.underlying39 hi hi0 hi1 hi2 rfl (by decide) (.slice z1 L.length z2) L.length (cellsF Al.cs L) rfl G6 ⟨q0, 0, none⟩ 1 1 x.cs rfl rfl nc (al_one x) (by decide) (by unfold maxLen; omega) (by omega) (by omega) _ rfl ?_
          intro g cap w3 o1 o2 o3 o4
          have NO : Only (fun q => (Value.slice z1 L.length z2).ownBlock = some q) V8 w3 := only_grown (Only.refl _ _) o2 (fun k hk => .inl hk)
          replace Y6 := Y6.only NO nlb
          replace Q6 := Q6.only NO nlp
          replace R6 := R6.only NO nlw
          replace L6 := L6.only NO nlB
          replace O6 : Only (fun q => q = b ∨ q = B ∨ (Value.slice z1 L.length z2).ownBlock = some q) w w3 := (O6.mono (fun q e => e.elim .inl (fun e => .inr (.inl e)))).trans (NO.mono (fun q e => .inr (.inr e)))
          replace G6 := o1
          clear o1 o2 NO nc N7
          refine hK.out _ _ ?_ (fun hHeld => ?_)
          · (try dsimp only)
            exact ⟨Q6.reads rfl, Q6.reads rfl, Q6.reads rfl, Q6.reads rfl⟩
          clear hK K
          (try simp only [Act.put, List.setIfInBounds_toArray, List.set_cons_zero, List.set_cons_succ])
          refine wpAnyH_take (i := 8) (oi := { dst := some 47, op := Op.nilCheck (Operand.tmp 39), type := 0, pos := "watch.go:38", after := #[{ on := 0, ground := Ground.data }, { on := 0, ground := Ground.phase }, { on := 1, ground := Ground.phase }, { on := 2, ground := Ground.phase }, { on := 3, ground := Ground.phase }, { on := 4, ground := Ground.phase }, { on := 5, ground := Ground.phase }, { on := 6, ground := Ground.phase }, { on := 7, ground := Ground.phase }], guard := none }) (v := ?_) rfl (by kernel_rfl) (by kernel_rfl) (by kernel_rfl) (fun _ _ _ h => h) (Or.inl ⟨by rfl, ?_⟩) (by assumption) ?_
          rotate_left
          · intro wz hSz; (try dsimp only at hSz); go_simp; all_goals (with_reducible rfl)
          (try simp only [Act.put, List.setIfInBounds_toArray, List.set_cons_zero, List.set_cons_succ])
          refine wpAnyH_take (i := 9) (oi := { dst := some 48, op := Op.fieldAddr 61 (Operand.tmp 47) 4, type := 0, pos := "watch.go:38", after := #[{ on := 8, ground := Ground.data }, { on := 0, ground := Ground.phase }, { on := 1, ground := Ground.phase }, { on := 2, ground := Ground.phase }, { on := 3, ground := Ground.phase }, { on := 4, ground := Ground.phase }, { on := 5, ground := Ground.phase }, { on := 6, ground := Ground.phase }, { on := 7, ground := Ground.phase }], guard := none }) (v := ?_) rfl (by kernel_rfl) (by kernel_rfl) (by kernel_rfl) (fun _ _ _ h => h) (Or.inl ⟨by rfl, ?_⟩) (by assumption) ?_
          rotate_left
          · intro wz hSz; (try dsimp only at hSz); go_simp; all_goals (with_reducible rfl)
          (try simp only [Act.put, List.setIfInBounds_toArray, List.set_cons_zero, List.set_cons_succ])
          have f8 := Y6.2.2 8
          have c8 := Y6.reads (i := 8) rfl
          refine wpAnyH_ready (rs := [10]) (by kernel_rfl) (by simp) ?_
          refine AllReadyH.cons (o := { dst := none, op := Op.store 39 (Operand.tmp 48) (Operand.tmp 46), type := 0, pos := "watch.go:38", after := #[{ on := 9, ground := Ground.data }, { on := 7, ground := Ground.data }, { on := 7, ground := Ground.chain }, { on := 0, ground := Ground.phase }, { on := 1, ground := Ground.phase }, { on := 2, ground := Ground.phase }, { on := 3, ground := Ground.phase }, { on := 4, ground := Ground.phase }, { on := 5, ground := Ground.phase }, { on := 6, ground := Ground.phase }, { on := 7, ground := Ground.phase }], guard := none }) rfl (fun K hK => ?_) (AllReadyH.nil)
          go_simp
          have Q8 := Q6.far hpb (i := 8) (.slice (some ⟨g, 0, none⟩) (L.length + 1) cap)
          refine hK.out _ _ ?_ (fun hHeld => ?_)
          · (try dsimp only)
            exact ⟨Q8.reads rfl, Q8.reads rfl, Q8.reads rfl, Q8.reads rfl⟩
          clear hK K
          (try simp only [Act.put, List.setIfInBounds_toArray, List.set_cons_zero, List.set_cons_succ])
          refine wpAnyH_done (by kernel_rfl) ?_ _
          refine NoPanic.normal ?_
          have fG : cellsF Al.cs L ++ x.cs = cellsF Al.cs (L ++ [x]) := by rw [cellsF_append]; simp [cellsF]
          rw [fG] at G6
          have fL : L.length + 1 = (L ++ [x]).length := by simp
          have G6' : w3.ownsRow gl 43 4 (.slice (some ⟨g, 0, none⟩) (L.length + 1) cap) (L ++ [x]).length (cellsF Al.cs (L ++ [x])) := by rw [← fL]; exact G6
          have hgb : g ≠ b ∧ g ≠ w.heap.size := ⟨fun e => o3.elim (fun h => nlb (e ▸ h)) (fun h => by omega), fun e => o3.elim (fun h => nlw (e ▸ h)) (fun h => by omega)⟩
          have newb : (Value.slice (some ⟨g, 0, none⟩) (L.length + 1) cap).ownBlock = (Value.slice z1 L.length z2).ownBlock ∨ ∀ q, (Value.slice (some ⟨g, 0, none⟩) (L.length + 1) cap).ownBlock = some q → w.heap.size ≤ q := o3.elim (fun h => .inl h.symm) (fun h => .inr (fun q hq => by have e0 : g = q := Option.some.inj hq; omega))
          have Y8 := Y6.set8' (.slice (some ⟨g, 0, none⟩) (L.length + 1) cap)
          have R8 := R6.far hwb (i := 8) (.slice (some ⟨g, 0, none⟩) (L.length + 1) cap)
          have L8 := L6.far (Ne.symm hbB) (i := 8) (.slice (some ⟨g, 0, none⟩) (L.length + 1) cap)
          have O8 := O6.set (.inl rfl) (b := b) (i := 8) (.slice (some ⟨g, 0, none⟩) (L.length + 1) cap)
          have G8 := own_only2 G6' (only_of_set w3 b 8 (.slice (some ⟨g, 0, none⟩) (L.length + 1) cap)) (fun q hq e => by injection hq with hq; exact hgb.1 (hq.trans e))
          go_wp2_with fail
          go_meet
          exact ⟨g, cap, Y8, Q8, R8, L8, O8, G8, hgb.2, newb⟩
        · skip
          go_simp
          have hbb : Below V7.heap.size V7 (V7.alloc (.cells #[.int .i64 x.k, .int .i64 x.t, .int .i64 x.a, .int .i64 x.b] 43)) := belN1
          have N7 : Has (V7.alloc (.cells #[.int .i64 x.k, .int .i64 x.t, .int .i64 x.a, .int .i64 x.b] 43)) V7.heap.size #[.int .i64 x.k, .int .i64 x.t, .int .i64 x.a, .int .i64 x.b] := Has.new _ _ _ rfl
          have h7 : pp < V7.heap.size := Q6.1
          replace Y6 := Y6.below hbb
          replace Q6 := Q6.below hbb
          replace R6 := R6.below hbb
          replace L6 := L6.below hbb
          replace O6 := O6.below hbb
          replace G6 := own_bel G6 hbb
          clear hbb
          generalize V7.heap.size = q0 at *
          generalize (V7.alloc (.cells #[.int .i64 x.k, .int .i64 x.t, .int .i64 x.a, .int .i64 x.b] 43)) = V8 at *
          refine hK.out _ _ ?_ (fun hHeld => ?_)
          · (try dsimp only)
            exact ⟨Q6.reads rfl, Q6.reads rfl, Q6.reads rfl, Q6.reads rfl⟩
          clear hK K
          (try simp only [Act.put, List.setIfInBounds_toArray, List.set_cons_zero, List.set_cons_succ])
          refine wpAnyH_ready (rs := [4]) (by kernel_rfl) (by simp) ?_
          refine AllReadyH.cons (o := { dst := some 43, op := Op.load 39 (Operand.tmp 42), type := 39, pos := "watch.go:38", after := #[{ on := 3, ground := Ground.data }], guard := none }) rfl (fun K hK => ?_) (AllReadyH.nil)
          have c8 := Y6.reads (i := 8) rfl
          go_simp
          refine hK.out _ _ ?_ (fun hHeld => ?_)
          · (try dsimp only)
            exact ⟨Q6.reads rfl, Q6.reads rfl, Q6.reads rfl, Q6.reads rfl⟩
          clear hK K
          (try simp only [Act.put, List.setIfInBounds_toArray, List.set_cons_zero, List.set_cons_succ])
          have nc : ∀ j u, x.cs[j]? = some u → V8.cell? ((⟨q0, 0, none⟩ : Addr).add j) = some u := newsOf N7
          have zH : w.heap.size + 1 ≤ V8.heap.size := by have := R6.1; omega
          refine wpAnyH_ready (rs := [7]) (by kernel_rfl) (by simp) ?_
          refine AllReadyH.cons (o := { dst := some 46, op := Op.call { callee := Callee.builtin Builtin.append, args := #[Operand.tmp 43, Operand.tmp 45], argTypes := #[39, 39] }, type := 39, pos := "watch.go:38", after := #[{ on := 4, ground := Ground.data }, { on := 6, ground := Ground.data }], guard := none }) rfl (fun K hK => ?_) (AllReadyH.nil)
          refine step_append_lies _ rfl _ _ 39 rfl gl 43 ti _ 4 32 Try.underlying39 hi hi0 hi1 hi2 rfl (by decide) (.slice z1 L.length z2) L.length (cellsF Al.cs L) rfl G6 ⟨q0, 0, none⟩ 1 1 x.cs rfl rfl nc (al_one x) (by decide) (by unfold maxLen; omega) (by omega) (by omega) _ rfl ?_
          intro g cap w3 o1 o2 o3 o4
          have NO : Only (fun q => (Value.slice z1 L.length z2).ownBlock = some q) V8 w3 := only_grown (Only.refl _ _) o2 (fun k hk => .inl hk)
          replace Y6 := Y6.only NO nlb
          replace Q6 := Q6.only NO nlp
          replace R6 := R6.only NO nlw
          replace L6 := L6.only NO nlB
          replace O6 : Only (fun q => q = b ∨ q = B ∨ (Value.slice z1 L.length z2).ownBlock = some q) w w3 := (O6.mono (fun q e => e.elim .inl (fun e => .inr (.inl e)))).trans (NO.mono (fun q e => .inr (.inr e)))
          replace G6 := o1
          clear o1 o2 NO nc N7
          refine hK.out _ _ ?_ (fun hHeld => ?_)
          · (try dsimp only)
            exact ⟨Q6.reads rfl, Q6.reads rfl, Q6.reads rfl, Q6.reads rfl⟩
          clear hK K
          (try simp only [Act.put, List.setIfInBounds_toArray, List.set_cons_zero, List.set_cons_succ])
          refine wpAnyH_take (i := 8) (oi := { dst := some 47, op := Op.nilCheck (Operand.tmp 39), type := 0, pos := "watch.go:38", after := #[{ on := 0, ground := Ground.data }, { on := 0, ground := Ground.phase }, { on := 1, ground := Ground.phase }, { on := 2, ground := Ground.phase }, { on := 3, ground := Ground.phase }, { on := 4, ground := Ground.phase }, { on := 5, ground := Ground.phase }, { on := 6, ground := Ground.phase }, { on := 7, ground := Ground.phase }], guard := none }) (v := ?_) rfl (by kernel_rfl) (by kernel_rfl) (by kernel_rfl) (fun _ _ _ h => h) (Or.inl ⟨by rfl, ?_⟩) (by assumption) ?_
          rotate_left
          · intro wz hSz; (try dsimp only at hSz); go_simp; all_goals (with_reducible rfl)
          (try simp only [Act.put, List.setIfInBounds_toArray, List.set_cons_zero, List.set_cons_succ])
          refine wpAnyH_take (i := 9) (oi := { dst := some 48, op := Op.fieldAddr 61 (Operand.tmp 47) 4, type := 0, pos := "watch.go:38", after := #[{ on := 8, ground := Ground.data }, { on := 0, ground := Ground.phase }, { on := 1, ground := Ground.phase }, { on := 2, ground := Ground.phase }, { on := 3, ground := Ground.phase }, { on := 4, ground := Ground.phase }, { on := 5, ground := Ground.phase }, { on := 6, ground := Ground.phase }, { on := 7, ground := Ground.phase }], guard := none }) (v := ?_) rfl (by kernel_rfl) (by kernel_rfl) (by kernel_rfl) (fun _ _ _ h => h) (Or.inl ⟨by rfl, ?_⟩) (by assumption) ?_
          rotate_left
          · intro wz hSz; (try dsimp only at hSz); go_simp; all_goals (with_reducible rfl)
          (try simp only [Act.put, List.setIfInBounds_toArray, List.set_cons_zero, List.set_cons_succ])
          have f8 := Y6.2.2 8
          have c8 := Y6.reads (i := 8) rfl
          refine wpAnyH_ready (rs := [10]) (by kernel_rfl) (by simp) ?_
          refine AllReadyH.cons (o := { dst := none, op := Op.store 39 (Operand.tmp 48) (Operand.tmp 46), type := 0, pos := "watch.go:38", after := #[{ on := 9, ground := Ground.data }, { on := 7, ground := Ground.data }, { on := 7, ground := Ground.chain }, { on := 0, ground := Ground.phase }, { on := 1, ground := Ground.phase }, { on := 2, ground := Ground.phase }, { on := 3, ground := Ground.phase }, { on := 4, ground := Ground.phase }, { on := 5, ground := Ground.phase }, { on := 6, ground := Ground.phase }, { on := 7, ground := Ground.phase }], guard := none }) rfl (fun K hK => ?_) (AllReadyH.nil)
          go_simp
          have Q8 := Q6.far hpb (i := 8) (.slice (some ⟨g, 0, none⟩) (L.length + 1) cap)
          refine hK.out _ _ ?_ (fun hHeld => ?_)
          · (try dsimp only)
            exact ⟨Q8.reads rfl, Q8.reads rfl, Q8.reads rfl, Q8.reads rfl⟩
          clear hK K
          (try simp only [Act.put, List.setIfInBounds_toArray, List.set_cons_zero, List.set_cons_succ])
          refine wpAnyH_done (by kernel_rfl) ?_ _
          refine NoPanic.normal ?_
          have fG : cellsF Al.cs L ++ x.cs = cellsF Al.cs (L ++ [x]) := by rw [cellsF_append]; simp [cellsF]
          rw [fG] at G6
          have fL : L.length + 1 = (L ++ [x]).length := by simp
          have G6' : w3.ownsRow gl 43 4 (.slice (some ⟨g, 0, none⟩) (L.length + 1) cap) (L ++ [x]).length (cellsF Al.cs (L ++ [x])) := by rw [← fL]; exact G6
          have hgb : g ≠ b ∧ g ≠ w.heap.size := ⟨fun e => o3.elim (fun h => nlb (e ▸ h)) (fun h => by omega), fun e => o3.elim (fun h => nlw (e ▸ h)) (fun h => by omega)⟩
          have newb : (Value.slice (some ⟨g, 0, none⟩) (L.length + 1) cap).ownBlock = (Value.slice z1 L.length z2).ownBlock ∨ ∀ q, (Value.slice (some ⟨g, 0, none⟩) (L.length + 1) cap).ownBlock = some q → w.heap.size ≤ q := o3.elim (fun h => .inl h.symm) (fun h => .inr (fun q hq => by have e0 : g = q := Option.some.inj hq; omega))
          have Y8 := Y6.set8' (.slice (some ⟨g, 0, none⟩) (L.length + 1) cap)
          have R8 := R6.far hwb (i := 8) (.slice (some ⟨g, 0, none⟩) (L.length + 1) cap)
          have L8 := L6.far (Ne.symm hbB) (i := 8) (.slice (some ⟨g, 0, none⟩) (L.length + 1) cap)
          have O8 := O6.set (.inl rfl) (b := b) (i := 8) (.slice (some ⟨g, 0, none⟩) (L.length + 1) cap)
          have G8 := own_only2 G6' (only_of_set w3 b 8 (.slice (some ⟨g, 0, none⟩) (L.length + 1) cap)) (fun q hq e => by injection hq with hq; exact hgb.1 (hq.trans e))
          go_wp2_with fail
          go_meet
          exact ⟨g, cap, Y8, Q8, R8, L8, O8, G8, hgb.2, newb⟩

      case rest =>
      clear Y6 Q6 R6 L6 O6 G6
      obtain ⟨g, cap, Y8, Q8, R8, L8, O8, G8, hgw, newb⟩ := hcut
      obtain ⟨_, i1, _⟩ := id Q8
      obtain ⟨_, i2, f2⟩ := id R8
      go_wp2
      have ZO : Only (fun q => q = b ∨ q = B ∨ (Value.slice z1 L.length z2).ownBlock = some q) w ((((wc.setCell ⟨w.heap.size, 0, none⟩ (.int .i64 x.k)).setCell ⟨w.heap.size, 1, none⟩ (.int .i64 x.t)).setCell ⟨w.heap.size, 2, none⟩ (.int .i64 x.a)).setCell ⟨w.heap.size, 3, none⟩ (.int .i64 x.b)) := (((O8.set_new (Nat.le_refl _) _).set_new (Nat.le_refl _) _).set_new (Nat.le_refl _) _).set_new (Nat.le_refl _) _
      refine bodyPost_ret (v := .agg #[.int .i64 x.k, .int .i64 x.t, .int .i64 x.a, .int .i64 x.b]) (by simp [results, Try.results15, go_sem, i2]) rfl ⟨.slice (some ⟨g, 0, none⟩) (L.length + 1) cap, rfl, ?_, newb, ZO⟩
      rw [show trN tr x = x from if_neg hx'.out, show lgN L x = L ++ [x] from if_neg hx'.out]
      refine hm.step ZO ?_ ?_ (own_only2 G8 ((((only_of_set _ w.heap.size 0 _).trans (only_of_set _ w.heap.size 1 _)).trans (only_of_set _ w.heap.size 2 _)).trans (only_of_set _ w.heap.size 3 _)) (fun q hq e => by injection hq with hq; exact hgw (hq.trans e)))
      · rw [hn'.out]; exact far4 Y8 (Ne.symm hwb)
      · rw [hn'.out]; exact far4 L8 (Ne.symm hwB)
end Go.Proofs.Ytoaokpmnjppfcaa
