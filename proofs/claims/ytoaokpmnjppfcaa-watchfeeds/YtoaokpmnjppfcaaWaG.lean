import Derived.Test.YtoaokpmnjppfcaaWaD
namespace Go.Proofs.Ytoaokpmnjppfcaa
open Go.RowKit
set_option linter.unusedVariables false
set_option linter.unusedSimpArgs false

theorem Has.set3 {w : World} {b o : Nat} {vs : Array Value} (h : Has w b vs) (ho : o + 2 < vs.size) (x0 x1 x2 : Value) : Has (((w.setCell ⟨b, o, none⟩ x0).setCell ⟨b, o + 1, none⟩ x1).setCell ⟨b, o + 2, none⟩ x2) b (((vs.setIfInBounds o x0).setIfInBounds (o + 1) x1).setIfInBounds (o + 2) x2) :=
  ((h.set o (by omega) x0).set (o + 1) (by simp; omega) x1).set (o + 2) (by simp; omega) x2
/-- Three cells behind a lamp's step. -/
def st3 (vs : Array Value) (o : Nat) (l : Lm) : Array Value := ((vs.setIfInBounds o (.int .u8 l.ch)).setIfInBounds (o + 1) (.int .i64 l.lo)).setIfInBounds (o + 2) (.int .i64 l.fr)
theorem set_same {vs : Array Value} {i : Nat} {v : Value} (h : vs[i]? = some v) : vs.setIfInBounds i v = vs := by
  apply Array.ext
  · simp
  · intro j h1 h2
    rw [Array.getElem_setIfInBounds]
    split
    · subst_vars
      rw [Array.getElem?_eq_getElem h2] at h
      exact (Option.some.inj h).symm
    · rfl

theorem far7 {w : World} {B b : Nat} {vs : Array Value} (h : Has w B vs) (hn : B ≠ b) {x0 x1 x2 x3 x4 x5 x6 : Value} : Has (((((((w.setCell ⟨b, 0, none⟩ x0).setCell ⟨b, 1, none⟩ x1).setCell ⟨b, 2, none⟩ x2).setCell ⟨b, 3, none⟩ x3).setCell ⟨b, 4, none⟩ x4).setCell ⟨b, 5, none⟩ x5).setCell ⟨b, 6, none⟩ x6).drew B vs :=
  Has.drew (((((((h.far hn _).far hn _).far hn _).far hn _).far hn _).far hn _).far hn _)
theorem only7 {S : Nat → Prop} {a w : World} {b : Nat} (h : Only S a w) (hn : a.heap.size ≤ b) {x0 x1 x2 x3 x4 x5 x6 : Value} : Only S a (((((((w.setCell ⟨b, 0, none⟩ x0).setCell ⟨b, 1, none⟩ x1).setCell ⟨b, 2, none⟩ x2).setCell ⟨b, 3, none⟩ x3).setCell ⟨b, 4, none⟩ x4).setCell ⟨b, 5, none⟩ x5).setCell ⟨b, 6, none⟩ x6).drew :=
  Only.drew (((((((h.set_new hn _).set_new hn _).set_new hn _).set_new hn _).set_new hn _).set_new hn _).set_new hn _)
set_option maxRecDepth 100000 in
set_option maxHeartbeats 2000000 in
theorem show_any (l : Lm) (B o : Nat) (vs : Array Value) (t c : Int) (w : World) (h : Has w B vs) (h0 : vs[o]? = some (.int .u8 l.ch)) (h1 : vs[o + 1]? = some (.int .i64 l.lo)) (h2 : vs[o + 2]? = some (.int .i64 l.fr)) (hl : 0 ≤ l.lo ∧ l.lo ≤ 4611686018427387904) (ht : 0 ≤ t ∧ t ≤ 4611686018427387904) :
    Calls Try.prog 36 #[.pointer (some ⟨B, o, none⟩), .int .i64 t, .int .u8 c] w fun e w' => e = .returned (.agg #[.int .i64 t, .int .u8 l.ch, .int .i64 l.lo, .int .i64 l.fr, .int .u8 (shF l t c).ch, .int .i64 (shF l t c).lo, .int .i64 (shF l t c).fr]) ∧ Has w' B (st3 vs o (shF l t c)) ∧ Only (fun q => q = B) w w' := by
  have hw1 : IntKind.i64.wrap (l.lo + 1) = l.lo + 1 := wrap64 _ (by omega)
  have hw2 : IntKind.i64.wrap (t + 1) = t + 1 := wrap64 _ (by omega)
  have c0 := h.reads h0
  have c1 := h.reads h1
  have c2 := h.reads h2
  have f0 := h.2.2 o
  have f1 := h.2.2 (o + 1)
  have f2 := h.2.2 (o + 2)
  have hB := h.1
  have hsz2 : o + 2 < vs.size := (Array.getElem?_eq_some_iff.1 h2).1
  have hsz1 : o + 1 < vs.size := by omega
  have hsz : o < vs.size := by omega
  obtain ⟨lc, ll, lf⟩ := l
  dsimp only at *
  by_cases hc : c = lc
  · subst hc
    by_cases hg : c = 103
    · have gg : (c == 103) = true := by simp [hg]
      have eS : shF ⟨c, ll, lf⟩ t c = ⟨c, (ll + 1), (t + 1)⟩ := by unfold shF; rw [if_pos rfl, if_pos hg]
      have eV : st3 vs o ⟨c, (ll + 1), (t + 1)⟩ = ((vs.setIfInBounds (o + 1) (.int .i64 (ll + 1))).setIfInBounds (o + 2) (.int .i64 (t + 1))) := by
        unfold st3
        dsimp only
        rw [set_same h0]
        skip
      rw [eS, eV]
      dsimp only
      clear eS eV hg
      have H1 : Has ((((w.setCell ⟨B, o + 1, none⟩ (.int .i64 (ll + 1))).setCell ⟨B, o + 2, none⟩ (.int .i64 (t + 1))).alloc (.cells #[.int .i64 0, .int .u8 0, .int .i64 0, .int .i64 0, .int .u8 0, .int .i64 0, .int .i64 0] 85)).alloc (.cells #[.int .u8 c, .int .i64 ll, .int .i64 lf] 83)) B ((vs.setIfInBounds (o + 1) (.int .i64 (ll + 1))).setIfInBounds (o + 2) (.int .i64 (t + 1))) := (((h.set (o + 1) (by first | omega | (simp; omega)) (.int .i64 (ll + 1))).set (o + 2) (by first | omega | (simp; omega)) (.int .i64 (t + 1))).alloc _).alloc _
      have H2 : Has ((((w.setCell ⟨B, o + 1, none⟩ (.int .i64 (ll + 1))).setCell ⟨B, o + 2, none⟩ (.int .i64 (t + 1))).alloc (.cells #[.int .i64 0, .int .u8 0, .int .i64 0, .int .i64 0, .int .u8 0, .int .i64 0, .int .i64 0] 85)).alloc (.cells #[.int .u8 c, .int .i64 ll, .int .i64 lf] 83)) w.heap.size #[.int .i64 0, .int .u8 0, .int .i64 0, .int .i64 0, .int .u8 0, .int .i64 0, .int .i64 0] := (Has.new _ _ _ (by simp [World.setCell])).alloc _
      have H3 : Has ((((w.setCell ⟨B, o + 1, none⟩ (.int .i64 (ll + 1))).setCell ⟨B, o + 2, none⟩ (.int .i64 (t + 1))).alloc (.cells #[.int .i64 0, .int .u8 0, .int .i64 0, .int .i64 0, .int .u8 0, .int .i64 0, .int .i64 0] 85)).alloc (.cells #[.int .u8 c, .int .i64 ll, .int .i64 lf] 83)) (w.heap.size + 1) #[.int .u8 c, .int .i64 ll, .int .i64 lf] := Has.new _ _ _ (by simp [World.setCell])
      have HO : Only (fun q => q = B) w ((((w.setCell ⟨B, o + 1, none⟩ (.int .i64 (ll + 1))).setCell ⟨B, o + 2, none⟩ (.int .i64 (t + 1))).alloc (.cells #[.int .i64 0, .int .u8 0, .int .i64 0, .int .i64 0, .int .u8 0, .int .i64 0, .int .i64 0] 85)).alloc (.cells #[.int .u8 c, .int .i64 ll, .int .i64 lf] 83)) := ((((Only.refl _ w).set (S := fun q => q = B) rfl _).set (S := fun q => q = B) rfl _).alloc _).alloc _
      have k0 : ((vs.setIfInBounds (o + 1) (.int .i64 (ll + 1))).setIfInBounds (o + 2) (.int .i64 (t + 1)))[o]? = some (.int .u8 c) := by (rw [Array.getElem?_setIfInBounds_ne (by omega), Array.getElem?_setIfInBounds_ne (by omega)]; exact h0)
      have k1 : ((vs.setIfInBounds (o + 1) (.int .i64 (ll + 1))).setIfInBounds (o + 2) (.int .i64 (t + 1)))[o + 1]? = some (.int .i64 (ll + 1)) := by simp [Array.getElem?_setIfInBounds, hsz, hsz1]
      have k2 : ((vs.setIfInBounds (o + 1) (.int .i64 (ll + 1))).setIfInBounds (o + 2) (.int .i64 (t + 1)))[o + 2]? = some (.int .i64 (t + 1)) := by simp [Array.getElem?_setIfInBounds, hsz, hsz1, hsz2]
      generalize ((vs.setIfInBounds (o + 1) (.int .i64 (ll + 1))).setIfInBounds (o + 2) (.int .i64 (t + 1))) = AA at *
      clear h0 h1 h2
      go_enter Try.func36, Try.ntmps36
      go_upto_region 7 with fail
      generalize ((((w.setCell ⟨B, o + 1, none⟩ (.int .i64 (ll + 1))).setCell ⟨B, o + 2, none⟩ (.int .i64 (t + 1))).alloc (.cells #[.int .i64 0, .int .u8 0, .int .i64 0, .int .i64 0, .int .u8 0, .int .i64 0, .int .i64 0] 85)).alloc (.cells #[.int .u8 c, .int .i64 ll, .int .i64 lf] 83)) = W at *
      clear c0 c1 c2 f0 f1 f2 h
      have c0 := H1.reads k0
      have c1 := H1.reads k1
      have c2 := H1.reads k2
      obtain ⟨_, i3, _⟩ := id H3
      obtain ⟨_, i2, f2⟩ := id H2
      refine wp_region_noPanic ?_
      refine wp_region_held_drew (S := fun w' => (w'.cell? ⟨B, o, none⟩ = some (.int .u8 c) ∧ w'.cell? ⟨B, o + 1, none⟩ = some (.int .i64 (ll + 1)) ∧ w'.cell? ⟨B, o + 2, none⟩ = some (.int .i64 (t + 1))) ∧ w'.cell? ⟨w.heap.size + 1, 0, none⟩ = some (.int .u8 c) ∧ w'.cell? ⟨w.heap.size + 1, 1, none⟩ = some (.int .i64 ll) ∧ w'.cell? ⟨w.heap.size + 1, 2, none⟩ = some (.int .i64 lf)) (by kernel_rfl) ?_ (fun hHeld => ?_)
      · (try dsimp only)
        exact ⟨⟨c0, c1, c2⟩, i3 0, i3 1, i3 2⟩
      refine wpAnyH_take (i := 0) (oi := { dst := some 38, op := Op.move (Operand.tmp 1), type := 3, pos := "lamp.go:37", after := #[], guard := none }) (v := ?_) rfl (by kernel_rfl) (by kernel_rfl) (by kernel_rfl) (fun _ _ _ h => h) (Or.inl ⟨by rfl, ?_⟩) (by assumption) ?_
      rotate_left
      · intro wz hSz; (try dsimp only at hSz); go_simp; all_goals (with_reducible rfl)
      (try simp only [Act.put, List.setIfInBounds_toArray, List.set_cons_zero, List.set_cons_succ])
      refine wpAnyH_take (i := 1) (oi := { dst := some 39, op := Op.load 83 (Operand.tmp 7), type := 83, pos := "lamp.go:37", after := #[], guard := none }) (v := ?_) rfl (by kernel_rfl) (by kernel_rfl) (by kernel_rfl) (fun _ _ _ h => h) (Or.inl ⟨by rfl, ?_⟩) (by assumption) ?_
      rotate_left
      · intro wz hSz; (try dsimp only at hSz); go_simp; all_goals (with_reducible rfl)
      (try simp only [Act.put, List.setIfInBounds_toArray, List.set_cons_zero, List.set_cons_succ])
      refine wpAnyH_take (i := 2) (oi := { dst := some 40, op := Op.move (Operand.tmp 0), type := 99, pos := "lamp.go:37", after := #[], guard := none }) (v := ?_) rfl (by kernel_rfl) (by kernel_rfl) (by kernel_rfl) (fun _ _ _ h => h) (Or.inl ⟨by rfl, ?_⟩) (by assumption) ?_
      rotate_left
      · intro wz hSz; (try dsimp only at hSz); go_simp; all_goals (with_reducible rfl)
      (try simp only [Act.put, List.setIfInBounds_toArray, List.set_cons_zero, List.set_cons_succ])
      refine wpAnyH_take (i := 3) (oi := { dst := some 41, op := Op.nilCheck (Operand.tmp 40), type := 0, pos := "lamp.go:37", after := #[{ on := 2, ground := Ground.data }], guard := none }) (v := ?_) rfl (by kernel_rfl) (by kernel_rfl) (by kernel_rfl) (fun _ _ _ h => h) (Or.inl ⟨by rfl, ?_⟩) (by assumption) ?_
      rotate_left
      · intro wz hSz; (try dsimp only at hSz); go_simp; all_goals (with_reducible rfl)
      (try simp only [Act.put, List.setIfInBounds_toArray, List.set_cons_zero, List.set_cons_succ])
      refine wpAnyH_take (i := 4) (oi := { dst := some 42, op := Op.load 83 (Operand.tmp 41), type := 83, pos := "lamp.go:37", after := #[{ on := 3, ground := Ground.data }], guard := none }) (v := ?_) rfl (by kernel_rfl) (by kernel_rfl) (by kernel_rfl) (fun _ _ _ h => h) (Or.inl ⟨by rfl, ?_⟩) (by assumption) ?_
      rotate_left
      · intro wz hSz; (try dsimp only at hSz); go_simp; all_goals (with_reducible rfl)
      (try simp only [Act.put, List.setIfInBounds_toArray, List.set_cons_zero, List.set_cons_succ])
      refine wpAnyH_take (i := 5) (oi := { dst := some 43, op := Op.build 85 #[(0, Operand.tmp 38), (1, Operand.tmp 39), (2, Operand.tmp 42)], type := 85, pos := "lamp.go:37", after := #[{ on := 0, ground := Ground.data }, { on := 1, ground := Ground.data }, { on := 4, ground := Ground.data }], guard := none }) (v := ?_) rfl (by kernel_rfl) (by kernel_rfl) (by kernel_rfl) (fun _ _ _ h => h) (Or.inl ⟨by rfl, ?_⟩) (by assumption) ?_
      rotate_left
      · intro wz hSz; (try dsimp only at hSz); go_simp; all_goals (with_reducible rfl)
      (try simp only [Act.put, List.setIfInBounds_toArray, List.set_cons_zero, List.set_cons_succ])
      refine wpAnyH_ready (rs := [6]) (by kernel_rfl) (by simp) ?_
      refine AllReadyH.cons (o := { dst := none, op := Op.store 85 (Operand.tmp 6) (Operand.tmp 43), type := 0, pos := "lamp.go:37", after := #[{ on := 5, ground := Ground.data }, { on := 0, ground := Ground.phase }, { on := 1, ground := Ground.phase }, { on := 2, ground := Ground.phase }, { on := 3, ground := Ground.phase }, { on := 4, ground := Ground.phase }, { on := 5, ground := Ground.phase }], guard := none }) rfl (fun K hK => ?_) AllReadyH.nil
      go_simp
      refine hK.out _ _ ?_ (fun hHeld => ?_)
      · (try dsimp only)
        exact ⟨⟨(far7 H1 (by omega)).reads k0, (far7 H1 (by omega)).reads k1, (far7 H1 (by omega)).reads k2⟩, (far7 H3 (by omega)).reads rfl, (far7 H3 (by omega)).reads rfl, (far7 H3 (by omega)).reads rfl⟩
      clear hK K
      (try simp only [Act.put, List.setIfInBounds_toArray, List.set_cons_zero, List.set_cons_succ])
      refine wpAnyH_done (by kernel_rfl) ?_ _
      refine NoPanic.normal ?_
      go_wp2
      exact bodyPost_ret (v := .agg #[.int .i64 t, .int .u8 c, .int .i64 ll, .int .i64 lf, .int .u8 c, .int .i64 (ll + 1), .int .i64 (t + 1)]) (by simp [results, Try.results36, go_sem, i2]) rfl ⟨rfl, far7 H1 (by omega), only7 HO (by omega)⟩

    · have gg : (c == 103) = false := by simp [hg]
      have eS : shF ⟨c, ll, lf⟩ t c = ⟨c, (ll + 1), lf⟩ := by unfold shF; rw [if_pos rfl, if_neg hg]
      have eV : st3 vs o ⟨c, (ll + 1), lf⟩ = (vs.setIfInBounds (o + 1) (.int .i64 (ll + 1))) := by
        unfold st3
        dsimp only
        rw [set_same h0]
        refine set_same ?_; rw [Array.getElem?_setIfInBounds_ne (by omega)]; exact h2
      rw [eS, eV]
      dsimp only
      clear eS eV hg
      have H1 : Has (((w.setCell ⟨B, o + 1, none⟩ (.int .i64 (ll + 1))).alloc (.cells #[.int .i64 0, .int .u8 0, .int .i64 0, .int .i64 0, .int .u8 0, .int .i64 0, .int .i64 0] 85)).alloc (.cells #[.int .u8 c, .int .i64 ll, .int .i64 lf] 83)) B (vs.setIfInBounds (o + 1) (.int .i64 (ll + 1))) := ((h.set (o + 1) (by first | omega | (simp; omega)) (.int .i64 (ll + 1))).alloc _).alloc _
      have H2 : Has (((w.setCell ⟨B, o + 1, none⟩ (.int .i64 (ll + 1))).alloc (.cells #[.int .i64 0, .int .u8 0, .int .i64 0, .int .i64 0, .int .u8 0, .int .i64 0, .int .i64 0] 85)).alloc (.cells #[.int .u8 c, .int .i64 ll, .int .i64 lf] 83)) w.heap.size #[.int .i64 0, .int .u8 0, .int .i64 0, .int .i64 0, .int .u8 0, .int .i64 0, .int .i64 0] := (Has.new _ _ _ (by simp [World.setCell])).alloc _
      have H3 : Has (((w.setCell ⟨B, o + 1, none⟩ (.int .i64 (ll + 1))).alloc (.cells #[.int .i64 0, .int .u8 0, .int .i64 0, .int .i64 0, .int .u8 0, .int .i64 0, .int .i64 0] 85)).alloc (.cells #[.int .u8 c, .int .i64 ll, .int .i64 lf] 83)) (w.heap.size + 1) #[.int .u8 c, .int .i64 ll, .int .i64 lf] := Has.new _ _ _ (by simp [World.setCell])
      have HO : Only (fun q => q = B) w (((w.setCell ⟨B, o + 1, none⟩ (.int .i64 (ll + 1))).alloc (.cells #[.int .i64 0, .int .u8 0, .int .i64 0, .int .i64 0, .int .u8 0, .int .i64 0, .int .i64 0] 85)).alloc (.cells #[.int .u8 c, .int .i64 ll, .int .i64 lf] 83)) := (((Only.refl _ w).set (S := fun q => q = B) rfl _).alloc _).alloc _
      have k0 : (vs.setIfInBounds (o + 1) (.int .i64 (ll + 1)))[o]? = some (.int .u8 c) := by (rw [Array.getElem?_setIfInBounds_ne (by omega)]; exact h0)
      have k1 : (vs.setIfInBounds (o + 1) (.int .i64 (ll + 1)))[o + 1]? = some (.int .i64 (ll + 1)) := by simp [Array.getElem?_setIfInBounds, hsz, hsz1]
      have k2 : (vs.setIfInBounds (o + 1) (.int .i64 (ll + 1)))[o + 2]? = some (.int .i64 lf) := by (rw [Array.getElem?_setIfInBounds_ne (by omega)]; exact h2)
      generalize (vs.setIfInBounds (o + 1) (.int .i64 (ll + 1))) = AA at *
      clear h0 h1 h2
      go_enter Try.func36, Try.ntmps36
      go_upto_region 7 with fail
      generalize (((w.setCell ⟨B, o + 1, none⟩ (.int .i64 (ll + 1))).alloc (.cells #[.int .i64 0, .int .u8 0, .int .i64 0, .int .i64 0, .int .u8 0, .int .i64 0, .int .i64 0] 85)).alloc (.cells #[.int .u8 c, .int .i64 ll, .int .i64 lf] 83)) = W at *
      clear c0 c1 c2 f0 f1 f2 h
      have c0 := H1.reads k0
      have c1 := H1.reads k1
      have c2 := H1.reads k2
      obtain ⟨_, i3, _⟩ := id H3
      obtain ⟨_, i2, f2⟩ := id H2
      refine wp_region_noPanic ?_
      refine wp_region_held_drew (S := fun w' => (w'.cell? ⟨B, o, none⟩ = some (.int .u8 c) ∧ w'.cell? ⟨B, o + 1, none⟩ = some (.int .i64 (ll + 1)) ∧ w'.cell? ⟨B, o + 2, none⟩ = some (.int .i64 lf)) ∧ w'.cell? ⟨w.heap.size + 1, 0, none⟩ = some (.int .u8 c) ∧ w'.cell? ⟨w.heap.size + 1, 1, none⟩ = some (.int .i64 ll) ∧ w'.cell? ⟨w.heap.size + 1, 2, none⟩ = some (.int .i64 lf)) (by kernel_rfl) ?_ (fun hHeld => ?_)
      · (try dsimp only)
        exact ⟨⟨c0, c1, c2⟩, i3 0, i3 1, i3 2⟩
      refine wpAnyH_take (i := 0) (oi := { dst := some 38, op := Op.move (Operand.tmp 1), type := 3, pos := "lamp.go:37", after := #[], guard := none }) (v := ?_) rfl (by kernel_rfl) (by kernel_rfl) (by kernel_rfl) (fun _ _ _ h => h) (Or.inl ⟨by rfl, ?_⟩) (by assumption) ?_
      rotate_left
      · intro wz hSz; (try dsimp only at hSz); go_simp; all_goals (with_reducible rfl)
      (try simp only [Act.put, List.setIfInBounds_toArray, List.set_cons_zero, List.set_cons_succ])
      refine wpAnyH_take (i := 1) (oi := { dst := some 39, op := Op.load 83 (Operand.tmp 7), type := 83, pos := "lamp.go:37", after := #[], guard := none }) (v := ?_) rfl (by kernel_rfl) (by kernel_rfl) (by kernel_rfl) (fun _ _ _ h => h) (Or.inl ⟨by rfl, ?_⟩) (by assumption) ?_
      rotate_left
      · intro wz hSz; (try dsimp only at hSz); go_simp; all_goals (with_reducible rfl)
      (try simp only [Act.put, List.setIfInBounds_toArray, List.set_cons_zero, List.set_cons_succ])
      refine wpAnyH_take (i := 2) (oi := { dst := some 40, op := Op.move (Operand.tmp 0), type := 99, pos := "lamp.go:37", after := #[], guard := none }) (v := ?_) rfl (by kernel_rfl) (by kernel_rfl) (by kernel_rfl) (fun _ _ _ h => h) (Or.inl ⟨by rfl, ?_⟩) (by assumption) ?_
      rotate_left
      · intro wz hSz; (try dsimp only at hSz); go_simp; all_goals (with_reducible rfl)
      (try simp only [Act.put, List.setIfInBounds_toArray, List.set_cons_zero, List.set_cons_succ])
      refine wpAnyH_take (i := 3) (oi := { dst := some 41, op := Op.nilCheck (Operand.tmp 40), type := 0, pos := "lamp.go:37", after := #[{ on := 2, ground := Ground.data }], guard := none }) (v := ?_) rfl (by kernel_rfl) (by kernel_rfl) (by kernel_rfl) (fun _ _ _ h => h) (Or.inl ⟨by rfl, ?_⟩) (by assumption) ?_
      rotate_left
      · intro wz hSz; (try dsimp only at hSz); go_simp; all_goals (with_reducible rfl)
      (try simp only [Act.put, List.setIfInBounds_toArray, List.set_cons_zero, List.set_cons_succ])
      refine wpAnyH_take (i := 4) (oi := { dst := some 42, op := Op.load 83 (Operand.tmp 41), type := 83, pos := "lamp.go:37", after := #[{ on := 3, ground := Ground.data }], guard := none }) (v := ?_) rfl (by kernel_rfl) (by kernel_rfl) (by kernel_rfl) (fun _ _ _ h => h) (Or.inl ⟨by rfl, ?_⟩) (by assumption) ?_
      rotate_left
      · intro wz hSz; (try dsimp only at hSz); go_simp; all_goals (with_reducible rfl)
      (try simp only [Act.put, List.setIfInBounds_toArray, List.set_cons_zero, List.set_cons_succ])
      refine wpAnyH_take (i := 5) (oi := { dst := some 43, op := Op.build 85 #[(0, Operand.tmp 38), (1, Operand.tmp 39), (2, Operand.tmp 42)], type := 85, pos := "lamp.go:37", after := #[{ on := 0, ground := Ground.data }, { on := 1, ground := Ground.data }, { on := 4, ground := Ground.data }], guard := none }) (v := ?_) rfl (by kernel_rfl) (by kernel_rfl) (by kernel_rfl) (fun _ _ _ h => h) (Or.inl ⟨by rfl, ?_⟩) (by assumption) ?_
      rotate_left
      · intro wz hSz; (try dsimp only at hSz); go_simp; all_goals (with_reducible rfl)
      (try simp only [Act.put, List.setIfInBounds_toArray, List.set_cons_zero, List.set_cons_succ])
      refine wpAnyH_ready (rs := [6]) (by kernel_rfl) (by simp) ?_
      refine AllReadyH.cons (o := { dst := none, op := Op.store 85 (Operand.tmp 6) (Operand.tmp 43), type := 0, pos := "lamp.go:37", after := #[{ on := 5, ground := Ground.data }, { on := 0, ground := Ground.phase }, { on := 1, ground := Ground.phase }, { on := 2, ground := Ground.phase }, { on := 3, ground := Ground.phase }, { on := 4, ground := Ground.phase }, { on := 5, ground := Ground.phase }], guard := none }) rfl (fun K hK => ?_) AllReadyH.nil
      go_simp
      refine hK.out _ _ ?_ (fun hHeld => ?_)
      · (try dsimp only)
        exact ⟨⟨(far7 H1 (by omega)).reads k0, (far7 H1 (by omega)).reads k1, (far7 H1 (by omega)).reads k2⟩, (far7 H3 (by omega)).reads rfl, (far7 H3 (by omega)).reads rfl, (far7 H3 (by omega)).reads rfl⟩
      clear hK K
      (try simp only [Act.put, List.setIfInBounds_toArray, List.set_cons_zero, List.set_cons_succ])
      refine wpAnyH_done (by kernel_rfl) ?_ _
      refine NoPanic.normal ?_
      go_wp2
      exact bodyPost_ret (v := .agg #[.int .i64 t, .int .u8 c, .int .i64 ll, .int .i64 lf, .int .u8 c, .int .i64 (ll + 1), .int .i64 lf]) (by simp [results, Try.results36, go_sem, i2]) rfl ⟨rfl, far7 H1 (by omega), only7 HO (by omega)⟩

  · have gc : (c == lc) = false := by simp [hc]
    by_cases hg : c = 103
    · have gg : (c == 103) = true := by simp [hg]
      have eS : shF ⟨lc, ll, lf⟩ t c = ⟨c, 1, (t + 1)⟩ := by unfold shF; rw [if_neg hc, if_pos hg]
      have eV : st3 vs o ⟨c, 1, (t + 1)⟩ = (((vs.setIfInBounds o (.int .u8 c)).setIfInBounds (o + 1) (.int .i64 1)).setIfInBounds (o + 2) (.int .i64 (t + 1))) := by
        unfold st3
        dsimp only
        skip
        skip
      rw [eS, eV]
      dsimp only
      clear eS eV hc hg
      have H1 : Has (((((w.setCell ⟨B, o, none⟩ (.int .u8 c)).setCell ⟨B, o + 1, none⟩ (.int .i64 1)).setCell ⟨B, o + 2, none⟩ (.int .i64 (t + 1))).alloc (.cells #[.int .i64 0, .int .u8 0, .int .i64 0, .int .i64 0, .int .u8 0, .int .i64 0, .int .i64 0] 85)).alloc (.cells #[.int .u8 lc, .int .i64 ll, .int .i64 lf] 83)) B (((vs.setIfInBounds o (.int .u8 c)).setIfInBounds (o + 1) (.int .i64 1)).setIfInBounds (o + 2) (.int .i64 (t + 1))) := ((((h.set o (by omega) (.int .u8 c)).set (o + 1) (by first | omega | (simp; omega)) (.int .i64 1)).set (o + 2) (by first | omega | (simp; omega)) (.int .i64 (t + 1))).alloc _).alloc _
      have H2 : Has (((((w.setCell ⟨B, o, none⟩ (.int .u8 c)).setCell ⟨B, o + 1, none⟩ (.int .i64 1)).setCell ⟨B, o + 2, none⟩ (.int .i64 (t + 1))).alloc (.cells #[.int .i64 0, .int .u8 0, .int .i64 0, .int .i64 0, .int .u8 0, .int .i64 0, .int .i64 0] 85)).alloc (.cells #[.int .u8 lc, .int .i64 ll, .int .i64 lf] 83)) w.heap.size #[.int .i64 0, .int .u8 0, .int .i64 0, .int .i64 0, .int .u8 0, .int .i64 0, .int .i64 0] := (Has.new _ _ _ (by simp [World.setCell])).alloc _
      have H3 : Has (((((w.setCell ⟨B, o, none⟩ (.int .u8 c)).setCell ⟨B, o + 1, none⟩ (.int .i64 1)).setCell ⟨B, o + 2, none⟩ (.int .i64 (t + 1))).alloc (.cells #[.int .i64 0, .int .u8 0, .int .i64 0, .int .i64 0, .int .u8 0, .int .i64 0, .int .i64 0] 85)).alloc (.cells #[.int .u8 lc, .int .i64 ll, .int .i64 lf] 83)) (w.heap.size + 1) #[.int .u8 lc, .int .i64 ll, .int .i64 lf] := Has.new _ _ _ (by simp [World.setCell])
      have HO : Only (fun q => q = B) w (((((w.setCell ⟨B, o, none⟩ (.int .u8 c)).setCell ⟨B, o + 1, none⟩ (.int .i64 1)).setCell ⟨B, o + 2, none⟩ (.int .i64 (t + 1))).alloc (.cells #[.int .i64 0, .int .u8 0, .int .i64 0, .int .i64 0, .int .u8 0, .int .i64 0, .int .i64 0] 85)).alloc (.cells #[.int .u8 lc, .int .i64 ll, .int .i64 lf] 83)) := (((((Only.refl _ w).set (S := fun q => q = B) rfl _).set (S := fun q => q = B) rfl _).set (S := fun q => q = B) rfl _).alloc _).alloc _
      have k0 : (((vs.setIfInBounds o (.int .u8 c)).setIfInBounds (o + 1) (.int .i64 1)).setIfInBounds (o + 2) (.int .i64 (t + 1)))[o]? = some (.int .u8 c) := by simp [Array.getElem?_setIfInBounds, hsz]
      have k1 : (((vs.setIfInBounds o (.int .u8 c)).setIfInBounds (o + 1) (.int .i64 1)).setIfInBounds (o + 2) (.int .i64 (t + 1)))[o + 1]? = some (.int .i64 1) := by simp [Array.getElem?_setIfInBounds, hsz, hsz1]
      have k2 : (((vs.setIfInBounds o (.int .u8 c)).setIfInBounds (o + 1) (.int .i64 1)).setIfInBounds (o + 2) (.int .i64 (t + 1)))[o + 2]? = some (.int .i64 (t + 1)) := by simp [Array.getElem?_setIfInBounds, hsz, hsz1, hsz2]
      generalize (((vs.setIfInBounds o (.int .u8 c)).setIfInBounds (o + 1) (.int .i64 1)).setIfInBounds (o + 2) (.int .i64 (t + 1))) = AA at *
      clear h0 h1 h2
      go_enter Try.func36, Try.ntmps36
      go_upto_region 7 with fail
      generalize (((((w.setCell ⟨B, o, none⟩ (.int .u8 c)).setCell ⟨B, o + 1, none⟩ (.int .i64 1)).setCell ⟨B, o + 2, none⟩ (.int .i64 (t + 1))).alloc (.cells #[.int .i64 0, .int .u8 0, .int .i64 0, .int .i64 0, .int .u8 0, .int .i64 0, .int .i64 0] 85)).alloc (.cells #[.int .u8 lc, .int .i64 ll, .int .i64 lf] 83)) = W at *
      clear c0 c1 c2 f0 f1 f2 h
      have c0 := H1.reads k0
      have c1 := H1.reads k1
      have c2 := H1.reads k2
      obtain ⟨_, i3, _⟩ := id H3
      obtain ⟨_, i2, f2⟩ := id H2
      refine wp_region_noPanic ?_
      refine wp_region_held_drew (S := fun w' => (w'.cell? ⟨B, o, none⟩ = some (.int .u8 c) ∧ w'.cell? ⟨B, o + 1, none⟩ = some (.int .i64 1) ∧ w'.cell? ⟨B, o + 2, none⟩ = some (.int .i64 (t + 1))) ∧ w'.cell? ⟨w.heap.size + 1, 0, none⟩ = some (.int .u8 lc) ∧ w'.cell? ⟨w.heap.size + 1, 1, none⟩ = some (.int .i64 ll) ∧ w'.cell? ⟨w.heap.size + 1, 2, none⟩ = some (.int .i64 lf)) (by kernel_rfl) ?_ (fun hHeld => ?_)
      · (try dsimp only)
        exact ⟨⟨c0, c1, c2⟩, i3 0, i3 1, i3 2⟩
      refine wpAnyH_take (i := 0) (oi := { dst := some 38, op := Op.move (Operand.tmp 1), type := 3, pos := "lamp.go:37", after := #[], guard := none }) (v := ?_) rfl (by kernel_rfl) (by kernel_rfl) (by kernel_rfl) (fun _ _ _ h => h) (Or.inl ⟨by rfl, ?_⟩) (by assumption) ?_
      rotate_left
      · intro wz hSz; (try dsimp only at hSz); go_simp; all_goals (with_reducible rfl)
      (try simp only [Act.put, List.setIfInBounds_toArray, List.set_cons_zero, List.set_cons_succ])
      refine wpAnyH_take (i := 1) (oi := { dst := some 39, op := Op.load 83 (Operand.tmp 7), type := 83, pos := "lamp.go:37", after := #[], guard := none }) (v := ?_) rfl (by kernel_rfl) (by kernel_rfl) (by kernel_rfl) (fun _ _ _ h => h) (Or.inl ⟨by rfl, ?_⟩) (by assumption) ?_
      rotate_left
      · intro wz hSz; (try dsimp only at hSz); go_simp; all_goals (with_reducible rfl)
      (try simp only [Act.put, List.setIfInBounds_toArray, List.set_cons_zero, List.set_cons_succ])
      refine wpAnyH_take (i := 2) (oi := { dst := some 40, op := Op.move (Operand.tmp 0), type := 99, pos := "lamp.go:37", after := #[], guard := none }) (v := ?_) rfl (by kernel_rfl) (by kernel_rfl) (by kernel_rfl) (fun _ _ _ h => h) (Or.inl ⟨by rfl, ?_⟩) (by assumption) ?_
      rotate_left
      · intro wz hSz; (try dsimp only at hSz); go_simp; all_goals (with_reducible rfl)
      (try simp only [Act.put, List.setIfInBounds_toArray, List.set_cons_zero, List.set_cons_succ])
      refine wpAnyH_take (i := 3) (oi := { dst := some 41, op := Op.nilCheck (Operand.tmp 40), type := 0, pos := "lamp.go:37", after := #[{ on := 2, ground := Ground.data }], guard := none }) (v := ?_) rfl (by kernel_rfl) (by kernel_rfl) (by kernel_rfl) (fun _ _ _ h => h) (Or.inl ⟨by rfl, ?_⟩) (by assumption) ?_
      rotate_left
      · intro wz hSz; (try dsimp only at hSz); go_simp; all_goals (with_reducible rfl)
      (try simp only [Act.put, List.setIfInBounds_toArray, List.set_cons_zero, List.set_cons_succ])
      refine wpAnyH_take (i := 4) (oi := { dst := some 42, op := Op.load 83 (Operand.tmp 41), type := 83, pos := "lamp.go:37", after := #[{ on := 3, ground := Ground.data }], guard := none }) (v := ?_) rfl (by kernel_rfl) (by kernel_rfl) (by kernel_rfl) (fun _ _ _ h => h) (Or.inl ⟨by rfl, ?_⟩) (by assumption) ?_
      rotate_left
      · intro wz hSz; (try dsimp only at hSz); go_simp; all_goals (with_reducible rfl)
      (try simp only [Act.put, List.setIfInBounds_toArray, List.set_cons_zero, List.set_cons_succ])
      refine wpAnyH_take (i := 5) (oi := { dst := some 43, op := Op.build 85 #[(0, Operand.tmp 38), (1, Operand.tmp 39), (2, Operand.tmp 42)], type := 85, pos := "lamp.go:37", after := #[{ on := 0, ground := Ground.data }, { on := 1, ground := Ground.data }, { on := 4, ground := Ground.data }], guard := none }) (v := ?_) rfl (by kernel_rfl) (by kernel_rfl) (by kernel_rfl) (fun _ _ _ h => h) (Or.inl ⟨by rfl, ?_⟩) (by assumption) ?_
      rotate_left
      · intro wz hSz; (try dsimp only at hSz); go_simp; all_goals (with_reducible rfl)
      (try simp only [Act.put, List.setIfInBounds_toArray, List.set_cons_zero, List.set_cons_succ])
      refine wpAnyH_ready (rs := [6]) (by kernel_rfl) (by simp) ?_
      refine AllReadyH.cons (o := { dst := none, op := Op.store 85 (Operand.tmp 6) (Operand.tmp 43), type := 0, pos := "lamp.go:37", after := #[{ on := 5, ground := Ground.data }, { on := 0, ground := Ground.phase }, { on := 1, ground := Ground.phase }, { on := 2, ground := Ground.phase }, { on := 3, ground := Ground.phase }, { on := 4, ground := Ground.phase }, { on := 5, ground := Ground.phase }], guard := none }) rfl (fun K hK => ?_) AllReadyH.nil
      go_simp
      refine hK.out _ _ ?_ (fun hHeld => ?_)
      · (try dsimp only)
        exact ⟨⟨(far7 H1 (by omega)).reads k0, (far7 H1 (by omega)).reads k1, (far7 H1 (by omega)).reads k2⟩, (far7 H3 (by omega)).reads rfl, (far7 H3 (by omega)).reads rfl, (far7 H3 (by omega)).reads rfl⟩
      clear hK K
      (try simp only [Act.put, List.setIfInBounds_toArray, List.set_cons_zero, List.set_cons_succ])
      refine wpAnyH_done (by kernel_rfl) ?_ _
      refine NoPanic.normal ?_
      go_wp2
      exact bodyPost_ret (v := .agg #[.int .i64 t, .int .u8 lc, .int .i64 ll, .int .i64 lf, .int .u8 c, .int .i64 1, .int .i64 (t + 1)]) (by simp [results, Try.results36, go_sem, i2]) rfl ⟨rfl, far7 H1 (by omega), only7 HO (by omega)⟩

    · have gg : (c == 103) = false := by simp [hg]
      have eS : shF ⟨lc, ll, lf⟩ t c = ⟨c, 1, lf⟩ := by unfold shF; rw [if_neg hc, if_neg hg]
      have eV : st3 vs o ⟨c, 1, lf⟩ = ((vs.setIfInBounds o (.int .u8 c)).setIfInBounds (o + 1) (.int .i64 1)) := by
        unfold st3
        dsimp only
        skip
        refine set_same ?_; rw [Array.getElem?_setIfInBounds_ne (by omega), Array.getElem?_setIfInBounds_ne (by omega)]; exact h2
      rw [eS, eV]
      dsimp only
      clear eS eV hc hg
      have H1 : Has ((((w.setCell ⟨B, o, none⟩ (.int .u8 c)).setCell ⟨B, o + 1, none⟩ (.int .i64 1)).alloc (.cells #[.int .i64 0, .int .u8 0, .int .i64 0, .int .i64 0, .int .u8 0, .int .i64 0, .int .i64 0] 85)).alloc (.cells #[.int .u8 lc, .int .i64 ll, .int .i64 lf] 83)) B ((vs.setIfInBounds o (.int .u8 c)).setIfInBounds (o + 1) (.int .i64 1)) := (((h.set o (by omega) (.int .u8 c)).set (o + 1) (by first | omega | (simp; omega)) (.int .i64 1)).alloc _).alloc _
      have H2 : Has ((((w.setCell ⟨B, o, none⟩ (.int .u8 c)).setCell ⟨B, o + 1, none⟩ (.int .i64 1)).alloc (.cells #[.int .i64 0, .int .u8 0, .int .i64 0, .int .i64 0, .int .u8 0, .int .i64 0, .int .i64 0] 85)).alloc (.cells #[.int .u8 lc, .int .i64 ll, .int .i64 lf] 83)) w.heap.size #[.int .i64 0, .int .u8 0, .int .i64 0, .int .i64 0, .int .u8 0, .int .i64 0, .int .i64 0] := (Has.new _ _ _ (by simp [World.setCell])).alloc _
      have H3 : Has ((((w.setCell ⟨B, o, none⟩ (.int .u8 c)).setCell ⟨B, o + 1, none⟩ (.int .i64 1)).alloc (.cells #[.int .i64 0, .int .u8 0, .int .i64 0, .int .i64 0, .int .u8 0, .int .i64 0, .int .i64 0] 85)).alloc (.cells #[.int .u8 lc, .int .i64 ll, .int .i64 lf] 83)) (w.heap.size + 1) #[.int .u8 lc, .int .i64 ll, .int .i64 lf] := Has.new _ _ _ (by simp [World.setCell])
      have HO : Only (fun q => q = B) w ((((w.setCell ⟨B, o, none⟩ (.int .u8 c)).setCell ⟨B, o + 1, none⟩ (.int .i64 1)).alloc (.cells #[.int .i64 0, .int .u8 0, .int .i64 0, .int .i64 0, .int .u8 0, .int .i64 0, .int .i64 0] 85)).alloc (.cells #[.int .u8 lc, .int .i64 ll, .int .i64 lf] 83)) := ((((Only.refl _ w).set (S := fun q => q = B) rfl _).set (S := fun q => q = B) rfl _).alloc _).alloc _
      have k0 : ((vs.setIfInBounds o (.int .u8 c)).setIfInBounds (o + 1) (.int .i64 1))[o]? = some (.int .u8 c) := by simp [Array.getElem?_setIfInBounds, hsz]
      have k1 : ((vs.setIfInBounds o (.int .u8 c)).setIfInBounds (o + 1) (.int .i64 1))[o + 1]? = some (.int .i64 1) := by simp [Array.getElem?_setIfInBounds, hsz, hsz1]
      have k2 : ((vs.setIfInBounds o (.int .u8 c)).setIfInBounds (o + 1) (.int .i64 1))[o + 2]? = some (.int .i64 lf) := by (rw [Array.getElem?_setIfInBounds_ne (by omega), Array.getElem?_setIfInBounds_ne (by omega)]; exact h2)
      generalize ((vs.setIfInBounds o (.int .u8 c)).setIfInBounds (o + 1) (.int .i64 1)) = AA at *
      clear h0 h1 h2
      go_enter Try.func36, Try.ntmps36
      go_upto_region 7 with fail
      generalize ((((w.setCell ⟨B, o, none⟩ (.int .u8 c)).setCell ⟨B, o + 1, none⟩ (.int .i64 1)).alloc (.cells #[.int .i64 0, .int .u8 0, .int .i64 0, .int .i64 0, .int .u8 0, .int .i64 0, .int .i64 0] 85)).alloc (.cells #[.int .u8 lc, .int .i64 ll, .int .i64 lf] 83)) = W at *
      clear c0 c1 c2 f0 f1 f2 h
      have c0 := H1.reads k0
      have c1 := H1.reads k1
      have c2 := H1.reads k2
      obtain ⟨_, i3, _⟩ := id H3
      obtain ⟨_, i2, f2⟩ := id H2
      refine wp_region_noPanic ?_
      refine wp_region_held_drew (S := fun w' => (w'.cell? ⟨B, o, none⟩ = some (.int .u8 c) ∧ w'.cell? ⟨B, o + 1, none⟩ = some (.int .i64 1) ∧ w'.cell? ⟨B, o + 2, none⟩ = some (.int .i64 lf)) ∧ w'.cell? ⟨w.heap.size + 1, 0, none⟩ = some (.int .u8 lc) ∧ w'.cell? ⟨w.heap.size + 1, 1, none⟩ = some (.int .i64 ll) ∧ w'.cell? ⟨w.heap.size + 1, 2, none⟩ = some (.int .i64 lf)) (by kernel_rfl) ?_ (fun hHeld => ?_)
      · (try dsimp only)
        exact ⟨⟨c0, c1, c2⟩, i3 0, i3 1, i3 2⟩
      refine wpAnyH_take (i := 0) (oi := { dst := some 38, op := Op.move (Operand.tmp 1), type := 3, pos := "lamp.go:37", after := #[], guard := none }) (v := ?_) rfl (by kernel_rfl) (by kernel_rfl) (by kernel_rfl) (fun _ _ _ h => h) (Or.inl ⟨by rfl, ?_⟩) (by assumption) ?_
      rotate_left
      · intro wz hSz; (try dsimp only at hSz); go_simp; all_goals (with_reducible rfl)
      (try simp only [Act.put, List.setIfInBounds_toArray, List.set_cons_zero, List.set_cons_succ])
      refine wpAnyH_take (i := 1) (oi := { dst := some 39, op := Op.load 83 (Operand.tmp 7), type := 83, pos := "lamp.go:37", after := #[], guard := none }) (v := ?_) rfl (by kernel_rfl) (by kernel_rfl) (by kernel_rfl) (fun _ _ _ h => h) (Or.inl ⟨by rfl, ?_⟩) (by assumption) ?_
      rotate_left
      · intro wz hSz; (try dsimp only at hSz); go_simp; all_goals (with_reducible rfl)
      (try simp only [Act.put, List.setIfInBounds_toArray, List.set_cons_zero, List.set_cons_succ])
      refine wpAnyH_take (i := 2) (oi := { dst := some 40, op := Op.move (Operand.tmp 0), type := 99, pos := "lamp.go:37", after := #[], guard := none }) (v := ?_) rfl (by kernel_rfl) (by kernel_rfl) (by kernel_rfl) (fun _ _ _ h => h) (Or.inl ⟨by rfl, ?_⟩) (by assumption) ?_
      rotate_left
      · intro wz hSz; (try dsimp only at hSz); go_simp; all_goals (with_reducible rfl)
      (try simp only [Act.put, List.setIfInBounds_toArray, List.set_cons_zero, List.set_cons_succ])
      refine wpAnyH_take (i := 3) (oi := { dst := some 41, op := Op.nilCheck (Operand.tmp 40), type := 0, pos := "lamp.go:37", after := #[{ on := 2, ground := Ground.data }], guard := none }) (v := ?_) rfl (by kernel_rfl) (by kernel_rfl) (by kernel_rfl) (fun _ _ _ h => h) (Or.inl ⟨by rfl, ?_⟩) (by assumption) ?_
      rotate_left
      · intro wz hSz; (try dsimp only at hSz); go_simp; all_goals (with_reducible rfl)
      (try simp only [Act.put, List.setIfInBounds_toArray, List.set_cons_zero, List.set_cons_succ])
      refine wpAnyH_take (i := 4) (oi := { dst := some 42, op := Op.load 83 (Operand.tmp 41), type := 83, pos := "lamp.go:37", after := #[{ on := 3, ground := Ground.data }], guard := none }) (v := ?_) rfl (by kernel_rfl) (by kernel_rfl) (by kernel_rfl) (fun _ _ _ h => h) (Or.inl ⟨by rfl, ?_⟩) (by assumption) ?_
      rotate_left
      · intro wz hSz; (try dsimp only at hSz); go_simp; all_goals (with_reducible rfl)
      (try simp only [Act.put, List.setIfInBounds_toArray, List.set_cons_zero, List.set_cons_succ])
      refine wpAnyH_take (i := 5) (oi := { dst := some 43, op := Op.build 85 #[(0, Operand.tmp 38), (1, Operand.tmp 39), (2, Operand.tmp 42)], type := 85, pos := "lamp.go:37", after := #[{ on := 0, ground := Ground.data }, { on := 1, ground := Ground.data }, { on := 4, ground := Ground.data }], guard := none }) (v := ?_) rfl (by kernel_rfl) (by kernel_rfl) (by kernel_rfl) (fun _ _ _ h => h) (Or.inl ⟨by rfl, ?_⟩) (by assumption) ?_
      rotate_left
      · intro wz hSz; (try dsimp only at hSz); go_simp; all_goals (with_reducible rfl)
      (try simp only [Act.put, List.setIfInBounds_toArray, List.set_cons_zero, List.set_cons_succ])
      refine wpAnyH_ready (rs := [6]) (by kernel_rfl) (by simp) ?_
      refine AllReadyH.cons (o := { dst := none, op := Op.store 85 (Operand.tmp 6) (Operand.tmp 43), type := 0, pos := "lamp.go:37", after := #[{ on := 5, ground := Ground.data }, { on := 0, ground := Ground.phase }, { on := 1, ground := Ground.phase }, { on := 2, ground := Ground.phase }, { on := 3, ground := Ground.phase }, { on := 4, ground := Ground.phase }, { on := 5, ground := Ground.phase }], guard := none }) rfl (fun K hK => ?_) AllReadyH.nil
      go_simp
      refine hK.out _ _ ?_ (fun hHeld => ?_)
      · (try dsimp only)
        exact ⟨⟨(far7 H1 (by omega)).reads k0, (far7 H1 (by omega)).reads k1, (far7 H1 (by omega)).reads k2⟩, (far7 H3 (by omega)).reads rfl, (far7 H3 (by omega)).reads rfl, (far7 H3 (by omega)).reads rfl⟩
      clear hK K
      (try simp only [Act.put, List.setIfInBounds_toArray, List.set_cons_zero, List.set_cons_succ])
      refine wpAnyH_done (by kernel_rfl) ?_ _
      refine NoPanic.normal ?_
      go_wp2
      exact bodyPost_ret (v := .agg #[.int .i64 t, .int .u8 lc, .int .i64 ll, .int .i64 lf, .int .u8 c, .int .i64 1, .int .i64 lf]) (by simp [results, Try.results36, go_sem, i2]) rfl ⟨rfl, far7 H1 (by omega), only7 HO (by omega)⟩

end Go.Proofs.Ytoaokpmnjppfcaa
