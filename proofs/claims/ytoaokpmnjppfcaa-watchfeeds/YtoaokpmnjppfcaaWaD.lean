import Derived.Test.YtoaokpmnjppfcaaWaC
namespace Go.Proofs.Ytoaokpmnjppfcaa
open Go.RowKit
set_option linter.unusedVariables false
set_option linter.unusedSimpArgs false

set_option maxRecDepth 100000 in
set_option maxHeartbeats 1000000 in
theorem isAway_any (c lo fr : Int) (w : World) : Calls Try.prog 53 #[.agg #[.int .u8 c, .int .i64 lo, .int .i64 fr]] w fun e w' => e = .returned (.bool (awB ⟨c, lo, fr⟩)) ∧ Below w.heap.size w w' := by
  have h48 := fun W => isLetter_any c W
  have eA : awB ⟨c, lo, fr⟩ = (letB c && !decide (c = 114)) := rfl
  rw [eA]
  by_cases h : c = 114
  · subst h
    go_enter Try.func53, Try.ntmps53
    go_wp2_with (go_at_call 48; (with_reducible refine Calls.mono (h48 _) ?_); rintro e w2 ⟨rfl, rfl⟩)
    go_ret
    exact ⟨rfl, belN1⟩
  · have n1 : (c != 114) = true := by simpa using h
    have n2 : decide (c = 114) = false := by simp [h]
    rw [n2]
    generalize letB c = L at *
    cases L with
    | true =>
      go_enter Try.func53, Try.ntmps53
      go_wp2_with (go_at_call 48; (with_reducible refine Calls.mono (h48 _) ?_); rintro e w2 ⟨rfl, rfl⟩)
      go_ret
      exact ⟨by first | rfl | exact ret_bool n1, belN1⟩
    | false =>
      go_enter Try.func53, Try.ntmps53
      go_wp2_with (go_at_call 48; (with_reducible refine Calls.mono (h48 _) ?_); rintro e w2 ⟨rfl, rfl⟩)
      go_ret
      exact ⟨rfl, belN1⟩

theorem bel_two {w w1 : World} {o1 o2 : Obj} (h : Below ((w.alloc o1).alloc o2).heap.size ((w.alloc o1).alloc o2) w1) : Below w.heap.size w w1 := belA.trans (h.mono (by simp; omega))
set_option maxRecDepth 100000 in
set_option maxHeartbeats 2000000 in
theorem early_any (f t : Tn) (n : Int) (w : World) (hw : -9223372036854775808 ≤ t.t - f.was.fr ∧ t.t - f.was.fr ≤ 9223372036854775807) :
    Calls Try.prog 54 #[.agg #[.int .i64 f.t, .int .u8 f.was.ch, .int .i64 f.was.lo, .int .i64 f.was.fr, .int .u8 f.now.ch, .int .i64 f.now.lo, .int .i64 f.now.fr], .agg #[.int .i64 t.t, .int .u8 t.was.ch, .int .i64 t.was.lo, .int .i64 t.was.fr, .int .u8 t.now.ch, .int .i64 t.now.lo, .int .i64 t.now.fr], .int .i64 n] w fun e w' => e = .returned (.int .i64 (erF f t n)) ∧ Below w.heap.size w w' := by
  have h59 := fun W => leavesRed_any t.t t.was.ch t.was.lo t.was.fr t.now.ch t.now.lo t.now.fr W
  have hwr : IntKind.i64.wrap (t.t - f.was.fr) = t.t - f.was.fr := wrap64 _ hw
  have eE : erF f t n = if lvB ⟨t.t, ⟨t.was.ch, t.was.lo, t.was.fr⟩, ⟨t.now.ch, t.now.lo, t.now.fr⟩⟩ = false ∨ n ≤ t.t - f.was.fr then 0 else if f.was.fr = 0 then 2 else 8 := rfl
  rw [eE]
  clear eE hw
  generalize lvB ⟨t.t, ⟨t.was.ch, t.was.lo, t.was.fr⟩, ⟨t.now.ch, t.now.lo, t.now.fr⟩⟩ = L at *
  obtain ⟨ft, ⟨fc, fl, ff⟩, ⟨gc, gl, gf⟩⟩ := f
  obtain ⟨tt, ⟨wc, wl, wf⟩, ⟨nc, nl, nf⟩⟩ := t
  dsimp only at *
  let o1 : Obj := .cells #[.int .i64 ft, .int .u8 fc, .int .i64 fl, .int .i64 ff, .int .u8 gc, .int .i64 gl, .int .i64 gf] 85
  let o2 : Obj := .cells #[.int .i64 tt, .int .u8 wc, .int .i64 wl, .int .i64 wf, .int .u8 nc, .int .i64 nl, .int .i64 nf] 85
  have H1 : Has ((w.alloc (.cells #[.int .i64 ft, .int .u8 fc, .int .i64 fl, .int .i64 ff, .int .u8 gc, .int .i64 gl, .int .i64 gf] 85)).alloc (.cells #[.int .i64 tt, .int .u8 wc, .int .i64 wl, .int .i64 wf, .int .u8 nc, .int .i64 nl, .int .i64 nf] 85)) w.heap.size #[.int .i64 ft, .int .u8 fc, .int .i64 fl, .int .i64 ff, .int .u8 gc, .int .i64 gl, .int .i64 gf] := (Has.new _ _ _ rfl).alloc _
  have H2 : Has ((w.alloc (.cells #[.int .i64 ft, .int .u8 fc, .int .i64 fl, .int .i64 ff, .int .u8 gc, .int .i64 gl, .int .i64 gf] 85)).alloc (.cells #[.int .i64 tt, .int .u8 wc, .int .i64 wl, .int .i64 wf, .int .u8 nc, .int .i64 nl, .int .i64 nf] 85)) (w.heap.size + 1) #[.int .i64 tt, .int .u8 wc, .int .i64 wl, .int .i64 wf, .int .u8 nc, .int .i64 nl, .int .i64 nf] := Has.new _ _ _ (by simp)
  have HB : Below w.heap.size w ((w.alloc (.cells #[.int .i64 ft, .int .u8 fc, .int .i64 fl, .int .i64 ff, .int .u8 gc, .int .i64 gl, .int .i64 gf] 85)).alloc (.cells #[.int .i64 tt, .int .u8 wc, .int .i64 wl, .int .i64 wf, .int .u8 nc, .int .i64 nl, .int .i64 nf] 85)) := belA
  clear o1 o2
  cases L with
  | false =>
    rw [if_pos (.inl rfl)]
    go_enter Try.func54, Try.ntmps54
    go_upto_region 1 with fail
    generalize ((w.alloc (.cells #[.int .i64 ft, .int .u8 fc, .int .i64 fl, .int .i64 ff, .int .u8 gc, .int .i64 gl, .int .i64 gf] 85)).alloc (.cells #[.int .i64 tt, .int .u8 wc, .int .i64 wl, .int .i64 wf, .int .u8 nc, .int .i64 nl, .int .i64 nf] 85)) = W0 at *
    obtain ⟨_, i1, _⟩ := id H1
    obtain ⟨_, i2, _⟩ := id H2
    go_wp2_with (go_at_call 59; (with_reducible refine Calls.mono (h59 _) ?_); rintro e w1 ⟨rfl, hb⟩; have K1 := H1.below hb; have K2 := H2.below hb; have KB := HB.trans (hb.mono HB.size); clear H1 H2 HB i1 i2; obtain ⟨_, j1, _⟩ := id K1; obtain ⟨_, j2, _⟩ := id K2)
    go_ret
    exact ⟨rfl, KB⟩
  | true =>
    by_cases hn : n ≤ tt - ff
    · rw [if_pos (.inr hn)]
      go_enter Try.func54, Try.ntmps54
      go_upto_region 1 with fail
      generalize ((w.alloc (.cells #[.int .i64 ft, .int .u8 fc, .int .i64 fl, .int .i64 ff, .int .u8 gc, .int .i64 gl, .int .i64 gf] 85)).alloc (.cells #[.int .i64 tt, .int .u8 wc, .int .i64 wl, .int .i64 wf, .int .u8 nc, .int .i64 nl, .int .i64 nf] 85)) = W0 at *
      obtain ⟨_, i1, _⟩ := id H1
      obtain ⟨_, i2, _⟩ := id H2
      go_wp2_with (go_at_call 59; (with_reducible refine Calls.mono (h59 _) ?_); rintro e w1 ⟨rfl, hb⟩; have K1 := H1.below hb; have K2 := H2.below hb; have KB := HB.trans (hb.mono HB.size); clear H1 H2 HB i1 i2; obtain ⟨_, j1, _⟩ := id K1; obtain ⟨_, j2, _⟩ := id K2)
      go_ret
      exact ⟨rfl, KB⟩
    · rw [if_neg (by simp [hn])]
      have hn' : tt - ff < n := by omega
      by_cases h0 : ff = 0
      · rw [if_pos h0]
        have g0 : (ff == 0) = true := by simp [h0]
        clear h0
        go_enter Try.func54, Try.ntmps54
        go_upto_region 1 with fail
        generalize ((w.alloc (.cells #[.int .i64 ft, .int .u8 fc, .int .i64 fl, .int .i64 ff, .int .u8 gc, .int .i64 gl, .int .i64 gf] 85)).alloc (.cells #[.int .i64 tt, .int .u8 wc, .int .i64 wl, .int .i64 wf, .int .u8 nc, .int .i64 nl, .int .i64 nf] 85)) = W0 at *
        obtain ⟨_, i1, _⟩ := id H1
        obtain ⟨_, i2, _⟩ := id H2
        go_wp2_with (go_at_call 59; (with_reducible refine Calls.mono (h59 _) ?_); rintro e w1 ⟨rfl, hb⟩; have K1 := H1.below hb; have K2 := H2.below hb; have KB := HB.trans (hb.mono HB.size); clear H1 H2 HB i1 i2; obtain ⟨_, j1, _⟩ := id K1; obtain ⟨_, j2, _⟩ := id K2)
        go_ret
        exact ⟨rfl, KB⟩
      · rw [if_neg h0]
        have g0 : (ff == 0) = false := beq_eq_false_iff_ne.2 h0
        go_enter Try.func54, Try.ntmps54
        go_upto_region 1 with fail
        generalize ((w.alloc (.cells #[.int .i64 ft, .int .u8 fc, .int .i64 fl, .int .i64 ff, .int .u8 gc, .int .i64 gl, .int .i64 gf] 85)).alloc (.cells #[.int .i64 tt, .int .u8 wc, .int .i64 wl, .int .i64 wf, .int .u8 nc, .int .i64 nl, .int .i64 nf] 85)) = W0 at *
        obtain ⟨_, i1, _⟩ := id H1
        obtain ⟨_, i2, _⟩ := id H2
        go_wp2_with (go_at_call 59; (with_reducible refine Calls.mono (h59 _) ?_); rintro e w1 ⟨rfl, hb⟩; have K1 := H1.below hb; have K2 := H2.below hb; have KB := HB.trans (hb.mono HB.size); clear H1 H2 HB i1 i2; obtain ⟨_, j1, _⟩ := id K1; obtain ⟨_, j2, _⟩ := id K2)
        go_ret
        exact ⟨rfl, KB⟩

theorem Has.reads {w : World} {b : Nat} {vs : Array Value} (h : Has w b vs) {i : Nat} {v : Value} (hi : vs[i]? = some v) : w.cell? ⟨b, i, none⟩ = some v := (h.2.1 i).trans hi

/-- The alarm of a group, where something is wrong. -/
theorem put_false (x a : Al) : put x false a = x := rfl
theorem put_true (x a : Al) : put x true a = rsF x a := rfl
set_option maxRecDepth 100000 in
set_option maxHeartbeats 2000000 in
theorem alarm_any (x : Al) (kind tt gn : Int) (b : Bool) (R T G F : Nat) (vT vG : Array Value) (w : World) (hF : Has w F #[.int .i64 x.k, .int .i64 x.t, .int .i64 x.a, .int .i64 x.b]) (hR : Has w R #[.func (.func 34) #[] #[.pointer (some ⟨F, 0, none⟩)]]) (hT : Has w T vT) (hG : Has w G vG) (h0 : vT[0]? = some (.int .i64 tt)) (h1 : vG[0]? = some (.int .i64 gn)) :
    Calls Try.prog 49 #[.int .i64 kind, .bool b, .pointer (some ⟨R, 0, none⟩), .pointer (some ⟨T, 0, none⟩), .pointer (some ⟨G, 0, none⟩)] w fun e w' => e = .returned (.tuple #[]) ∧ Has w' F #[.int .i64 (put x b ⟨kind, tt, gn, -1⟩).k, .int .i64 (put x b ⟨kind, tt, gn, -1⟩).t, .int .i64 (put x b ⟨kind, tt, gn, -1⟩).a, .int .i64 (put x b ⟨kind, tt, gn, -1⟩).b] ∧ Only (fun q => q = F) w w' := by
  have h34 := fun W h => raise_any x ⟨kind, tt, gn, -1⟩ F W h
  have cT := hT.reads h0
  have cG := hG.reads h1
  obtain ⟨_, cR, _⟩ := id hR
  dsimp only at h34
  cases b with
  | false =>
    rw [put_false]
    go_enter Try.func49, Try.ntmps49
    go_wp2
    refine ⟨rfl, .tuple #[], ?_, rfl, hF, Only.refl _ _⟩
    simp [results, Try.results49, go_sem]
  | true =>
    rw [put_true]
    generalize rsF x ⟨kind, tt, gn, -1⟩ = Z at *
    go_enter Try.func49, Try.ntmps49
    go_wp2_with (go_at_call 34; (with_reducible refine Calls.mono (h34 _ hF) ?_); rintro e w1 ⟨rfl, k1, k2⟩)
    refine ⟨rfl, .tuple #[], ?_, rfl, k1, k2⟩
    simp [results, Try.results49, go_sem]

end Go.Proofs.Ytoaokpmnjppfcaa
