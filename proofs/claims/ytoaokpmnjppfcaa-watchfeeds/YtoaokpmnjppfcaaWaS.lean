import Derived.Test.YtoaokpmnjppfcaaWaR
namespace Go.Proofs.Ytoaokpmnjppfcaa
open Go.RowKit
set_option linter.unusedVariables false
set_option linter.unusedSimpArgs false

def tx (s : ByteArray) : List Value := [.string s]
theorem tx_len (s : ByteArray) : (tx s).length = 1 := rfl
/-- A monitor in a state. -/
def MoS (w : World) (lo lb gl b B : Nat) (vg vc vl : Value) (R : List Gr) (C : List Cf) (st : Sta) : Prop := Mo w lo lb gl b B vg vc vl R C st.f st.tk st.tr st.lg
/-- One text fed, whatever the state. -/
theorem feed_any {w : World} {lo lb gl b B : Nat} {vg vc vl : Value} {G : List Gp} {C : List Cf} {st : Sta} {k : Nat} (h : MoS w lo lb gl b B vg vc vl (grL G) C st) (s : ByteArray) (hg : gridB G C = true) (lC : C.length ≤ 4398046511000) (hk : Sok st k) (hk2 : k ≤ 4611686018427387904) (hL : st.lg.length + 1 ≤ 4398046511000) :
    Calls Try.prog 15 #[.pointer (some ⟨b, 0, none⟩), .string s] w fun e w' => ∃ vl', e = .returned (.agg #[.int .i64 (fdA (grL G) C st s).k, .int .i64 (fdA (grL G) C st s).t, .int .i64 (fdA (grL G) C st s).a, .int .i64 (fdA (grL G) C st s).b]) ∧ MoS w' lo lb gl b B vg vc vl' (grL G) C (fdS (grL G) C st s) ∧ (vl'.ownBlock = vl.ownBlock ∨ ∀ q, vl'.ownBlock = some q → w.heap.size ≤ q) ∧ Only (fun q => q = b ∨ q = B ∨ vl.ownBlock = some q) w w' := by
  by_cases h0 : st.tr.k = 0
  · have ea : fdA (grL G) C st s = frF (grL G) C st.f st.tk s := by unfold fdA; rw [if_pos h0]
    have es : fdS (grL G) C st s = ⟨lmF (grL G) st.f st.tk s, st.tk + 1, trN st.tr (frF (grL G) C st.f st.tk s), lgN st.lg (frF (grL G) C st.f st.tk s)⟩ := by unfold fdS; rw [if_pos h0]
    rw [ea, es]
    exact feed_yes h s (fok_of hg hk hk2 lC) hL h0
  · have ea : fdA (grL G) C st s = al0 := by unfold fdA; rw [if_neg h0]
    have es : fdS (grL G) C st s = st := by unfold fdS; rw [if_neg h0]
    rw [ea, es]
    exact (feed_no h s h0).mono fun e w' ⟨h1, h2⟩ => ⟨vl, h1, Mo.below h h2, .inl rfl, Only.of_below h2⟩
theorem MoS.fp {w : World} {lo lb gl b B : Nat} {vg vc vl : Value} {R : List Gr} {C : List Cf} {st : Sta} (h : MoS w lo lb gl b B vg vc vl R C st) {q : Nat} (hq : q = b ∨ q = B ∨ vl.ownBlock = some q) : lo ≤ q := by
  rcases hq with rfl | rfl | hq
  · exact Mo.b1 h
  · exact Mo.B1 h
  · have := (Mo.logne h q hq).2.2
    have := Mo.b1 h; have := Mo.b2 h; omega

set_option maxRecDepth 100000 in
set_option maxHeartbeats 4000000 in
theorem judge_bad (G : List Gp) (C : List Cf) (vg vc vt : Value) (w : World) (h1 : Fl 5 Gp.cs w vg G) (h2 : Fl 4 Cf.cs w vc C) (lG : G.length ≤ 2932031007317) (lC : C.length ≤ 4398046511000) (hg : gridB G C = false) :
    Calls Try.prog 13 #[.agg #[vg, vc], vt] w fun e w' => e = .returned (.tuple #[.agg #[.int .i64 al0.k, .int .i64 al0.t, .int .i64 al0.a, .int .i64 al0.b], .int .i64 70]) ∧ Below w.heap.size w w' := by
  have h6 := fun (W : World) (hW : Below w.heap.size w W) => new_bad G C vg vc W (h1.below hW) (h2.below hW) lG lC hg
  obtain ⟨ga, gc, rfl, kG⟩ := h1.any
  obtain ⟨ca, qc, rfl, kC⟩ := h2.any
  clear h1 h2 kG kC
  generalize G.length = n at *
  generalize C.length = m at *
  have XB : Below w.heap.size w ((w.alloc (.cells #[.slice ga n gc, .slice ca m qc] 25)).alloc (.cells #[.int .i64 0, .int .i64 0, .int .i64 0, .int .i64 0] 43)) := belA
  have XR : Has ((w.alloc (.cells #[.slice ga n gc, .slice ca m qc] 25)).alloc (.cells #[.int .i64 0, .int .i64 0, .int .i64 0, .int .i64 0] 43)) (w.heap.size + 1) #[.int .i64 0, .int .i64 0, .int .i64 0, .int .i64 0] := Has.new _ _ _ (by simp)
  have XT : Has ((w.alloc (.cells #[.slice ga n gc, .slice ca m qc] 25)).alloc (.cells #[.int .i64 0, .int .i64 0, .int .i64 0, .int .i64 0] 43)) w.heap.size #[.slice ga n gc, .slice ca m qc] := (Has.new _ _ _ rfl).alloc _
  go_enter Try.func13, Try.ntmps13
  go_upto_region 1 with fail
  generalize ((w.alloc (.cells #[.slice ga n gc, .slice ca m qc] 25)).alloc (.cells #[.int .i64 0, .int .i64 0, .int .i64 0, .int .i64 0] 43)) = V at *
  obtain ⟨_, i1, _⟩ := id XT
  go_wp2_with (go_at_call 6; (with_reducible refine Calls.mono (h6 _ XB) ?_); rintro e w1 ⟨rfl, hb⟩; replace XB := XB.trans (hb.mono XB.size); replace XR := XR.below hb; obtain ⟨_, i2, f2⟩ := id XR)
  exact bodyPost_ret (v := .tuple #[.agg #[.int .i64 0, .int .i64 0, .int .i64 0, .int .i64 0], .int .i64 70]) (by simp [results, Try.results13, go_sem, i2]) rfl ⟨rfl, (((XB.setCell (p := ⟨w.heap.size + 1, 0, none⟩) (by show w.heap.size ≤ w.heap.size + 1; omega) _).setCell (p := ⟨w.heap.size + 1, 1, none⟩) (by show w.heap.size ≤ w.heap.size + 1; omega) _).setCell (p := ⟨w.heap.size + 1, 2, none⟩) (by show w.heap.size ≤ w.heap.size + 1; omega) _).setCell (p := ⟨w.heap.size + 1, 3, none⟩) (by show w.heap.size ≤ w.heap.size + 1; omega) _⟩

/-- What stands in Judge's loop. -/
structure JS (w wr : World) (lo lb gl b B : Nat) (vg' vc' vl : Value) (R : List Gr) (C : List Cf) (st : Sta) (T : List ByteArray) (k : Nat) (X : Al) : Prop where
  mo : MoS wr lo lb gl b B vg' vc' vl R C st
  lo1 : w.heap.size + 2 ≤ lo
  rs : Has wr (w.heap.size + 1) #[.int .i64 0, .int .i64 0, .int .i64 0, .int .i64 0]
  be : Below w.heap.size w wr
  ok : Sok st k
  t0 : st.tr.k = 0
  l0 : st.lg = []
  jg : jgL R C st (T.drop k) = X
theorem bel4 {w wr : World} (be : Below w.heap.size w wr) (x0 x1 x2 x3 : Value) : Below w.heap.size w ((((wr.setCell ⟨w.heap.size + 1, 0, none⟩ x0).setCell ⟨w.heap.size + 1, 1, none⟩ x1).setCell ⟨w.heap.size + 1, 2, none⟩ x2).setCell ⟨w.heap.size + 1, 3, none⟩ x3) :=
  (((be.setCell (p := ⟨w.heap.size + 1, 0, none⟩) (by show w.heap.size ≤ w.heap.size + 1; omega) _).setCell (p := ⟨w.heap.size + 1, 1, none⟩) (by show w.heap.size ≤ w.heap.size + 1; omega) _).setCell (p := ⟨w.heap.size + 1, 2, none⟩) (by show w.heap.size ≤ w.heap.size + 1; omega) _).setCell (p := ⟨w.heap.size + 1, 3, none⟩) (by show w.heap.size ≤ w.heap.size + 1; omega) _
theorem JS.fed {w wr wx : World} {lo lb gl b B : Nat} {vg' vc' vl vl' : Value} {R : List Gr} {C : List Cf} {st : Sta} {T : List ByteArray} {k : Nat} {X : Al} (h : JS w wr lo lb gl b B vg' vc' vl R C st T k X) (hk : k < T.length) (hm : MoS wx lo lb gl b B vg' vc' vl' R C (fdS R C st (T.getD k ⟨#[]⟩))) (ho : Only (fun q => q = b ∨ q = B ∨ vl.ownBlock = some q) wr wx) :
    (Has wx (w.heap.size + 1) #[.int .i64 0, .int .i64 0, .int .i64 0, .int .i64 0] ∧ Below w.heap.size w wx) ∧ ((fdA R C st (T.getD k ⟨#[]⟩)).k ≠ 0 → fdA R C st (T.getD k ⟨#[]⟩) = X) ∧ ((fdA R C st (T.getD k ⟨#[]⟩)).k = 0 → JS w wx lo lb gl b B vg' vc' vl' R C (fdS R C st (T.getD k ⟨#[]⟩)) T (k + 1) X) := by
  have hd : T.drop k = T.getD k ⟨#[]⟩ :: T.drop (k + 1) := by
    rw [List.getD_eq_getElem?_getD, List.getElem?_eq_getElem hk]
    exact List.drop_eq_getElem_cons hk
  have hr : Has wx (w.heap.size + 1) #[.int .i64 0, .int .i64 0, .int .i64 0, .int .i64 0] := h.rs.only ho (fun e => by have := h.mo.fp e; have := h.lo1; omega)
  have hb : Below w.heap.size w wx := bel_only h.be ho (Nat.le_refl _) (fun q hq e => by have := h.mo.fp e; have := h.lo1; omega)
  have j := h.jg
  rw [hd] at j
  unfold jgL at j
  generalize T.getD k ⟨#[]⟩ = s at *
  refine ⟨⟨hr, hb⟩, fun e => ?_, fun e => ?_⟩
  · rwa [if_neg e] at j
  · rw [if_pos e] at j
    have ea : fdA R C st s = frF R C st.f st.tk s := by unfold fdA; rw [if_pos h.t0]
    have es : fdS R C st s = ⟨lmF R st.f st.tk s, st.tk + 1, st.tr, st.lg⟩ := by
      unfold fdS trN lgN
      rw [if_pos h.t0, ← ea, if_pos e, if_pos e]
    exact ⟨hm, h.lo1, hr, hb, h.ok.next s, by rw [es]; exact h.t0, by rw [es]; exact h.l0, j⟩
set_option maxRecDepth 100000 in
set_option maxHeartbeats 4000000 in
theorem judge_good (G : List Gp) (C : List Cf) (T : List ByteArray) (vg vc vt : Value) (w : World) (h1 : Fl 5 Gp.cs w vg G) (h2 : Fl 4 Cf.cs w vc C) (h3 : Fl 1 tx w vt T) (lG : G.length ≤ 2932031007317) (lC : C.length ≤ 4398046511000) (lT : T.length ≤ 8796093022000) (hg : gridB G C = true) :
    Calls Try.prog 13 #[.agg #[vg, vc], vt] w fun e w' => e = .returned (.tuple #[.agg #[.int .i64 (jgL (grL G) C (st0 []) T).k, .int .i64 (jgL (grL G) C (st0 []) T).t, .int .i64 (jgL (grL G) C (st0 []) T).a, .int .i64 (jgL (grL G) C (st0 []) T).b], .int .i64 0]) ∧ Below w.heap.size w w' := by
  have h6 := fun (W : World) (hW : Below w.heap.size w W) => new_good G C vg vc W (h1.below hW) (h2.below hW) lG lC hg
  obtain ⟨ga, gc, rfl, kG⟩ := h1.any
  obtain ⟨ca, qc, rfl, kC⟩ := h2.any
  obtain ⟨ta, tc, rfl, kT⟩ := h3.any
  clear h1 h2 h3 kG kC
  have hfeed := fun (W : World) (lo lb gl b B : Nat) (vg' vc' vl : Value) (st : Sta) (k : Nat) (s : ByteArray) (h : MoS W lo lb gl b B vg' vc' vl (grL G) C st) (hk : Sok st k) (hk2 : k ≤ 4611686018427387904) (hL : st.lg.length + 1 ≤ 4398046511000) => feed_any h s hg lC hk hk2 hL
  obtain ⟨X, hX⟩ : ∃ X, jgL (grL G) C (st0 []) T = X := ⟨_, rfl⟩
  rw [hX]
  have hX' : Hid (jgL (grL G) C (st0 []) T = X) := hX
  clear hX
  obtain ⟨N, hN⟩ : ∃ N, T.length = N := ⟨_, rfl⟩
  have hN' : Hid (T.length = N) := hN
  rw [hN] at lT ⊢
  clear hN
  have h6' : ∀ W : World, Below w.heap.size w W → Calls Try.prog 6 #[.agg #[.slice ga G.length gc, .slice ca C.length qc]] W fun e w' => (∃ b B vg' vc', e = .returned (.tuple #[.pointer (some ⟨b, 0, none⟩), .int .i64 0]) ∧ Hid (Mo w' W.heap.size w'.heap.size w'.heap.size b B vg' vc' (.slice none 0 0) (grL G) C (fun _ => lm0) 0 al0 [])) ∧ Below W.heap.size W w' := h6
  clear h6
  generalize hR : grL G = R at *
  clear hR
  generalize G.length = n at *
  generalize hm : C.length = m at *
  have XB : Below w.heap.size w ((w.alloc (.cells #[.slice ga n gc, .slice ca m qc] 25)).alloc (.cells #[.int .i64 0, .int .i64 0, .int .i64 0, .int .i64 0] 43)) := belA
  have XR : Has ((w.alloc (.cells #[.slice ga n gc, .slice ca m qc] 25)).alloc (.cells #[.int .i64 0, .int .i64 0, .int .i64 0, .int .i64 0] 43)) (w.heap.size + 1) #[.int .i64 0, .int .i64 0, .int .i64 0, .int .i64 0] := Has.new _ _ _ (by simp)
  have XT : Has ((w.alloc (.cells #[.slice ga n gc, .slice ca m qc] 25)).alloc (.cells #[.int .i64 0, .int .i64 0, .int .i64 0, .int .i64 0] 43)) w.heap.size #[.slice ga n gc, .slice ca m qc] := (Has.new _ _ _ rfl).alloc _
  go_enter Try.func13, Try.ntmps13
  go_upto_region 1 with fail
  generalize ((w.alloc (.cells #[.slice ga n gc, .slice ca m qc] 25)).alloc (.cells #[.int .i64 0, .int .i64 0, .int .i64 0, .int .i64 0] 43)) = V at *
  obtain ⟨_, i1, _⟩ := id XT
  go_wp2_with (go_at_call 6; (with_reducible refine Calls.mono (h6' _ XB) ?_); rintro e w1 ⟨⟨b, B, vg', vc', rfl, hM⟩, hb⟩)
  have J0 : JS w w1 V.heap.size w1.heap.size w1.heap.size b B vg' vc' (.slice none 0 0) R C (st0 []) T 0 X := ⟨hM.out, by have := XR.1; omega, XR.below hb, XB.trans (hb.mono XB.size), sok0 [], rfl, rfl, by rw [List.drop_zero]; exact hX'.out⟩
  clear XB XR XT i1 hM hb h6' hX'
  generalize V.heap.size = lo at *
  generalize hlb : w1.heap.size = lb at *
  clear hlb
  go_loopg [22] N (fun gk v wr => ∃ (k : Nat) (vl : Value) (st : Sta), k + gk = N ∧ v = .int .i64 (k : Int) ∧ Hid (JS w wr lo lb lb b B vg' vc' vl R C st T k X))
  case atStart => exact ⟨0, _, _, by omega, rfl, J0⟩
  case round =>
    clear J0
    obtain ⟨k, vl, st, hk, rfl, hS⟩ := hrel
    cases gk with
    | zero =>
      have e0 : al0 = X := by
        have := hS.out.jg
        rw [List.drop_eq_nil_of_le (by have := hN'.out; omega)] at this
        exact this
      subst e0
      obtain rfl : k = N := by omega
      have hR := hS.out.rs
      have hB := hS.out.be
      clear hS hfeed
      obtain ⟨_, i2, f2⟩ := id hR
      go_wp2
      exact bodyPost_ret (v := .tuple #[.agg #[.int .i64 0, .int .i64 0, .int .i64 0, .int .i64 0], .int .i64 0]) (by simp [results, Try.results13, go_sem, i2]) rfl ⟨rfl, bel4 hB _ _ _ _⟩
    | succ g =>
      have hkN : k < N := by omega
      have hkT : k < T.length := by have := hN'.out; omega
      obtain ⟨g0, o0, rfl, hg0, P⟩ := kT.resolve_left (by intro e; rw [e] at hkT; simp at hkT)
      have p0 := (hS.out.be.cell (p := ⟨g0, _, none⟩) hg0).trans (P k hkT 0 _ rfl)
      simp only [Nat.add_zero, Nat.mul_one] at p0
      have eT : T.getD k ⟨#[]⟩ = T[k] := by rw [List.getD_eq_getElem?_getD, List.getElem?_eq_getElem hkT]; rfl
      have h15 := hfeed wr lo lb lb b B vg' vc' vl st k (T.getD k ⟨#[]⟩) hS.out.mo hS.out.ok (by omega) (by rw [hS.out.l0]; simp)
      have hfd := fun (wx : World) (vl' : Value) => hS.out.fed (wx := wx) (vl' := vl') hkT
      rw [← eT] at p0
      have h25 := fun W => isAlarm_any (fdA R C st (T.getD k ⟨#[]⟩)).k (fdA R C st (T.getD k ⟨#[]⟩)).t (fdA R C st (T.getD k ⟨#[]⟩)).a (fdA R C st (T.getD k ⟨#[]⟩)).b W
      generalize fdS R C st (T.getD k ⟨#[]⟩) = st' at *
      generalize fdA R C st (T.getD k ⟨#[]⟩) = x at *
      generalize T.getD k ⟨#[]⟩ = s at *
      clear hS hfeed P eT kT
      go_upto_region 8 with (go_at_call 15; (with_reducible refine Calls.mono h15 ?_); rintro e w2 ⟨vl', rfl, q1, -, q2⟩)
      obtain ⟨⟨f1, f2⟩, f3, f4⟩ := hfd w2 vl' q1 q2
      clear h15 hfd q1 q2
      have XA : Has (w2.alloc (.cells #[.int .i64 x.k, .int .i64 x.t, .int .i64 x.a, .int .i64 x.b] 43)) w2.heap.size #[.int .i64 x.k, .int .i64 x.t, .int .i64 x.a, .int .i64 x.b] := Has.new _ _ _ rfl
      by_cases hx : x.k = 0
      · have J1 := f4 hx
        have hd : decide (x.k = 0) = true := by simp [hx]
        rw [hd] at h25
        clear hx hd f3 f4 f1 f2
        have hbA : Below w2.heap.size w2 (w2.alloc (.cells #[.int .i64 x.k, .int .i64 x.t, .int .i64 x.a, .int .i64 x.b] 43)) := belN1
        generalize (w2.alloc (.cells #[.int .i64 x.k, .int .i64 x.t, .int .i64 x.a, .int .i64 x.b] 43)) = V8 at *
        obtain ⟨_, i1, _⟩ := id XA
        go_wp2_with (go_at_call 25; (with_reducible refine Calls.mono (h25 _) ?_); rintro e w3 ⟨rfl, hb3⟩)
        go_roundg g
        case measure => omega
        case rel =>
          have hb2 : Below w2.heap.size w2 w3 := hbA.trans (hb3.mono hbA.size)
          exact ⟨k + 1, vl', st', by omega, by push_cast; rfl, ⟨Mo.below J1.mo hb2, J1.lo1, J1.rs.below hb2, J1.be.trans (hb2.mono J1.be.size), J1.ok, J1.t0, J1.l0, J1.jg⟩⟩
      · have eX := f3 hx
        have hd : decide (x.k = 0) = false := by simp [hx]
        rw [hd] at h25
        have h25y : ∀ W, Calls Try.prog 25 #[.agg #[.int .i64 x.k, .int .i64 x.t, .int .i64 x.a, .int .i64 x.b]] W fun e w' => e = .returned (.bool true) ∧ Below W.heap.size W w' := h25
        clear hx hd f3 f4 h25
        subst eX
        have hR := f1.alloc (.cells #[.int .i64 x.k, .int .i64 x.t, .int .i64 x.a, .int .i64 x.b] 43)
        have hB := f2.alloc f2.size (.cells #[.int .i64 x.k, .int .i64 x.t, .int .i64 x.a, .int .i64 x.b] 43)
        generalize (w2.alloc (.cells #[.int .i64 x.k, .int .i64 x.t, .int .i64 x.a, .int .i64 x.b] 43)) = V8 at *
        obtain ⟨_, i1, _⟩ := id XA
        go_wp2_with (go_at_call 25; (with_reducible refine Calls.mono (h25y _) ?_); rintro e w3 ⟨rfl, hb3⟩; replace XA := XA.below hb3; replace hR := hR.below hb3; replace hB := hB.trans (hb3.mono hB.size); clear i1; obtain ⟨_, i1, _⟩ := id XA; obtain ⟨_, i2, f2⟩ := id hR)
        exact bodyPost_ret (v := .tuple #[.agg #[.int .i64 x.k, .int .i64 x.t, .int .i64 x.a, .int .i64 x.b], .int .i64 0]) (by simp [results, Try.results13, go_sem, i2]) rfl ⟨rfl, bel4 hB _ _ _ _⟩
end Go.Proofs.Ytoaokpmnjppfcaa
