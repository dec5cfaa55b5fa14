import Derived.Test.YtoaokpmnjppfcaaWaS
namespace Go.Proofs.Ytoaokpmnjppfcaa
open Go.RowKit
set_option linter.unusedVariables false
set_option linter.unusedSimpArgs false

theorem MoS.notfp {w : World} {lo lb gl b B : Nat} {vg vc vl : Value} {R : List Gr} {C : List Cf} {st : Sta} (h : MoS w lo lb gl b B vg vc vl R C st) {q : Nat} (hq : w.heap.size ≤ q) : ¬ (q = b ∨ q = B ∨ vl.ownBlock = some q) := by
  rintro (e | e | e)
  · have := (Mo.ob h).1; omega
  · have := (Mo.lm h).1; omega
  · have := (own_lt (Mo.lg h) q e).2; omega
theorem Mo.alias {w : World} {lo lb gl b B : Nat} {vg vc vl : Value} {R : List Gr} {C : List Cf} {st : Sta} (h : MoS w lo lb gl b B vg vc vl R C st) : Mo w lo lb gl b B vg vc vl R C st.f st.tk st.tr st.lg := h
theorem Sok.next' {R : List Gr} {C : List Cf} {st st' : Sta} {k : Nat} {s : ByteArray} (h : Sok st k) (e : fdS R C st s = st') : Sok st' (k + 1) := e ▸ h.next s
/-- What stands in the law's loops. -/
structure LS (w wr : World) (p5 lo lb gl b B : Nat) (vg vc vl : Value) (R : List Gr) (C : List Cf) (st : Sta) (X : Al) : Prop where
  mo : MoS wr lo lb gl b B vg vc vl R C st
  x : Has wr p5 #[.int .i64 X.k, .int .i64 X.t, .int .i64 X.a, .int .i64 X.b]
  p1 : w.heap.size + 1 ≤ p5
  p2 : p5 < lo
  be : Below w.heap.size w wr
theorem LS.below {w wr wx : World} {p5 lo lb gl b B : Nat} {vg vc vl : Value} {R : List Gr} {C : List Cf} {st : Sta} {X : Al} (h : LS w wr p5 lo lb gl b B vg vc vl R C st X) (hb : Below wr.heap.size wr wx) : LS w wx p5 lo lb gl b B vg vc vl R C st X :=
  ⟨Mo.below h.mo hb, h.x.below hb, h.p1, h.p2, h.be.trans (hb.mono h.be.size)⟩
theorem LS.drew {w wr : World} {p5 lo lb gl b B : Nat} {vg vc vl : Value} {R : List Gr} {C : List Cf} {st : Sta} {X : Al} (h : LS w wr p5 lo lb gl b B vg vc vl R C st X) : LS w wr.drew p5 lo lb gl b B vg vc vl R C st X := h.below (Below.refl _ _).drew
theorem LS.fed {w wr wx : World} {p5 lo lb gl b B : Nat} {vg vc vl vl' : Value} {R : List Gr} {C : List Cf} {st st' : Sta} {X : Al} (h : LS w wr p5 lo lb gl b B vg vc vl R C st X) (hm : MoS wx lo lb gl b B vg vc vl' R C st') (ho : Only (fun q => q = b ∨ q = B ∨ vl.ownBlock = some q) wr wx) : LS w wx p5 lo lb gl b B vg vc vl' R C st' X :=
  ⟨hm, h.x.only ho (fun e => by have := h.mo.fp e; have := h.p2; omega), h.p1, h.p2, bel_only h.be ho (Nat.le_refl _) (fun q hq e => by have := h.mo.fp e; have := h.p1; have := h.p2; omega)⟩

theorem reset_no {w : World} {lo lb gl b B : Nat} {vg vc vl : Value} {R : List Gr} {C : List Cf} {st : Sta} (h : MoS w lo lb gl b B vg vc vl R C st) (hk : st.tr.k = 0) : Calls Try.prog 17 #[.pointer (some ⟨b, 0, none⟩)] w fun e w' => e = .returned (.bool false) ∧ Below w.heap.size w w' :=
  (reset_any (Mo.alias h)).mono fun e w' ⟨h1, h2, _, _⟩ => ⟨by rw [h1]; simp [hk], h2 hk⟩
theorem reset_yes {w : World} {lo lb gl b B : Nat} {vg vc vl : Value} {R : List Gr} {C : List Cf} {st : Sta} (h : MoS w lo lb gl b B vg vc vl R C st) (hk : st.tr.k ≠ 0) : Calls Try.prog 17 #[.pointer (some ⟨b, 0, none⟩)] w fun e w' => e = .returned (.bool true) ∧ MoS w' lo lb gl b B vg vc vl R C (st0 st.lg) ∧ Only (fun q => q = b ∨ q = B ∨ vl.ownBlock = some q) w w' :=
  (reset_any (Mo.alias h)).mono fun e w' ⟨h1, _, h3, h4⟩ => ⟨by rw [h1]; simp [hk], h3 hk, h4⟩
theorem log_row {w : World} {base g n c : Nat} {L : List Al} {X : Al} (h : w.ownsRow base 43 4 (.slice (some ⟨g, 0, none⟩) n c) n (cellsF Al.cs (L ++ [X]))) {j : Nat} {u : Value} (hj : X.cs[j]? = some u) : w.cell? ⟨g, L.length * 4 + j, none⟩ = some u := by
  have h4 : j < 4 := by have := (List.getElem?_eq_some_iff.1 hj).1; rwa [al_len] at this
  refine own_reads h rfl _ _ ?_
  rw [cellsF_get al_len (L ++ [X]) L.length j (by simp) h4]
  simpa using hj

set_option maxRecDepth 100000 in
set_option maxHeartbeats 4000000 in
theorem fed_bad (G : List Gp) (C : List Cf) (vg vc vt : Value) (w : World) (h1 : Fl 5 Gp.cs w vg G) (h2 : Fl 4 Cf.cs w vc C) (hvt : ∃ a q c, vt = .slice a q c) (lG : G.length ≤ 2932031007317) (lC : C.length ≤ 4398046511000) (hg : gridB G C = false) :
    Calls Try.prog 4 #[.agg #[vg, vc], vt] w fun e w' => e = .returned (.bool true) ∧ Below w.heap.size w w' := by
  have h13 := fun (W : World) (hW : Below w.heap.size w W) => judge_bad G C vg vc vt W (h1.below hW) (h2.below hW) lG lC hg
  have h6 := fun (W : World) (hW : Below w.heap.size w W) => new_bad G C vg vc W (h1.below hW) (h2.below hW) lG lC hg
  have h14 := fun (W : World) (hW : Below w.heap.size w W) => refGrid_any G C vg vc W (h1.below hW) (h2.below hW) lG lC
  rw [hg] at h14
  obtain ⟨ga, gc, rfl, kG⟩ := h1.any
  obtain ⟨ca, qc, rfl, kC⟩ := h2.any
  obtain ⟨ta, tl, tc, rfl⟩ := hvt
  clear h1 h2 kG kC
  generalize G.length = n at *
  generalize C.length = m at *
  have XB : Below w.heap.size w (w.alloc (.cells #[.slice ga n gc, .slice ca m qc] 25)) := belN1
  have XT : Has (w.alloc (.cells #[.slice ga n gc, .slice ca m qc] 25)) w.heap.size #[.slice ga n gc, .slice ca m qc] := Has.new _ _ _ rfl
  go_enter Try.func4, Try.ntmps4
  go_upto_region 1 with fail
  generalize (w.alloc (.cells #[.slice ga n gc, .slice ca m qc] 25)) = V at *
  obtain ⟨_, i1, _⟩ := id XT
  go_upto_region 2 with (go_at_call 13; (with_reducible refine Calls.mono (h13 _ XB) ?_); rintro e w1 ⟨rfl, hb⟩; replace XB := XB.trans (hb.mono XB.size); replace XT := XT.below hb; clear hb)
  replace XB := XB.alloc XB.size (.cells #[.int .i64 al0.k, .int .i64 al0.t, .int .i64 al0.a, .int .i64 al0.b] 43)
  replace XT := XT.alloc (.cells #[.int .i64 al0.k, .int .i64 al0.t, .int .i64 al0.a, .int .i64 al0.b] 43)
  generalize (w1.alloc (.cells #[.int .i64 al0.k, .int .i64 al0.t, .int .i64 al0.a, .int .i64 al0.b] 43)) = V1 at *
  clear i1
  obtain ⟨_, i1, _⟩ := id XT
  go_wp2_with (first
    | (go_at_call 6; (with_reducible refine Calls.mono (h6 _ XB) ?_); rintro e w2 ⟨rfl, hb⟩; replace XB := XB.trans (hb.mono XB.size); replace XT := XT.below hb; clear hb i1; obtain ⟨_, i1, _⟩ := id XT)
    | (go_at_call 14; (with_reducible refine Calls.mono (h14 _ XB) ?_); rintro e w2 ⟨rfl, hb⟩; replace XB := XB.trans (hb.mono XB.size); clear hb i1))
  go_ret
  exact ⟨rfl, XB⟩

set_option maxRecDepth 100000 in
set_option maxHeartbeats 8000000 in
theorem fed_good (G : List Gp) (C : List Cf) (T : List ByteArray) (vg vc vt : Value) (w : World) (h1 : Fl 5 Gp.cs w vg G) (h2 : Fl 4 Cf.cs w vc C) (h3 : Fl 1 tx w vt T) (lG : G.length ≤ 2932031007317) (lC : C.length ≤ 4398046511000) (lT : T.length ≤ 8796093022000) (hg : gridB G C = true) :
    Calls Try.prog 4 #[.agg #[vg, vc], vt] w fun e w' => e = .returned (.bool true) ∧ Below w.heap.size w w' := by
  have h13 := fun (W : World) (hW : Below w.heap.size w W) => judge_good G C T vg vc vt W (h1.below hW) (h2.below hW) (h3.below hW) lG lC lT hg
  have h6 := fun (W : World) (hW : Below w.heap.size w W) => new_good G C vg vc W (h1.below hW) (h2.below hW) lG lC hg
  have h14 := fun (W : World) (hW : Below w.heap.size w W) => refGrid_any G C vg vc W (h1.below hW) (h2.below hW) lG lC
  rw [hg] at h14
  obtain ⟨ga, gc, rfl, kG⟩ := h1.any
  obtain ⟨ca, qc, rfl, kC⟩ := h2.any
  obtain ⟨ta, tc, rfl, kT⟩ := h3.any
  clear h1 h2 h3 kG kC
  have hfeed := fun (W : World) (lo lb gl b B : Nat) (vg' vc' vl : Value) (st : Sta) (k : Nat) (s : ByteArray) (h : MoS W lo lb gl b B vg' vc' vl (grL G) C st) (hk : Sok st k) (hk2 : k ≤ 4611686018427387904) (hL : st.lg.length + 1 ≤ 4398046511000) => feed_any h s hg lC hk hk2 hL
  have jv0 := fun L0 => jv_zero (grL G) C T L0
  have jlog := fun L0 => jg_log (grL G) C L0 [] T (fun _ => lm0) 0 al0
  obtain ⟨X, hX⟩ : ∃ X, jgL (grL G) C (st0 []) T = X := ⟨_, rfl⟩
  have jv1 : ∀ L0, Jv (grL G) C T L0 X 0 (st0 L0) := fun L0 => by
    have e : jgL (grL G) C (st0 L0) T = X := (jlog L0).trans hX
    have := jv0 L0
    rwa [e] at this
  rw [hX] at h13
  clear hX jv0 jlog
  obtain ⟨N, hN⟩ : ∃ N, T.length = N := ⟨_, rfl⟩
  have hN' : Hid (T.length = N) := hN
  rw [hN] at lT h13 ⊢
  clear hN
  have h6' : ∀ W : World, Below w.heap.size w W → Calls Try.prog 6 #[.agg #[.slice ga G.length gc, .slice ca C.length qc]] W fun e w' => (∃ b B vg' vc', e = .returned (.tuple #[.pointer (some ⟨b, 0, none⟩), .int .i64 0]) ∧ Hid (Mo w' W.heap.size w'.heap.size w'.heap.size b B vg' vc' (.slice none 0 0) (grL G) C (fun _ => lm0) 0 al0 [])) ∧ Below W.heap.size W w' := h6
  clear h6
  generalize hR : grL G = R at *
  clear hR
  generalize G.length = n at *
  generalize hm : C.length = m at *
  have XB : Below w.heap.size w (w.alloc (.cells #[.slice ga n gc, .slice ca m qc] 25)) := belN1
  have XT : Has (w.alloc (.cells #[.slice ga n gc, .slice ca m qc] 25)) w.heap.size #[.slice ga n gc, .slice ca m qc] := Has.new _ _ _ rfl
  go_enter Try.func4, Try.ntmps4
  go_upto_region 1 with fail
  generalize (w.alloc (.cells #[.slice ga n gc, .slice ca m qc] 25)) = V at *
  obtain ⟨_, i1, _⟩ := id XT
  go_upto_region 2 with (go_at_call 13; (with_reducible refine Calls.mono (h13 _ XB) ?_); rintro e w1 ⟨rfl, hb⟩; replace XB := XB.trans (hb.mono XB.size); replace XT := XT.below hb; clear hb)
  have XX : Has (w1.alloc (.cells #[.int .i64 X.k, .int .i64 X.t, .int .i64 X.a, .int .i64 X.b] 43)) w1.heap.size #[.int .i64 X.k, .int .i64 X.t, .int .i64 X.a, .int .i64 X.b] := Has.new _ _ _ rfl
  have p1 : w.heap.size + 1 ≤ w1.heap.size := by have := XT.1; omega
  replace XB := XB.alloc XB.size (.cells #[.int .i64 X.k, .int .i64 X.t, .int .i64 X.a, .int .i64 X.b] 43)
  replace XT := XT.alloc (.cells #[.int .i64 X.k, .int .i64 X.t, .int .i64 X.a, .int .i64 X.b] 43)
  generalize w1.heap.size = p5 at *
  generalize (w1.alloc (.cells #[.int .i64 X.k, .int .i64 X.t, .int .i64 X.a, .int .i64 X.b] 43)) = V1 at *
  clear i1 h13
  obtain ⟨_, i1, _⟩ := id XT
  go_upto_region 7 with (first
    | (go_at_call 6; (with_reducible refine Calls.mono (h6' _ XB) ?_); rintro e w2 ⟨⟨b, B, vg', vc', rfl, hM⟩, hb⟩; replace XB := XB.trans (hb.mono XB.size); replace XT := XT.below hb; have XX2 := XX.below hb; clear hb i1; obtain ⟨_, i1, _⟩ := id XT)
    | (go_at_call 14; (with_reducible refine Calls.mono (h14 _ XB) ?_); rintro e w3 ⟨rfl, hb⟩))
  have L0 : LS w w3 p5 V1.heap.size w2.heap.size w2.heap.size b B vg' vc' (.slice none 0 0) R C (st0 []) X := LS.below ⟨hM.out, XX2, p1, XX.1, XB⟩ hb
  have jvz := jv1 []
  clear XB XT XX XX2 p1 i1 hb hM h6' h14
  generalize V1.heap.size = lo at *
  generalize hlb : w2.heap.size = lb at *
  clear hlb
  go_wp2
  go_loopg [9] 2 (fun gk v wr => ∃ (rr : Nat) (vl : Value), rr + gk = 2 ∧ v = .int .i64 (rr : Int) ∧ Hid (rr = 0 ∨ X.k ≠ 0) ∧ Hid (LS w wr p5 lo lb lb b B vg' vc' vl R C (st0 (List.replicate rr X)) X))
  case atStart => exact ⟨0, _, by omega, rfl, .inl rfl, L0⟩
  case round =>
    clear L0 jvz
    obtain ⟨rr, vl0, hrr, rfl, hrX, hS0⟩ := hrel
    have jvr := jv1 (List.replicate rr X)
    have hR2 : (List.replicate rr X).length = rr := List.length_replicate
    generalize hLr : List.replicate rr X = LR at *
    cases gk with
    | zero =>
      have hS := hS0.out
      have h11 := log_any (Mo.alias hS.mo) (by show LR.length ≤ _; omega)
      have e2 : ((st0 LR).lg.length : Int) = 2 := by show (LR.length : Int) = 2; omega
      clear hS0 hfeed jvr jv1 kT
      have hbe := hS.be
      obtain ⟨q, eq⟩ : ∃ q, (st0 LR).lg.length = q := ⟨_, rfl⟩
      rw [eq] at h11 e2
      have e3 : ((q : Int) == 2) = true := by simp [e2]
      clear eq e2
      obtain rfl : rr = 2 := by omega
      go_wp2_with (go_at_call 11; (with_reducible refine Calls.mono h11 ?_); rintro e w4 ⟨⟨a', c', rfl, -⟩, hb⟩)
      go_ret
      exact ⟨by first | rfl | exact ret_bool e3, hbe.trans (hb.mono hbe.size)⟩
    | succ gk0 =>
      have hr2 : (rr : Int) < 2 := by omega
      go_wp2
      go_loopg [10] N (fun gk v wr => ∃ (i : Nat) (vl : Value) (st : Sta), i + gk = N ∧ v = .int .i64 (i : Int) ∧ Hid (LS w wr p5 lo lb lb b B vg' vc' vl R C st X) ∧ Hid (Jv R C T LR X i st) ∧ Hid (Sok st i))
      case atStart => exact ⟨0, vl0, st0 LR, by omega, rfl, hS0, jvr, sok0 LR⟩
      case round =>
        clear hS0 jvr
        obtain ⟨i, vl, st, hi, rfl, hSi, hJi, hoki⟩ := hrel
        cases gk with
        | zero =>
          have hiN : i = N := by omega
          have hJ : Jv R C T LR X T.length st := by rw [hN'.out, ← hiN]; exact hJi.out
          have hS := hSi.out
          have hLlen : st.lg.length ≤ 4398046511000 := by
            rw [hJ.lg]
            split
            · simp; omega
            · omega
          have h11 := log_any (Mo.alias hS.mo) hLlen
          have hpx : p5 < wr.heap.size := hS.x.1
          obtain ⟨_, i1, _⟩ := id hS.x
          subst hiN
          by_cases hXk : X.k = 0
          · have hnN : ¬ (X.k ≠ 0 ∧ X.t < (T.length : Int)) := fun c => c.1 hXk
            have etr : st.tr.k = 0 := by rw [hJ.tr, if_neg hnN]; rfl
            have elg : st.lg.length = 0 := by
              rw [hJ.lg, if_neg hnN]
              have := hrX.out.resolve_right (fun c => c hXk)
              omega
            rw [elg] at h11
            have g0 : (X.k == 0) = true := by simp [hXk]
            have etr' : Hid (st.tr.k = 0) := etr
            clear hXk hnN etr elg hLlen hSi hJi hoki hJ hfeed jv1 kT
            go_wp2_with (first
              | (go_at_call 11; (with_reducible refine Calls.mono h11 ?_); rintro e w7 ⟨⟨a', c', rfl, -⟩, hb7⟩; replace hS := hS.below hb7; clear i1; obtain ⟨_, i1, _⟩ := id hS.x)
              | (go_at_call 17; (with_reducible refine Calls.mono (reset_no hS.mo etr'.out) ?_); rintro e w8 ⟨rfl, hb8⟩))
            go_ret
            exact ⟨rfl, hS.be.trans (hb8.mono hS.be.size)⟩
          · have hyN : X.k ≠ 0 ∧ X.t < (T.length : Int) := ⟨hXk, hJ.last hXk⟩
            have etr : st.tr = X := by rw [hJ.tr, if_pos hyN]
            have elg : st.lg = LR ++ [X] := by rw [hJ.lg, if_pos hyN]
            have eln : st.lg.length = rr + 1 := by rw [elg]; simp; omega
            have hLR : LR.length = rr := hR2
            have trX : st.tr.k ≠ 0 := by rw [etr]; exact hXk
            have g0 : (X.k == 0) = false := beq_eq_false_iff_ne.2 hXk
            rw [eln] at h11
            have wr1 : IntKind.i64.wrap ((rr : Int) + 1) = (rr : Int) + 1 := wrap64 _ (by omega)
            have ln1 : (((rr + 1 : Nat) : Int) != (rr : Int) + 1) = false := by simp
            have ln2 : (((rr : Int) + 1) != (rr : Int) + 1) = false := by simp
            have rl : (rr : Int) < ((rr + 1 : Nat) : Int) := by omega
            have rl2 : (rr : Int) < (rr : Int) + 1 := by omega
            have elg' : Hid (st.lg = LR ++ [X]) := elg
            have eLr : Hid (LR ++ [X] = List.replicate (rr + 1) X) := by show _ = _; rw [← hLr, ← List.replicate_succ']
            have hXk' : Hid (X.k ≠ 0) := hXk
            have lr : ∀ (base c' : Nat) (_ : True) (W : World) (g : Nat), W.ownsRow base 43 4 (.slice (some ⟨g, 0, none⟩) (rr + 1) c') (rr + 1) (cellsF Al.cs (LR ++ [X])) → ∀ (j : Nat) (u : Value), X.cs[j]? = some u → W.cell? ⟨g, rr * 4 + j, none⟩ = some u := fun base c' _ W g h j u hj => by
              have := log_row h hj
              rwa [hLR] at this
            rw [elg] at h11
            have h11' : Calls Try.prog 11 #[.pointer (some ⟨b, 0, none⟩)] wr fun e w' => (∃ a' c', e = .returned (.slice a' (rr + 1) c') ∧ Hid (w'.ownsRow wr.heap.size 43 4 (.slice a' (rr + 1) c') (rr + 1) (cellsF Al.cs (LR ++ [X])))) ∧ Below wr.heap.size wr w' := h11
            clear hXk hyN etr elg hLlen hSi hJi hoki hJ hfeed kT eln h11
            go_upto_region 26 with (go_at_call 11; (with_reducible refine Calls.mono h11' ?_); rintro e w8 ⟨⟨a', c', rfl, hrow⟩, hb7⟩; have S7 := hS.below hb7; clear i1; obtain ⟨_, i1, _⟩ := id S7.x)
            obtain ⟨g, cap0, eg, -, hg1, hg2⟩ := own_block hrow.out (by omega)
            injection eg with eg1 _ eg3
            subst eg1
            clear eg3 cap0
            have ngf : ¬ (g = b ∨ g = B ∨ vl.ownBlock = some g) := hS.mo.notfp hg1
            have R8 := own_bel hrow.out (Below.refl _ _).drew
            have S8 := S7.drew
            clear hrow S7 hS i1 h11' hb7
            refine wp_region_noPanic ?_
            refine wp_region_held_drew (S := fun w' => w'.cell? ⟨p5, 0, none⟩ = some (.int .i64 X.k) ∧ w'.cell? ⟨p5, 1, none⟩ = some (.int .i64 X.t) ∧ w'.cell? ⟨p5, 2, none⟩ = some (.int .i64 X.a) ∧ w'.cell? ⟨p5, 3, none⟩ = some (.int .i64 X.b) ∧ w'.cell? ⟨g, rr * 4, none⟩ = some (.int .i64 X.k) ∧ w'.cell? ⟨g, rr * 4 + 1, none⟩ = some (.int .i64 X.t) ∧ w'.cell? ⟨g, rr * 4 + 2, none⟩ = some (.int .i64 X.a) ∧ w'.cell? ⟨g, rr * 4 + 3, none⟩ = some (.int .i64 X.b)) (by kernel_rfl) ?_ (fun hHeld => ?_)
            · (try dsimp only)
              exact ⟨S8.x.reads rfl, S8.x.reads rfl, S8.x.reads rfl, S8.x.reads rfl, (lr _ _ trivial _ _ R8 0 _ rfl), (lr _ _ trivial _ _ R8 1 _ rfl), (lr _ _ trivial _ _ R8 2 _ rfl), (lr _ _ trivial _ _ R8 3 _ rfl)⟩
            refine wpAnyH_take (i := 0) (oi := { dst := some 105, op := Op.move (Operand.tmp 13), type := 39, pos := "safe.go:232", after := #[], guard := none }) (v := ?_) rfl (by kernel_rfl) (by kernel_rfl) (by kernel_rfl) (fun _ _ _ h => h) (Or.inl ⟨by rfl, ?_⟩) (by assumption) ?_
            rotate_left
            · intro wz hSz; (try dsimp only at hSz); go_simp; all_goals (with_reducible rfl)
            (try simp only [Act.put, List.setIfInBounds_toArray, List.set_cons_zero, List.set_cons_succ])
            refine wpAnyH_take (i := 1) (oi := { dst := some 106, op := Op.call { callee := Callee.builtin Builtin.len, args := #[Operand.tmp 105], argTypes := #[39] }, type := 3, pos := "safe.go:232", after := #[{ on := 0, ground := Ground.data }], guard := none }) (v := ?_) rfl (by kernel_rfl) (by kernel_rfl) (by kernel_rfl) (fun _ _ _ h => h) (Or.inl ⟨by rfl, ?_⟩) (by assumption) ?_
            rotate_left
            · intro wz hSz; (try dsimp only at hSz); go_simp; all_goals (with_reducible rfl)
            (try simp only [Act.put, List.setIfInBounds_toArray, List.set_cons_zero, List.set_cons_succ])
            refine wpAnyH_take (i := 2) (oi := { dst := some 107, op := Op.move (Operand.tmp 9), type := 3, pos := "safe.go:232", after := #[], guard := none }) (v := ?_) rfl (by kernel_rfl) (by kernel_rfl) (by kernel_rfl) (fun _ _ _ h => h) (Or.inl ⟨by rfl, ?_⟩) (by assumption) ?_
            rotate_left
            · intro wz hSz; (try dsimp only at hSz); go_simp; all_goals (with_reducible rfl)
            (try simp only [Act.put, List.setIfInBounds_toArray, List.set_cons_zero, List.set_cons_succ])
            refine wpAnyH_take (i := 3) (oi := { dst := some 108, op := Op.binOp BinOp.add 3 (Operand.tmp 107) (Operand.const (Value.int IntKind.i64 1)) 3, type := 3, pos := "safe.go:232", after := #[{ on := 2, ground := Ground.data }], guard := none }) (v := ?_) rfl (by kernel_rfl) (by kernel_rfl) (by kernel_rfl) (fun _ _ _ h => h) (Or.inl ⟨by rfl, ?_⟩) (by assumption) ?_
            rotate_left
            · intro wz hSz; (try dsimp only at hSz); go_simp; all_goals (with_reducible rfl)
            (try simp only [Act.put, List.setIfInBounds_toArray, List.set_cons_zero, List.set_cons_succ])
            refine wpAnyH_take (i := 4) (oi := { dst := some 109, op := Op.binOp BinOp.neq 3 (Operand.tmp 106) (Operand.tmp 108) 3, type := 4, pos := "safe.go:232", after := #[{ on := 1, ground := Ground.data }, { on := 3, ground := Ground.data }], guard := none }) (v := ?_) rfl (by kernel_rfl) (by kernel_rfl) (by kernel_rfl) (fun _ _ _ h => h) (Or.inl ⟨by rfl, ?_⟩) (by assumption) ?_
            rotate_left
            · intro wz hSz; (try dsimp only at hSz); go_simp; all_goals (with_reducible rfl)
            (try simp only [Act.put, List.setIfInBounds_toArray, List.set_cons_zero, List.set_cons_succ])
            refine wpAnyH_take (i := 5) (oi := { dst := some 110, op := Op.move (Operand.tmp 109), type := 4, pos := "safe.go:232", after := #[{ on := 4, ground := Ground.data }], guard := none }) (v := ?_) rfl (by kernel_rfl) (by kernel_rfl) (by kernel_rfl) (fun _ _ _ h => h) (Or.inl ⟨by rfl, ?_⟩) (by assumption) ?_
            rotate_left
            · intro wz hSz; (try dsimp only at hSz); go_simp; all_goals (with_reducible rfl)
            (try simp only [Act.put, List.setIfInBounds_toArray, List.set_cons_zero, List.set_cons_succ])
            refine wpAnyH_take (i := 6) (oi := { dst := some 111, op := Op.move (Operand.tmp 13), type := 39, pos := "safe.go:232", after := #[{ on := 5, ground := Ground.guard }], guard := some (5, false) }) (v := ?_) rfl (by kernel_rfl) (by kernel_rfl) (by kernel_rfl) (fun _ _ _ h => h) (Or.inl ⟨by rfl, ?_⟩) (by assumption) ?_
            rotate_left
            · intro wz hSz; (try dsimp only at hSz); go_simp; all_goals (with_reducible rfl)
            (try simp only [Act.put, List.setIfInBounds_toArray, List.set_cons_zero, List.set_cons_succ])
            refine wpAnyH_take (i := 7) (oi := { dst := some 112, op := Op.move (Operand.tmp 9), type := 3, pos := "safe.go:232", after := #[{ on := 5, ground := Ground.guard }], guard := some (5, false) }) (v := ?_) rfl (by kernel_rfl) (by kernel_rfl) (by kernel_rfl) (fun _ _ _ h => h) (Or.inl ⟨by rfl, ?_⟩) (by assumption) ?_
            rotate_left
            · intro wz hSz; (try dsimp only at hSz); go_simp; all_goals (with_reducible rfl)
            (try simp only [Act.put, List.setIfInBounds_toArray, List.set_cons_zero, List.set_cons_succ])
            refine wpAnyH_take (i := 8) (oi := { dst := some 113, op := Op.indexAddr 39 (Operand.tmp 111) (Operand.tmp 112), type := 0, pos := "safe.go:232", after := #[{ on := 6, ground := Ground.data }, { on := 7, ground := Ground.data }, { on := 5, ground := Ground.guard }], guard := some (5, false) }) (v := ?_) rfl (by kernel_rfl) (by kernel_rfl) (by kernel_rfl) (fun _ _ _ h => h) (Or.inl ⟨by rfl, ?_⟩) (by assumption) ?_
            rotate_left
            · intro wz hSz; (try dsimp only at hSz); go_simp; all_goals (with_reducible rfl)
            (try simp only [Act.put, List.setIfInBounds_toArray, List.set_cons_zero, List.set_cons_succ])
            refine wpAnyH_take (i := 9) (oi := { dst := some 114, op := Op.load 43 (Operand.tmp 113), type := 43, pos := "safe.go:232", after := #[{ on := 8, ground := Ground.data }, { on := 5, ground := Ground.guard }], guard := some (5, false) }) (v := ?_) rfl (by kernel_rfl) (by kernel_rfl) (by kernel_rfl) (fun _ _ _ h => h) (Or.inl ⟨by rfl, ?_⟩) (by assumption) ?_
            rotate_left
            · intro wz hSz; (try dsimp only at hSz); go_simp; all_goals (with_reducible rfl)
            (try simp only [Act.put, List.setIfInBounds_toArray, List.set_cons_zero, List.set_cons_succ])
            refine wpAnyH_take (i := 10) (oi := { dst := some 115, op := Op.load 43 (Operand.tmp 5), type := 43, pos := "safe.go:232", after := #[{ on := 5, ground := Ground.guard }], guard := some (5, false) }) (v := ?_) rfl (by kernel_rfl) (by kernel_rfl) (by kernel_rfl) (fun _ _ _ h => h) (Or.inl ⟨by rfl, ?_⟩) (by assumption) ?_
            rotate_left
            · intro wz hSz; (try dsimp only at hSz); go_simp; all_goals (with_reducible rfl)
            (try simp only [Act.put, List.setIfInBounds_toArray, List.set_cons_zero, List.set_cons_succ])
            refine wpAnyH_take (i := 11) (oi := { dst := some 116, op := Op.binOp BinOp.neq 43 (Operand.tmp 114) (Operand.tmp 115) 43, type := 4, pos := "safe.go:232", after := #[{ on := 9, ground := Ground.data }, { on := 10, ground := Ground.data }, { on := 5, ground := Ground.guard }], guard := some (5, false) }) (v := ?_) rfl (by kernel_rfl) (by kernel_rfl) (by kernel_rfl) (fun _ _ _ h => h) (Or.inl ⟨by rfl, ?_⟩) (by assumption) ?_
            rotate_left
            · intro wz hSz; (try dsimp only at hSz); go_simp; all_goals (with_reducible rfl)
            (try simp only [Act.put, List.setIfInBounds_toArray, List.set_cons_zero, List.set_cons_succ])
            refine wpAnyH_take (i := 12) (oi := { dst := some 117, op := Op.pick (Operand.tmp 110) (Operand.const (Value.bool true)) (Operand.tmp 116), type := 4, pos := "safe.go:232", after := #[{ on := 5, ground := Ground.data }, { on := 11, ground := Ground.data }], guard := none }) (v := ?_) rfl (by kernel_rfl) (by kernel_rfl) (by kernel_rfl) (fun _ _ _ h => h) (Or.inl ⟨by rfl, ?_⟩) (by assumption) ?_
            rotate_left
            · intro wz hSz; (try dsimp only at hSz); go_simp; all_goals (with_reducible rfl)
            (try simp only [Act.put, List.setIfInBounds_toArray, List.set_cons_zero, List.set_cons_succ])
            refine wpAnyH_take (i := 13) (oi := { dst := some 118, op := Op.move (Operand.tmp 117), type := 4, pos := "safe.go:232", after := #[{ on := 12, ground := Ground.data }, { on := 5, ground := Ground.chain }], guard := none }) (v := ?_) rfl (by kernel_rfl) (by kernel_rfl) (by kernel_rfl) (fun _ _ _ h => h) (Or.inl ⟨by rfl, ?_⟩) (by assumption) ?_
            rotate_left
            · intro wz hSz; (try dsimp only at hSz); go_simp; all_goals (with_reducible rfl)
            (try simp only [Act.put, List.setIfInBounds_toArray, List.set_cons_zero, List.set_cons_succ])
            refine wpAnyH_take (i := 14) (oi := { dst := some 119, op := Op.move (Operand.tmp 7), type := 28, pos := "safe.go:232", after := #[{ on := 13, ground := Ground.guard }], guard := some (13, false) }) (v := ?_) rfl (by kernel_rfl) (by kernel_rfl) (by kernel_rfl) (fun _ _ _ h => h) (Or.inl ⟨by rfl, ?_⟩) (by assumption) ?_
            rotate_left
            · intro wz hSz; (try dsimp only at hSz); go_simp; all_goals (with_reducible rfl)
            (try simp only [Act.put, List.setIfInBounds_toArray, List.set_cons_zero, List.set_cons_succ])
            refine wpAnyH_ready (rs := [15]) (by kernel_rfl) (by simp) ?_
            refine AllReadyH.cons (o := { dst := some 120, op := Op.call { callee := Callee.value (Operand.func 17), args := #[Operand.tmp 119], argTypes := #[28] }, type := 4, pos := "safe.go:232", after := #[{ on := 14, ground := Ground.data }, { on := 13, ground := Ground.chain }, { on := 13, ground := Ground.guard }], guard := some (13, false) }) rfl (fun K hK => ?_) AllReadyH.nil
            go_simp
            go_at_call 17
            (with_reducible refine Calls.mono (reset_yes S8.mo trX) ?_)
            rintro e w9 ⟨rfl, q1, q2⟩
            have S9 := S8.fed q1 q2
            have R9 := own_only2 R8 q2 (fun q hq e => ngf (by have e0 : g = q := Option.some.inj hq; rw [e0]; exact e))
            go_wp2_with fail
            refine hK.out _ _ ?_ (fun hHeld => ?_)
            · (try dsimp only)
              exact ⟨S9.x.reads rfl, S9.x.reads rfl, S9.x.reads rfl, S9.x.reads rfl, (lr _ _ trivial _ _ R9 0 _ rfl), (lr _ _ trivial _ _ R9 1 _ rfl), (lr _ _ trivial _ _ R9 2 _ rfl), (lr _ _ trivial _ _ R9 3 _ rfl)⟩
            clear hK K
            (try simp only [Act.put, List.setIfInBounds_toArray, List.set_cons_zero, List.set_cons_succ])
            refine wpAnyH_take (i := 16) (oi := { dst := some 121, op := Op.unOp UnOp.not 4 (Operand.tmp 120), type := 4, pos := "safe.go:232", after := #[{ on := 15, ground := Ground.data }, { on := 13, ground := Ground.guard }], guard := some (13, false) }) (v := ?_) rfl (by kernel_rfl) (by kernel_rfl) (by kernel_rfl) (fun _ _ _ h => h) (Or.inl ⟨by rfl, ?_⟩) (by assumption) ?_
            rotate_left
            · intro wz hSz; (try dsimp only at hSz); go_simp; all_goals (with_reducible rfl)
            (try simp only [Act.put, List.setIfInBounds_toArray, List.set_cons_zero, List.set_cons_succ])
            refine wpAnyH_take (i := 17) (oi := { dst := some 122, op := Op.pick (Operand.tmp 118) (Operand.const (Value.bool true)) (Operand.tmp 121), type := 4, pos := "safe.go:232", after := #[{ on := 13, ground := Ground.data }, { on := 16, ground := Ground.data }], guard := none }) (v := ?_) rfl (by kernel_rfl) (by kernel_rfl) (by kernel_rfl) (fun _ _ _ h => h) (Or.inl ⟨by rfl, ?_⟩) (by assumption) ?_
            rotate_left
            · intro wz hSz; (try dsimp only at hSz); go_simp; all_goals (with_reducible rfl)
            (try simp only [Act.put, List.setIfInBounds_toArray, List.set_cons_zero, List.set_cons_succ])
            refine wpAnyH_take (i := 18) (oi := { dst := some 123, op := Op.move (Operand.tmp 122), type := 4, pos := "safe.go:232", after := #[{ on := 17, ground := Ground.data }, { on := 15, ground := Ground.chain }], guard := none }) (v := ?_) rfl (by kernel_rfl) (by kernel_rfl) (by kernel_rfl) (fun _ _ _ h => h) (Or.inl ⟨by rfl, ?_⟩) (by assumption) ?_
            rotate_left
            · intro wz hSz; (try dsimp only at hSz); go_simp; all_goals (with_reducible rfl)
            (try simp only [Act.put, List.setIfInBounds_toArray, List.set_cons_zero, List.set_cons_succ])
            refine wpAnyH_take (i := 19) (oi := { dst := some 124, op := Op.move (Operand.tmp 7), type := 28, pos := "safe.go:232", after := #[{ on := 18, ground := Ground.guard }], guard := some (18, false) }) (v := ?_) rfl (by kernel_rfl) (by kernel_rfl) (by kernel_rfl) (fun _ _ _ h => h) (Or.inl ⟨by rfl, ?_⟩) (by assumption) ?_
            rotate_left
            · intro wz hSz; (try dsimp only at hSz); go_simp; all_goals (with_reducible rfl)
            (try simp only [Act.put, List.setIfInBounds_toArray, List.set_cons_zero, List.set_cons_succ])
            refine wpAnyH_ready (rs := [20]) (by kernel_rfl) (by simp) ?_
            refine AllReadyH.cons (o := { dst := some 125, op := Op.call { callee := Callee.value (Operand.func 17), args := #[Operand.tmp 124], argTypes := #[28] }, type := 4, pos := "safe.go:232", after := #[{ on := 19, ground := Ground.data }, { on := 18, ground := Ground.chain }, { on := 18, ground := Ground.guard }], guard := some (18, false) }) rfl (fun K hK => ?_) AllReadyH.nil
            go_simp
            go_at_call 17
            (with_reducible refine Calls.mono (reset_no S9.mo rfl) ?_)
            rintro e w10 ⟨rfl, hb10⟩
            have S10 := S9.below hb10
            have R10 := own_bel R9 hb10
            go_wp2_with fail
            refine hK.out _ _ ?_ (fun hHeld => ?_)
            · (try dsimp only)
              exact ⟨S10.x.reads rfl, S10.x.reads rfl, S10.x.reads rfl, S10.x.reads rfl, (lr _ _ trivial _ _ R10 0 _ rfl), (lr _ _ trivial _ _ R10 1 _ rfl), (lr _ _ trivial _ _ R10 2 _ rfl), (lr _ _ trivial _ _ R10 3 _ rfl)⟩
            clear hK K
            (try simp only [Act.put, List.setIfInBounds_toArray, List.set_cons_zero, List.set_cons_succ])
            refine wpAnyH_take (i := 21) (oi := { dst := some 126, op := Op.pick (Operand.tmp 123) (Operand.const (Value.bool true)) (Operand.tmp 125), type := 4, pos := "safe.go:232", after := #[{ on := 18, ground := Ground.data }, { on := 20, ground := Ground.data }], guard := none }) (v := ?_) rfl (by kernel_rfl) (by kernel_rfl) (by kernel_rfl) (fun _ _ _ h => h) (Or.inl ⟨by rfl, ?_⟩) (by assumption) ?_
            rotate_left
            · intro wz hSz; (try dsimp only at hSz); go_simp; all_goals (with_reducible rfl)
            (try simp only [Act.put, List.setIfInBounds_toArray, List.set_cons_zero, List.set_cons_succ])
            refine wpAnyH_take (i := 22) (oi := { dst := some 127, op := Op.move (Operand.tmp 126), type := 4, pos := "safe.go:232", after := #[{ on := 21, ground := Ground.data }, { on := 20, ground := Ground.chain }], guard := none }) (v := ?_) rfl (by kernel_rfl) (by kernel_rfl) (by kernel_rfl) (fun _ _ _ h => h) (Or.inl ⟨by rfl, ?_⟩) (by assumption) ?_
            rotate_left
            · intro wz hSz; (try dsimp only at hSz); go_simp; all_goals (with_reducible rfl)
            (try simp only [Act.put, List.setIfInBounds_toArray, List.set_cons_zero, List.set_cons_succ])
            refine wpAnyH_take (i := 23) (oi := { dst := some 128, op := Op.move (Operand.tmp 7), type := 28, pos := "safe.go:232", after := #[{ on := 22, ground := Ground.guard }], guard := some (22, false) }) (v := ?_) rfl (by kernel_rfl) (by kernel_rfl) (by kernel_rfl) (fun _ _ _ h => h) (Or.inl ⟨by rfl, ?_⟩) (by assumption) ?_
            rotate_left
            · intro wz hSz; (try dsimp only at hSz); go_simp; all_goals (with_reducible rfl)
            (try simp only [Act.put, List.setIfInBounds_toArray, List.set_cons_zero, List.set_cons_succ])
            refine wpAnyH_take (i := 25) (oi := { dst := some 130, op := Op.build 43 #[], type := 43, pos := "safe.go:232", after := #[{ on := 22, ground := Ground.guard }], guard := some (22, false) }) (v := ?_) rfl (by kernel_rfl) (by kernel_rfl) (by kernel_rfl) (fun _ _ _ h => h) (Or.inl ⟨by rfl, ?_⟩) (by assumption) ?_
            rotate_left
            · intro wz hSz; (try dsimp only at hSz); go_simp; all_goals (with_reducible rfl)
            (try simp only [Act.put, List.setIfInBounds_toArray, List.set_cons_zero, List.set_cons_succ])
            refine wpAnyH_ready (rs := [24]) (by kernel_rfl) (by simp) ?_
            refine AllReadyH.cons (o := { dst := some 129, op := Op.call { callee := Callee.value (Operand.func 16), args := #[Operand.tmp 128], argTypes := #[28] }, type := 43, pos := "safe.go:232", after := #[{ on := 23, ground := Ground.data }, { on := 22, ground := Ground.chain }, { on := 22, ground := Ground.guard }], guard := some (22, false) }) rfl (fun K hK => ?_) AllReadyH.nil
            go_simp
            go_at_call 16
            have h16 := tripped_any (Mo.alias S10.mo)
            dsimp only [st0, al0] at h16
            (with_reducible refine Calls.mono h16 ?_)
            rintro e w11 ⟨rfl, hb11⟩
            have S11 := S10.below hb11
            have R11 := own_bel R10 hb11
            go_wp2_with fail
            refine hK.out _ _ ?_ (fun hHeld => ?_)
            · (try dsimp only)
              exact ⟨S11.x.reads rfl, S11.x.reads rfl, S11.x.reads rfl, S11.x.reads rfl, (lr _ _ trivial _ _ R11 0 _ rfl), (lr _ _ trivial _ _ R11 1 _ rfl), (lr _ _ trivial _ _ R11 2 _ rfl), (lr _ _ trivial _ _ R11 3 _ rfl)⟩
            clear hK K
            (try simp only [Act.put, List.setIfInBounds_toArray, List.set_cons_zero, List.set_cons_succ])
            refine wpAnyH_take (i := 26) (oi := { dst := some 131, op := Op.binOp BinOp.neq 43 (Operand.tmp 129) (Operand.tmp 130) 43, type := 4, pos := "safe.go:232", after := #[{ on := 24, ground := Ground.data }, { on := 25, ground := Ground.data }, { on := 22, ground := Ground.guard }], guard := some (22, false) }) (v := ?_) rfl (by kernel_rfl) (by kernel_rfl) (by kernel_rfl) (fun _ _ _ h => h) (Or.inl ⟨by rfl, ?_⟩) (by assumption) ?_
            rotate_left
            · intro wz hSz; (try dsimp only at hSz); go_simp; all_goals (with_reducible rfl)
            (try simp only [Act.put, List.setIfInBounds_toArray, List.set_cons_zero, List.set_cons_succ])
            refine wpAnyH_take (i := 27) (oi := { dst := some 132, op := Op.pick (Operand.tmp 127) (Operand.const (Value.bool true)) (Operand.tmp 131), type := 4, pos := "safe.go:232", after := #[{ on := 22, ground := Ground.data }, { on := 26, ground := Ground.data }], guard := none }) (v := ?_) rfl (by kernel_rfl) (by kernel_rfl) (by kernel_rfl) (fun _ _ _ h => h) (Or.inl ⟨by rfl, ?_⟩) (by assumption) ?_
            rotate_left
            · intro wz hSz; (try dsimp only at hSz); go_simp; all_goals (with_reducible rfl)
            (try simp only [Act.put, List.setIfInBounds_toArray, List.set_cons_zero, List.set_cons_succ])
            refine wpAnyH_done (by kernel_rfl) ?_ _
            refine NoPanic.normal ?_
            go_wp2_with fail
            go_roundg gk0
            case measure => omega
            case rel =>
              have S12 := S11
              rw [elg'.out, eLr.out] at S12
              exact ⟨rr + 1, vl, by omega, by push_cast; rfl, .inr hXk'.out, S12⟩
        | succ g =>
          have hiN : i < N := by omega
          have hiT : i < T.length := by have := hN'.out; omega
          obtain ⟨g0, o0, rfl, hg0, P⟩ := kT.resolve_left (by intro e; rw [e] at hiT; simp at hiT)
          have P0 := P i hiT 0 _ rfl
          simp only [Nat.add_zero, Nat.mul_one] at P0
          have eT : T.getD i ⟨#[]⟩ = T[i] := by rw [List.getD_eq_getElem?_getD, List.getElem?_eq_getElem hiT]; rfl
          have jn := hJi.out.next hiT
          rw [← eT] at P0
          obtain ⟨s, es0⟩ : ∃ s, T.getD i ⟨#[]⟩ = s := ⟨_, rfl⟩
          rw [es0] at P0 jn
          obtain ⟨st', es⟩ : ∃ st', fdS R C st s = st' := ⟨_, rfl⟩
          rw [es] at jn
          have jv' := jn.2
          have hok := hoki.out
          have hS0 := hSi.out
          have hlen : st.lg.length + 1 ≤ 4398046511000 := by
            rw [hJi.out.lg]
            split
            · simp; omega
            · omega
          have hpx : p5 < wr.heap.size := hS0.x.1
          have hfeed' := hfeed
          obtain ⟨_, i1, _⟩ := id hS0.x
          clear hSi hJi hoki P eT kT es0
          by_cases hXk : X.k = 0
          · have gk0' : (X.k != 0) = false := by simp [hXk]
            have hnW : ¬ (X.k ≠ 0 ∧ X.t = i) := fun c => c.1 hXk
            have hnN : ¬ (X.k ≠ 0 ∧ X.t < ((i + 1 : Nat) : Int)) := fun c => c.1 hXk
            have eA : fdA R C st s = al0 := by rw [jn.1]; rw [if_neg hnW]
            have eN : st'.tr = al0 := by rw [jv'.tr]; rw [if_neg hnN]
            clear jn
            clear hXk hnW hnN
            have XW : Has (wr.alloc (.cells #[.int .i64 0, .int .i64 0, .int .i64 0, .int .i64 0] 43)) wr.heap.size #[.int .i64 0, .int .i64 0, .int .i64 0, .int .i64 0] := Has.new _ _ _ rfl
            have S1 := hS0.below (belN1 (o1 := .cells #[.int .i64 0, .int .i64 0, .int .i64 0, .int .i64 0] 43))
            go_upto_region 16 with fail
            generalize (wr.alloc (.cells #[.int .i64 0, .int .i64 0, .int .i64 0, .int .i64 0] 43)) = V6 at *
            have hS := S1.drew
            replace XW := XW.drew
            have p0' : V6.cell? ⟨g0, o0 + i, none⟩ = some (.string s) := (S1.be.cell (p := ⟨g0, _, none⟩) hg0).trans P0
            have h15 := hfeed V6.drew lo lb lb b B vg' vc' vl st i s hS.mo hok (by omega) hlen
            have nW : ¬ (wr.heap.size = b ∨ wr.heap.size = B ∨ vl.ownBlock = some wr.heap.size) := hS0.mo.notfp (Nat.le_refl _)
            rw [eA, es] at h15
            dsimp only [al0] at h15
            clear S1 i1
            refine wp_region_noPanic ?_
            refine wp_region_held_drew (S := fun w' => w'.cell? ⟨g0, o0 + i, none⟩ = some (.string s) ∧ w'.cell? ⟨wr.heap.size, 0, none⟩ = some (.int .i64 0) ∧ w'.cell? ⟨wr.heap.size, 1, none⟩ = some (.int .i64 0) ∧ w'.cell? ⟨wr.heap.size, 2, none⟩ = some (.int .i64 0) ∧ w'.cell? ⟨wr.heap.size, 3, none⟩ = some (.int .i64 0)) (by kernel_rfl) ?_ (fun hHeld => ?_)
            · (try dsimp only)
              exact ⟨p0', XW.reads rfl, XW.reads rfl, XW.reads rfl, XW.reads rfl⟩
            refine wpAnyH_take (i := 0) (oi := { dst := some 69, op := Op.move (Operand.tmp 7), type := 28, pos := "safe.go:217", after := #[], guard := none }) (v := ?_) rfl (by kernel_rfl) (by kernel_rfl) (by kernel_rfl) (fun _ _ _ h => h) (Or.inl ⟨by rfl, ?_⟩) (by assumption) ?_
            rotate_left
            · intro wz hSz; (try dsimp only at hSz); go_simp; all_goals (with_reducible rfl)
            (try simp only [Act.put, List.setIfInBounds_toArray, List.set_cons_zero, List.set_cons_succ])
            refine wpAnyH_take (i := 1) (oi := { dst := some 70, op := Op.move (Operand.tmp 1), type := 47, pos := "safe.go:217", after := #[], guard := none }) (v := ?_) rfl (by kernel_rfl) (by kernel_rfl) (by kernel_rfl) (fun _ _ _ h => h) (Or.inl ⟨by rfl, ?_⟩) (by assumption) ?_
            rotate_left
            · intro wz hSz; (try dsimp only at hSz); go_simp; all_goals (with_reducible rfl)
            (try simp only [Act.put, List.setIfInBounds_toArray, List.set_cons_zero, List.set_cons_succ])
            refine wpAnyH_take (i := 2) (oi := { dst := some 71, op := Op.move (Operand.tmp 10), type := 3, pos := "safe.go:217", after := #[], guard := none }) (v := ?_) rfl (by kernel_rfl) (by kernel_rfl) (by kernel_rfl) (fun _ _ _ h => h) (Or.inl ⟨by rfl, ?_⟩) (by assumption) ?_
            rotate_left
            · intro wz hSz; (try dsimp only at hSz); go_simp; all_goals (with_reducible rfl)
            (try simp only [Act.put, List.setIfInBounds_toArray, List.set_cons_zero, List.set_cons_succ])
            refine wpAnyH_take (i := 3) (oi := { dst := some 72, op := Op.indexAddr 47 (Operand.tmp 70) (Operand.tmp 71), type := 0, pos := "safe.go:217", after := #[{ on := 1, ground := Ground.data }, { on := 2, ground := Ground.data }], guard := none }) (v := ?_) rfl (by kernel_rfl) (by kernel_rfl) (by kernel_rfl) (fun _ _ _ h => h) (Or.inl ⟨by rfl, ?_⟩) (by assumption) ?_
            rotate_left
            · intro wz hSz; (try dsimp only at hSz); go_simp; all_goals (with_reducible rfl)
            (try simp only [Act.put, List.setIfInBounds_toArray, List.set_cons_zero, List.set_cons_succ])
            refine wpAnyH_take (i := 4) (oi := { dst := some 73, op := Op.load 9 (Operand.tmp 72), type := 9, pos := "safe.go:217", after := #[{ on := 3, ground := Ground.data }], guard := none }) (v := ?_) rfl (by kernel_rfl) (by kernel_rfl) (by kernel_rfl) (fun _ _ _ h => h) (Or.inl ⟨by rfl, ?_⟩) (by assumption) ?_
            rotate_left
            · intro wz hSz; (try dsimp only at hSz); go_simp; all_goals (with_reducible rfl)
            (try simp only [Act.put, List.setIfInBounds_toArray, List.set_cons_zero, List.set_cons_succ])
            refine wpAnyH_take (i := 6) (oi := { dst := some 75, op := Op.load 43 (Operand.tmp 11), type := 43, pos := "safe.go:217", after := #[], guard := none }) (v := ?_) rfl (by kernel_rfl) (by kernel_rfl) (by kernel_rfl) (fun _ _ _ h => h) (Or.inl ⟨by rfl, ?_⟩) (by assumption) ?_
            rotate_left
            · intro wz hSz; (try dsimp only at hSz); go_simp; all_goals (with_reducible rfl)
            (try simp only [Act.put, List.setIfInBounds_toArray, List.set_cons_zero, List.set_cons_succ])
            refine wpAnyH_ready (rs := [5]) (by kernel_rfl) (by simp) ?_
            refine AllReadyH.cons (o := { dst := some 74, op := Op.call { callee := Callee.value (Operand.func 15), args := #[Operand.tmp 69, Operand.tmp 73], argTypes := #[28, 9] }, type := 43, pos := "safe.go:217", after := #[{ on := 0, ground := Ground.data }, { on := 4, ground := Ground.data }], guard := none }) rfl (fun K hK => ?_) AllReadyH.nil
            go_simp
            go_at_call 15
            (with_reducible refine Calls.mono h15 ?_)
            rintro e w5 ⟨vl', rfl, q1, -, q2⟩
            have S2 := hS.fed q1 q2
            have XW2 : Has w5 wr.heap.size #[.int .i64 0, .int .i64 0, .int .i64 0, .int .i64 0] := XW.only q2 nW
            have p0'' := (S2.be.cell (p := ⟨g0, _, none⟩) hg0).trans P0
            go_wp2_with fail
            refine hK.out _ _ ?_ (fun hHeld => ?_)
            · (try dsimp only)
              exact ⟨p0'', XW2.reads rfl, XW2.reads rfl, XW2.reads rfl, XW2.reads rfl⟩
            clear hK K
            (try simp only [Act.put, List.setIfInBounds_toArray, List.set_cons_zero, List.set_cons_succ])
            refine wpAnyH_take (i := 7) (oi := { dst := some 76, op := Op.binOp BinOp.neq 43 (Operand.tmp 74) (Operand.tmp 75) 43, type := 4, pos := "safe.go:217", after := #[{ on := 5, ground := Ground.data }, { on := 6, ground := Ground.data }], guard := none }) (v := ?_) rfl (by kernel_rfl) (by kernel_rfl) (by kernel_rfl) (fun _ _ _ h => h) (Or.inl ⟨by rfl, ?_⟩) (by assumption) ?_
            rotate_left
            · intro wz hSz; (try dsimp only at hSz); go_simp; all_goals (with_reducible rfl)
            (try simp only [Act.put, List.setIfInBounds_toArray, List.set_cons_zero, List.set_cons_succ])
            refine wpAnyH_done (by kernel_rfl) ?_ _
            refine NoPanic.normal ?_
            clear h15 hS XW XW2 p0' p0'' hHeld
            have XN : Has (w5.alloc (.cells #[.int .i64 0, .int .i64 0, .int .i64 0, .int .i64 0] 43)) w5.heap.size #[.int .i64 0, .int .i64 0, .int .i64 0, .int .i64 0] := Has.new _ _ _ rfl
            have S3 := S2.below (belN1 (o1 := .cells #[.int .i64 0, .int .i64 0, .int .i64 0, .int .i64 0] 43))
            obtain ⟨_, i1, _⟩ := id S2.x
            go_upto_region 21 with fail
            generalize (w5.alloc (.cells #[.int .i64 0, .int .i64 0, .int .i64 0, .int .i64 0] 43)) = V7 at *
            replace S3 := S3.drew
            replace XN := XN.drew
            have h16 := tripped_any (Mo.alias S3.mo)
            rw [eN] at h16
            dsimp only [al0] at h16
            clear i1 S2
            refine wp_region_noPanic ?_
            refine wp_region_held_drew (S := fun w' => w'.cell? ⟨w5.heap.size, 0, none⟩ = some (.int .i64 0) ∧ w'.cell? ⟨w5.heap.size, 1, none⟩ = some (.int .i64 0) ∧ w'.cell? ⟨w5.heap.size, 2, none⟩ = some (.int .i64 0) ∧ w'.cell? ⟨w5.heap.size, 3, none⟩ = some (.int .i64 0)) (by kernel_rfl) ?_ (fun hHeld => ?_)
            · (try dsimp only)
              exact ⟨XN.reads rfl, XN.reads rfl, XN.reads rfl, XN.reads rfl⟩
            refine wpAnyH_take (i := 0) (oi := { dst := some 88, op := Op.move (Operand.tmp 7), type := 28, pos := "safe.go:224", after := #[], guard := none }) (v := ?_) rfl (by kernel_rfl) (by kernel_rfl) (by kernel_rfl) (fun _ _ _ h => h) (Or.inl ⟨by rfl, ?_⟩) (by assumption) ?_
            rotate_left
            · intro wz hSz; (try dsimp only at hSz); go_simp; all_goals (with_reducible rfl)
            (try simp only [Act.put, List.setIfInBounds_toArray, List.set_cons_zero, List.set_cons_succ])
            refine wpAnyH_take (i := 2) (oi := { dst := some 90, op := Op.load 43 (Operand.tmp 12), type := 43, pos := "safe.go:224", after := #[], guard := none }) (v := ?_) rfl (by kernel_rfl) (by kernel_rfl) (by kernel_rfl) (fun _ _ _ h => h) (Or.inl ⟨by rfl, ?_⟩) (by assumption) ?_
            rotate_left
            · intro wz hSz; (try dsimp only at hSz); go_simp; all_goals (with_reducible rfl)
            (try simp only [Act.put, List.setIfInBounds_toArray, List.set_cons_zero, List.set_cons_succ])
            refine wpAnyH_ready (rs := [1]) (by kernel_rfl) (by simp) ?_
            refine AllReadyH.cons (o := { dst := some 89, op := Op.call { callee := Callee.value (Operand.func 16), args := #[Operand.tmp 88], argTypes := #[28] }, type := 43, pos := "safe.go:224", after := #[{ on := 0, ground := Ground.data }], guard := none }) rfl (fun K hK => ?_) AllReadyH.nil
            go_simp
            go_at_call 16
            (with_reducible refine Calls.mono h16 ?_)
            rintro e w6 ⟨rfl, hb6⟩
            replace S3 := S3.below hb6
            have XN2 := XN.below hb6
            go_wp2_with fail
            refine hK.out _ _ ?_ (fun hHeld => ?_)
            · (try dsimp only)
              exact ⟨XN2.reads rfl, XN2.reads rfl, XN2.reads rfl, XN2.reads rfl⟩
            clear hK K
            (try simp only [Act.put, List.setIfInBounds_toArray, List.set_cons_zero, List.set_cons_succ])
            refine wpAnyH_take (i := 3) (oi := { dst := some 91, op := Op.binOp BinOp.neq 43 (Operand.tmp 89) (Operand.tmp 90) 43, type := 4, pos := "safe.go:224", after := #[{ on := 1, ground := Ground.data }, { on := 2, ground := Ground.data }], guard := none }) (v := ?_) rfl (by kernel_rfl) (by kernel_rfl) (by kernel_rfl) (fun _ _ _ h => h) (Or.inl ⟨by rfl, ?_⟩) (by assumption) ?_
            rotate_left
            · intro wz hSz; (try dsimp only at hSz); go_simp; all_goals (with_reducible rfl)
            (try simp only [Act.put, List.setIfInBounds_toArray, List.set_cons_zero, List.set_cons_succ])
            refine wpAnyH_done (by kernel_rfl) ?_ _
            refine NoPanic.normal ?_
            go_wp2_with fail
            go_roundg g
            case measure => omega
            case rel => exact ⟨i + 1, vl', st', by omega, by push_cast; rfl, S3, jv', hok.next' es⟩

          · have gk0' : (X.k != 0) = true := by simpa using hXk
            by_cases hXi : X.t = i
            · have g1 : (X.t == (i : Int)) = true := by simp [hXi]
              have g2 : X.t ≤ i := by omega
              have hyN : X.k ≠ 0 ∧ X.t < ((i + 1 : Nat) : Int) := ⟨hXk, by omega⟩
              have eA : fdA R C st s = X := by rw [jn.1]; rw [if_pos ⟨hXk, hXi⟩]
              have eN : st'.tr = X := by rw [jv'.tr]; rw [if_pos hyN]
              clear jn
              clear hXi hyN
              have XW : Has (wr.alloc (.cells #[.int .i64 X.k, .int .i64 X.t, .int .i64 X.a, .int .i64 X.b] 43)) wr.heap.size #[.int .i64 X.k, .int .i64 X.t, .int .i64 X.a, .int .i64 X.b] := Has.new _ _ _ rfl
              have S1 := hS0.below (belN1 (o1 := .cells #[.int .i64 X.k, .int .i64 X.t, .int .i64 X.a, .int .i64 X.b] 43))
              go_upto_region 16 with fail
              generalize (wr.alloc (.cells #[.int .i64 X.k, .int .i64 X.t, .int .i64 X.a, .int .i64 X.b] 43)) = V6 at *
              have hS := S1.drew
              replace XW := XW.drew
              have p0' : V6.cell? ⟨g0, o0 + i, none⟩ = some (.string s) := (S1.be.cell (p := ⟨g0, _, none⟩) hg0).trans P0
              have h15 := hfeed V6.drew lo lb lb b B vg' vc' vl st i s hS.mo hok (by omega) hlen
              have nW : ¬ (wr.heap.size = b ∨ wr.heap.size = B ∨ vl.ownBlock = some wr.heap.size) := hS0.mo.notfp (Nat.le_refl _)
              rw [eA, es] at h15

              clear S1 i1
              refine wp_region_noPanic ?_
              refine wp_region_held_drew (S := fun w' => w'.cell? ⟨g0, o0 + i, none⟩ = some (.string s) ∧ w'.cell? ⟨wr.heap.size, 0, none⟩ = some (.int .i64 X.k) ∧ w'.cell? ⟨wr.heap.size, 1, none⟩ = some (.int .i64 X.t) ∧ w'.cell? ⟨wr.heap.size, 2, none⟩ = some (.int .i64 X.a) ∧ w'.cell? ⟨wr.heap.size, 3, none⟩ = some (.int .i64 X.b)) (by kernel_rfl) ?_ (fun hHeld => ?_)
              · (try dsimp only)
                exact ⟨p0', XW.reads rfl, XW.reads rfl, XW.reads rfl, XW.reads rfl⟩
              refine wpAnyH_take (i := 0) (oi := { dst := some 69, op := Op.move (Operand.tmp 7), type := 28, pos := "safe.go:217", after := #[], guard := none }) (v := ?_) rfl (by kernel_rfl) (by kernel_rfl) (by kernel_rfl) (fun _ _ _ h => h) (Or.inl ⟨by rfl, ?_⟩) (by assumption) ?_
              rotate_left
              · intro wz hSz; (try dsimp only at hSz); go_simp; all_goals (with_reducible rfl)
              (try simp only [Act.put, List.setIfInBounds_toArray, List.set_cons_zero, List.set_cons_succ])
              refine wpAnyH_take (i := 1) (oi := { dst := some 70, op := Op.move (Operand.tmp 1), type := 47, pos := "safe.go:217", after := #[], guard := none }) (v := ?_) rfl (by kernel_rfl) (by kernel_rfl) (by kernel_rfl) (fun _ _ _ h => h) (Or.inl ⟨by rfl, ?_⟩) (by assumption) ?_
              rotate_left
              · intro wz hSz; (try dsimp only at hSz); go_simp; all_goals (with_reducible rfl)
              (try simp only [Act.put, List.setIfInBounds_toArray, List.set_cons_zero, List.set_cons_succ])
              refine wpAnyH_take (i := 2) (oi := { dst := some 71, op := Op.move (Operand.tmp 10), type := 3, pos := "safe.go:217", after := #[], guard := none }) (v := ?_) rfl (by kernel_rfl) (by kernel_rfl) (by kernel_rfl) (fun _ _ _ h => h) (Or.inl ⟨by rfl, ?_⟩) (by assumption) ?_
              rotate_left
              · intro wz hSz; (try dsimp only at hSz); go_simp; all_goals (with_reducible rfl)
              (try simp only [Act.put, List.setIfInBounds_toArray, List.set_cons_zero, List.set_cons_succ])
              refine wpAnyH_take (i := 3) (oi := { dst := some 72, op := Op.indexAddr 47 (Operand.tmp 70) (Operand.tmp 71), type := 0, pos := "safe.go:217", after := #[{ on := 1, ground := Ground.data }, { on := 2, ground := Ground.data }], guard := none }) (v := ?_) rfl (by kernel_rfl) (by kernel_rfl) (by kernel_rfl) (fun _ _ _ h => h) (Or.inl ⟨by rfl, ?_⟩) (by assumption) ?_
              rotate_left
              · intro wz hSz; (try dsimp only at hSz); go_simp; all_goals (with_reducible rfl)
              (try simp only [Act.put, List.setIfInBounds_toArray, List.set_cons_zero, List.set_cons_succ])
              refine wpAnyH_take (i := 4) (oi := { dst := some 73, op := Op.load 9 (Operand.tmp 72), type := 9, pos := "safe.go:217", after := #[{ on := 3, ground := Ground.data }], guard := none }) (v := ?_) rfl (by kernel_rfl) (by kernel_rfl) (by kernel_rfl) (fun _ _ _ h => h) (Or.inl ⟨by rfl, ?_⟩) (by assumption) ?_
              rotate_left
              · intro wz hSz; (try dsimp only at hSz); go_simp; all_goals (with_reducible rfl)
              (try simp only [Act.put, List.setIfInBounds_toArray, List.set_cons_zero, List.set_cons_succ])
              refine wpAnyH_take (i := 6) (oi := { dst := some 75, op := Op.load 43 (Operand.tmp 11), type := 43, pos := "safe.go:217", after := #[], guard := none }) (v := ?_) rfl (by kernel_rfl) (by kernel_rfl) (by kernel_rfl) (fun _ _ _ h => h) (Or.inl ⟨by rfl, ?_⟩) (by assumption) ?_
              rotate_left
              · intro wz hSz; (try dsimp only at hSz); go_simp; all_goals (with_reducible rfl)
              (try simp only [Act.put, List.setIfInBounds_toArray, List.set_cons_zero, List.set_cons_succ])
              refine wpAnyH_ready (rs := [5]) (by kernel_rfl) (by simp) ?_
              refine AllReadyH.cons (o := { dst := some 74, op := Op.call { callee := Callee.value (Operand.func 15), args := #[Operand.tmp 69, Operand.tmp 73], argTypes := #[28, 9] }, type := 43, pos := "safe.go:217", after := #[{ on := 0, ground := Ground.data }, { on := 4, ground := Ground.data }], guard := none }) rfl (fun K hK => ?_) AllReadyH.nil
              go_simp
              go_at_call 15
              (with_reducible refine Calls.mono h15 ?_)
              rintro e w5 ⟨vl', rfl, q1, -, q2⟩
              have S2 := hS.fed q1 q2
              have XW2 : Has w5 wr.heap.size #[.int .i64 X.k, .int .i64 X.t, .int .i64 X.a, .int .i64 X.b] := XW.only q2 nW
              have p0'' := (S2.be.cell (p := ⟨g0, _, none⟩) hg0).trans P0
              go_wp2_with fail
              refine hK.out _ _ ?_ (fun hHeld => ?_)
              · (try dsimp only)
                exact ⟨p0'', XW2.reads rfl, XW2.reads rfl, XW2.reads rfl, XW2.reads rfl⟩
              clear hK K
              (try simp only [Act.put, List.setIfInBounds_toArray, List.set_cons_zero, List.set_cons_succ])
              refine wpAnyH_take (i := 7) (oi := { dst := some 76, op := Op.binOp BinOp.neq 43 (Operand.tmp 74) (Operand.tmp 75) 43, type := 4, pos := "safe.go:217", after := #[{ on := 5, ground := Ground.data }, { on := 6, ground := Ground.data }], guard := none }) (v := ?_) rfl (by kernel_rfl) (by kernel_rfl) (by kernel_rfl) (fun _ _ _ h => h) (Or.inl ⟨by rfl, ?_⟩) (by assumption) ?_
              rotate_left
              · intro wz hSz; (try dsimp only at hSz); go_simp; all_goals (with_reducible rfl)
              (try simp only [Act.put, List.setIfInBounds_toArray, List.set_cons_zero, List.set_cons_succ])
              refine wpAnyH_done (by kernel_rfl) ?_ _
              refine NoPanic.normal ?_
              clear h15 hS XW XW2 p0' p0'' hHeld
              have XN : Has (w5.alloc (.cells #[.int .i64 X.k, .int .i64 X.t, .int .i64 X.a, .int .i64 X.b] 43)) w5.heap.size #[.int .i64 X.k, .int .i64 X.t, .int .i64 X.a, .int .i64 X.b] := Has.new _ _ _ rfl
              have S3 := S2.below (belN1 (o1 := .cells #[.int .i64 X.k, .int .i64 X.t, .int .i64 X.a, .int .i64 X.b] 43))
              obtain ⟨_, i1, _⟩ := id S2.x
              go_upto_region 21 with fail
              generalize (w5.alloc (.cells #[.int .i64 X.k, .int .i64 X.t, .int .i64 X.a, .int .i64 X.b] 43)) = V7 at *
              replace S3 := S3.drew
              replace XN := XN.drew
              have h16 := tripped_any (Mo.alias S3.mo)
              rw [eN] at h16

              clear i1 S2
              refine wp_region_noPanic ?_
              refine wp_region_held_drew (S := fun w' => w'.cell? ⟨w5.heap.size, 0, none⟩ = some (.int .i64 X.k) ∧ w'.cell? ⟨w5.heap.size, 1, none⟩ = some (.int .i64 X.t) ∧ w'.cell? ⟨w5.heap.size, 2, none⟩ = some (.int .i64 X.a) ∧ w'.cell? ⟨w5.heap.size, 3, none⟩ = some (.int .i64 X.b)) (by kernel_rfl) ?_ (fun hHeld => ?_)
              · (try dsimp only)
                exact ⟨XN.reads rfl, XN.reads rfl, XN.reads rfl, XN.reads rfl⟩
              refine wpAnyH_take (i := 0) (oi := { dst := some 88, op := Op.move (Operand.tmp 7), type := 28, pos := "safe.go:224", after := #[], guard := none }) (v := ?_) rfl (by kernel_rfl) (by kernel_rfl) (by kernel_rfl) (fun _ _ _ h => h) (Or.inl ⟨by rfl, ?_⟩) (by assumption) ?_
              rotate_left
              · intro wz hSz; (try dsimp only at hSz); go_simp; all_goals (with_reducible rfl)
              (try simp only [Act.put, List.setIfInBounds_toArray, List.set_cons_zero, List.set_cons_succ])
              refine wpAnyH_take (i := 2) (oi := { dst := some 90, op := Op.load 43 (Operand.tmp 12), type := 43, pos := "safe.go:224", after := #[], guard := none }) (v := ?_) rfl (by kernel_rfl) (by kernel_rfl) (by kernel_rfl) (fun _ _ _ h => h) (Or.inl ⟨by rfl, ?_⟩) (by assumption) ?_
              rotate_left
              · intro wz hSz; (try dsimp only at hSz); go_simp; all_goals (with_reducible rfl)
              (try simp only [Act.put, List.setIfInBounds_toArray, List.set_cons_zero, List.set_cons_succ])
              refine wpAnyH_ready (rs := [1]) (by kernel_rfl) (by simp) ?_
              refine AllReadyH.cons (o := { dst := some 89, op := Op.call { callee := Callee.value (Operand.func 16), args := #[Operand.tmp 88], argTypes := #[28] }, type := 43, pos := "safe.go:224", after := #[{ on := 0, ground := Ground.data }], guard := none }) rfl (fun K hK => ?_) AllReadyH.nil
              go_simp
              go_at_call 16
              (with_reducible refine Calls.mono h16 ?_)
              rintro e w6 ⟨rfl, hb6⟩
              replace S3 := S3.below hb6
              have XN2 := XN.below hb6
              go_wp2_with fail
              refine hK.out _ _ ?_ (fun hHeld => ?_)
              · (try dsimp only)
                exact ⟨XN2.reads rfl, XN2.reads rfl, XN2.reads rfl, XN2.reads rfl⟩
              clear hK K
              (try simp only [Act.put, List.setIfInBounds_toArray, List.set_cons_zero, List.set_cons_succ])
              refine wpAnyH_take (i := 3) (oi := { dst := some 91, op := Op.binOp BinOp.neq 43 (Operand.tmp 89) (Operand.tmp 90) 43, type := 4, pos := "safe.go:224", after := #[{ on := 1, ground := Ground.data }, { on := 2, ground := Ground.data }], guard := none }) (v := ?_) rfl (by kernel_rfl) (by kernel_rfl) (by kernel_rfl) (fun _ _ _ h => h) (Or.inl ⟨by rfl, ?_⟩) (by assumption) ?_
              rotate_left
              · intro wz hSz; (try dsimp only at hSz); go_simp; all_goals (with_reducible rfl)
              (try simp only [Act.put, List.setIfInBounds_toArray, List.set_cons_zero, List.set_cons_succ])
              refine wpAnyH_done (by kernel_rfl) ?_ _
              refine NoPanic.normal ?_
              go_wp2_with fail
              go_roundg g
              case measure => omega
              case rel => exact ⟨i + 1, vl', st', by omega, by push_cast; rfl, S3, jv', hok.next' es⟩

            · have g1 : (X.t == (i : Int)) = false := beq_eq_false_iff_ne.2 hXi
              have hnW : ¬ (X.k ≠ 0 ∧ X.t = i) := fun c => hXi c.2
              by_cases hXl : X.t ≤ i
              · have hyN : X.k ≠ 0 ∧ X.t < ((i + 1 : Nat) : Int) := ⟨hXk, by omega⟩
                have eA : fdA R C st s = al0 := by rw [jn.1]; rw [if_neg hnW]
                have eN : st'.tr = X := by rw [jv'.tr]; rw [if_pos hyN]
                clear jn
                clear hXi hyN hnW
                have XW : Has (wr.alloc (.cells #[.int .i64 0, .int .i64 0, .int .i64 0, .int .i64 0] 43)) wr.heap.size #[.int .i64 0, .int .i64 0, .int .i64 0, .int .i64 0] := Has.new _ _ _ rfl
                have S1 := hS0.below (belN1 (o1 := .cells #[.int .i64 0, .int .i64 0, .int .i64 0, .int .i64 0] 43))
                go_upto_region 16 with fail
                generalize (wr.alloc (.cells #[.int .i64 0, .int .i64 0, .int .i64 0, .int .i64 0] 43)) = V6 at *
                have hS := S1.drew
                replace XW := XW.drew
                have p0' : V6.cell? ⟨g0, o0 + i, none⟩ = some (.string s) := (S1.be.cell (p := ⟨g0, _, none⟩) hg0).trans P0
                have h15 := hfeed V6.drew lo lb lb b B vg' vc' vl st i s hS.mo hok (by omega) hlen
                have nW : ¬ (wr.heap.size = b ∨ wr.heap.size = B ∨ vl.ownBlock = some wr.heap.size) := hS0.mo.notfp (Nat.le_refl _)
                rw [eA, es] at h15
                dsimp only [al0] at h15
                clear S1 i1
                refine wp_region_noPanic ?_
                refine wp_region_held_drew (S := fun w' => w'.cell? ⟨g0, o0 + i, none⟩ = some (.string s) ∧ w'.cell? ⟨wr.heap.size, 0, none⟩ = some (.int .i64 0) ∧ w'.cell? ⟨wr.heap.size, 1, none⟩ = some (.int .i64 0) ∧ w'.cell? ⟨wr.heap.size, 2, none⟩ = some (.int .i64 0) ∧ w'.cell? ⟨wr.heap.size, 3, none⟩ = some (.int .i64 0)) (by kernel_rfl) ?_ (fun hHeld => ?_)
                · (try dsimp only)
                  exact ⟨p0', XW.reads rfl, XW.reads rfl, XW.reads rfl, XW.reads rfl⟩
                refine wpAnyH_take (i := 0) (oi := { dst := some 69, op := Op.move (Operand.tmp 7), type := 28, pos := "safe.go:217", after := #[], guard := none }) (v := ?_) rfl (by kernel_rfl) (by kernel_rfl) (by kernel_rfl) (fun _ _ _ h => h) (Or.inl ⟨by rfl, ?_⟩) (by assumption) ?_
                rotate_left
                · intro wz hSz; (try dsimp only at hSz); go_simp; all_goals (with_reducible rfl)
                (try simp only [Act.put, List.setIfInBounds_toArray, List.set_cons_zero, List.set_cons_succ])
                refine wpAnyH_take (i := 1) (oi := { dst := some 70, op := Op.move (Operand.tmp 1), type := 47, pos := "safe.go:217", after := #[], guard := none }) (v := ?_) rfl (by kernel_rfl) (by kernel_rfl) (by kernel_rfl) (fun _ _ _ h => h) (Or.inl ⟨by rfl, ?_⟩) (by assumption) ?_
                rotate_left
                · intro wz hSz; (try dsimp only at hSz); go_simp; all_goals (with_reducible rfl)
                (try simp only [Act.put, List.setIfInBounds_toArray, List.set_cons_zero, List.set_cons_succ])
                refine wpAnyH_take (i := 2) (oi := { dst := some 71, op := Op.move (Operand.tmp 10), type := 3, pos := "safe.go:217", after := #[], guard := none }) (v := ?_) rfl (by kernel_rfl) (by kernel_rfl) (by kernel_rfl) (fun _ _ _ h => h) (Or.inl ⟨by rfl, ?_⟩) (by assumption) ?_
                rotate_left
                · intro wz hSz; (try dsimp only at hSz); go_simp; all_goals (with_reducible rfl)
                (try simp only [Act.put, List.setIfInBounds_toArray, List.set_cons_zero, List.set_cons_succ])
                refine wpAnyH_take (i := 3) (oi := { dst := some 72, op := Op.indexAddr 47 (Operand.tmp 70) (Operand.tmp 71), type := 0, pos := "safe.go:217", after := #[{ on := 1, ground := Ground.data }, { on := 2, ground := Ground.data }], guard := none }) (v := ?_) rfl (by kernel_rfl) (by kernel_rfl) (by kernel_rfl) (fun _ _ _ h => h) (Or.inl ⟨by rfl, ?_⟩) (by assumption) ?_
                rotate_left
                · intro wz hSz; (try dsimp only at hSz); go_simp; all_goals (with_reducible rfl)
                (try simp only [Act.put, List.setIfInBounds_toArray, List.set_cons_zero, List.set_cons_succ])
                refine wpAnyH_take (i := 4) (oi := { dst := some 73, op := Op.load 9 (Operand.tmp 72), type := 9, pos := "safe.go:217", after := #[{ on := 3, ground := Ground.data }], guard := none }) (v := ?_) rfl (by kernel_rfl) (by kernel_rfl) (by kernel_rfl) (fun _ _ _ h => h) (Or.inl ⟨by rfl, ?_⟩) (by assumption) ?_
                rotate_left
                · intro wz hSz; (try dsimp only at hSz); go_simp; all_goals (with_reducible rfl)
                (try simp only [Act.put, List.setIfInBounds_toArray, List.set_cons_zero, List.set_cons_succ])
                refine wpAnyH_take (i := 6) (oi := { dst := some 75, op := Op.load 43 (Operand.tmp 11), type := 43, pos := "safe.go:217", after := #[], guard := none }) (v := ?_) rfl (by kernel_rfl) (by kernel_rfl) (by kernel_rfl) (fun _ _ _ h => h) (Or.inl ⟨by rfl, ?_⟩) (by assumption) ?_
                rotate_left
                · intro wz hSz; (try dsimp only at hSz); go_simp; all_goals (with_reducible rfl)
                (try simp only [Act.put, List.setIfInBounds_toArray, List.set_cons_zero, List.set_cons_succ])
                refine wpAnyH_ready (rs := [5]) (by kernel_rfl) (by simp) ?_
                refine AllReadyH.cons (o := { dst := some 74, op := Op.call { callee := Callee.value (Operand.func 15), args := #[Operand.tmp 69, Operand.tmp 73], argTypes := #[28, 9] }, type := 43, pos := "safe.go:217", after := #[{ on := 0, ground := Ground.data }, { on := 4, ground := Ground.data }], guard := none }) rfl (fun K hK => ?_) AllReadyH.nil
                go_simp
                go_at_call 15
                (with_reducible refine Calls.mono h15 ?_)
                rintro e w5 ⟨vl', rfl, q1, -, q2⟩
                have S2 := hS.fed q1 q2
                have XW2 : Has w5 wr.heap.size #[.int .i64 0, .int .i64 0, .int .i64 0, .int .i64 0] := XW.only q2 nW
                have p0'' := (S2.be.cell (p := ⟨g0, _, none⟩) hg0).trans P0
                go_wp2_with fail
                refine hK.out _ _ ?_ (fun hHeld => ?_)
                · (try dsimp only)
                  exact ⟨p0'', XW2.reads rfl, XW2.reads rfl, XW2.reads rfl, XW2.reads rfl⟩
                clear hK K
                (try simp only [Act.put, List.setIfInBounds_toArray, List.set_cons_zero, List.set_cons_succ])
                refine wpAnyH_take (i := 7) (oi := { dst := some 76, op := Op.binOp BinOp.neq 43 (Operand.tmp 74) (Operand.tmp 75) 43, type := 4, pos := "safe.go:217", after := #[{ on := 5, ground := Ground.data }, { on := 6, ground := Ground.data }], guard := none }) (v := ?_) rfl (by kernel_rfl) (by kernel_rfl) (by kernel_rfl) (fun _ _ _ h => h) (Or.inl ⟨by rfl, ?_⟩) (by assumption) ?_
                rotate_left
                · intro wz hSz; (try dsimp only at hSz); go_simp; all_goals (with_reducible rfl)
                (try simp only [Act.put, List.setIfInBounds_toArray, List.set_cons_zero, List.set_cons_succ])
                refine wpAnyH_done (by kernel_rfl) ?_ _
                refine NoPanic.normal ?_
                clear h15 hS XW XW2 p0' p0'' hHeld
                have XN : Has (w5.alloc (.cells #[.int .i64 X.k, .int .i64 X.t, .int .i64 X.a, .int .i64 X.b] 43)) w5.heap.size #[.int .i64 X.k, .int .i64 X.t, .int .i64 X.a, .int .i64 X.b] := Has.new _ _ _ rfl
                have S3 := S2.below (belN1 (o1 := .cells #[.int .i64 X.k, .int .i64 X.t, .int .i64 X.a, .int .i64 X.b] 43))
                obtain ⟨_, i1, _⟩ := id S2.x
                go_upto_region 21 with fail
                generalize (w5.alloc (.cells #[.int .i64 X.k, .int .i64 X.t, .int .i64 X.a, .int .i64 X.b] 43)) = V7 at *
                replace S3 := S3.drew
                replace XN := XN.drew
                have h16 := tripped_any (Mo.alias S3.mo)
                rw [eN] at h16

                clear i1 S2
                refine wp_region_noPanic ?_
                refine wp_region_held_drew (S := fun w' => w'.cell? ⟨w5.heap.size, 0, none⟩ = some (.int .i64 X.k) ∧ w'.cell? ⟨w5.heap.size, 1, none⟩ = some (.int .i64 X.t) ∧ w'.cell? ⟨w5.heap.size, 2, none⟩ = some (.int .i64 X.a) ∧ w'.cell? ⟨w5.heap.size, 3, none⟩ = some (.int .i64 X.b)) (by kernel_rfl) ?_ (fun hHeld => ?_)
                · (try dsimp only)
                  exact ⟨XN.reads rfl, XN.reads rfl, XN.reads rfl, XN.reads rfl⟩
                refine wpAnyH_take (i := 0) (oi := { dst := some 88, op := Op.move (Operand.tmp 7), type := 28, pos := "safe.go:224", after := #[], guard := none }) (v := ?_) rfl (by kernel_rfl) (by kernel_rfl) (by kernel_rfl) (fun _ _ _ h => h) (Or.inl ⟨by rfl, ?_⟩) (by assumption) ?_
                rotate_left
                · intro wz hSz; (try dsimp only at hSz); go_simp; all_goals (with_reducible rfl)
                (try simp only [Act.put, List.setIfInBounds_toArray, List.set_cons_zero, List.set_cons_succ])
                refine wpAnyH_take (i := 2) (oi := { dst := some 90, op := Op.load 43 (Operand.tmp 12), type := 43, pos := "safe.go:224", after := #[], guard := none }) (v := ?_) rfl (by kernel_rfl) (by kernel_rfl) (by kernel_rfl) (fun _ _ _ h => h) (Or.inl ⟨by rfl, ?_⟩) (by assumption) ?_
                rotate_left
                · intro wz hSz; (try dsimp only at hSz); go_simp; all_goals (with_reducible rfl)
                (try simp only [Act.put, List.setIfInBounds_toArray, List.set_cons_zero, List.set_cons_succ])
                refine wpAnyH_ready (rs := [1]) (by kernel_rfl) (by simp) ?_
                refine AllReadyH.cons (o := { dst := some 89, op := Op.call { callee := Callee.value (Operand.func 16), args := #[Operand.tmp 88], argTypes := #[28] }, type := 43, pos := "safe.go:224", after := #[{ on := 0, ground := Ground.data }], guard := none }) rfl (fun K hK => ?_) AllReadyH.nil
                go_simp
                go_at_call 16
                (with_reducible refine Calls.mono h16 ?_)
                rintro e w6 ⟨rfl, hb6⟩
                replace S3 := S3.below hb6
                have XN2 := XN.below hb6
                go_wp2_with fail
                refine hK.out _ _ ?_ (fun hHeld => ?_)
                · (try dsimp only)
                  exact ⟨XN2.reads rfl, XN2.reads rfl, XN2.reads rfl, XN2.reads rfl⟩
                clear hK K
                (try simp only [Act.put, List.setIfInBounds_toArray, List.set_cons_zero, List.set_cons_succ])
                refine wpAnyH_take (i := 3) (oi := { dst := some 91, op := Op.binOp BinOp.neq 43 (Operand.tmp 89) (Operand.tmp 90) 43, type := 4, pos := "safe.go:224", after := #[{ on := 1, ground := Ground.data }, { on := 2, ground := Ground.data }], guard := none }) (v := ?_) rfl (by kernel_rfl) (by kernel_rfl) (by kernel_rfl) (fun _ _ _ h => h) (Or.inl ⟨by rfl, ?_⟩) (by assumption) ?_
                rotate_left
                · intro wz hSz; (try dsimp only at hSz); go_simp; all_goals (with_reducible rfl)
                (try simp only [Act.put, List.setIfInBounds_toArray, List.set_cons_zero, List.set_cons_succ])
                refine wpAnyH_done (by kernel_rfl) ?_ _
                refine NoPanic.normal ?_
                go_wp2_with fail
                go_roundg g
                case measure => omega
                case rel => exact ⟨i + 1, vl', st', by omega, by push_cast; rfl, S3, jv', hok.next' es⟩

              · have hXl' : (i : Int) < X.t := by omega
                have hnN : ¬ (X.k ≠ 0 ∧ X.t < ((i + 1 : Nat) : Int)) := fun c => by omega
                have eA : fdA R C st s = al0 := by rw [jn.1]; rw [if_neg hnW]
                have eN : st'.tr = al0 := by rw [jv'.tr]; rw [if_neg hnN]
                clear jn
                clear hXi hnW hnN hXl
                have XW : Has (wr.alloc (.cells #[.int .i64 0, .int .i64 0, .int .i64 0, .int .i64 0] 43)) wr.heap.size #[.int .i64 0, .int .i64 0, .int .i64 0, .int .i64 0] := Has.new _ _ _ rfl
                have S1 := hS0.below (belN1 (o1 := .cells #[.int .i64 0, .int .i64 0, .int .i64 0, .int .i64 0] 43))
                go_upto_region 16 with fail
                generalize (wr.alloc (.cells #[.int .i64 0, .int .i64 0, .int .i64 0, .int .i64 0] 43)) = V6 at *
                have hS := S1.drew
                replace XW := XW.drew
                have p0' : V6.cell? ⟨g0, o0 + i, none⟩ = some (.string s) := (S1.be.cell (p := ⟨g0, _, none⟩) hg0).trans P0
                have h15 := hfeed V6.drew lo lb lb b B vg' vc' vl st i s hS.mo hok (by omega) hlen
                have nW : ¬ (wr.heap.size = b ∨ wr.heap.size = B ∨ vl.ownBlock = some wr.heap.size) := hS0.mo.notfp (Nat.le_refl _)
                rw [eA, es] at h15
                dsimp only [al0] at h15
                clear S1 i1
                refine wp_region_noPanic ?_
                refine wp_region_held_drew (S := fun w' => w'.cell? ⟨g0, o0 + i, none⟩ = some (.string s) ∧ w'.cell? ⟨wr.heap.size, 0, none⟩ = some (.int .i64 0) ∧ w'.cell? ⟨wr.heap.size, 1, none⟩ = some (.int .i64 0) ∧ w'.cell? ⟨wr.heap.size, 2, none⟩ = some (.int .i64 0) ∧ w'.cell? ⟨wr.heap.size, 3, none⟩ = some (.int .i64 0)) (by kernel_rfl) ?_ (fun hHeld => ?_)
                · (try dsimp only)
                  exact ⟨p0', XW.reads rfl, XW.reads rfl, XW.reads rfl, XW.reads rfl⟩
                refine wpAnyH_take (i := 0) (oi := { dst := some 69, op := Op.move (Operand.tmp 7), type := 28, pos := "safe.go:217", after := #[], guard := none }) (v := ?_) rfl (by kernel_rfl) (by kernel_rfl) (by kernel_rfl) (fun _ _ _ h => h) (Or.inl ⟨by rfl, ?_⟩) (by assumption) ?_
                rotate_left
                · intro wz hSz; (try dsimp only at hSz); go_simp; all_goals (with_reducible rfl)
                (try simp only [Act.put, List.setIfInBounds_toArray, List.set_cons_zero, List.set_cons_succ])
                refine wpAnyH_take (i := 1) (oi := { dst := some 70, op := Op.move (Operand.tmp 1), type := 47, pos := "safe.go:217", after := #[], guard := none }) (v := ?_) rfl (by kernel_rfl) (by kernel_rfl) (by kernel_rfl) (fun _ _ _ h => h) (Or.inl ⟨by rfl, ?_⟩) (by assumption) ?_
                rotate_left
                · intro wz hSz; (try dsimp only at hSz); go_simp; all_goals (with_reducible rfl)
                (try simp only [Act.put, List.setIfInBounds_toArray, List.set_cons_zero, List.set_cons_succ])
                refine wpAnyH_take (i := 2) (oi := { dst := some 71, op := Op.move (Operand.tmp 10), type := 3, pos := "safe.go:217", after := #[], guard := none }) (v := ?_) rfl (by kernel_rfl) (by kernel_rfl) (by kernel_rfl) (fun _ _ _ h => h) (Or.inl ⟨by rfl, ?_⟩) (by assumption) ?_
                rotate_left
                · intro wz hSz; (try dsimp only at hSz); go_simp; all_goals (with_reducible rfl)
                (try simp only [Act.put, List.setIfInBounds_toArray, List.set_cons_zero, List.set_cons_succ])
                refine wpAnyH_take (i := 3) (oi := { dst := some 72, op := Op.indexAddr 47 (Operand.tmp 70) (Operand.tmp 71), type := 0, pos := "safe.go:217", after := #[{ on := 1, ground := Ground.data }, { on := 2, ground := Ground.data }], guard := none }) (v := ?_) rfl (by kernel_rfl) (by kernel_rfl) (by kernel_rfl) (fun _ _ _ h => h) (Or.inl ⟨by rfl, ?_⟩) (by assumption) ?_
                rotate_left
                · intro wz hSz; (try dsimp only at hSz); go_simp; all_goals (with_reducible rfl)
                (try simp only [Act.put, List.setIfInBounds_toArray, List.set_cons_zero, List.set_cons_succ])
                refine wpAnyH_take (i := 4) (oi := { dst := some 73, op := Op.load 9 (Operand.tmp 72), type := 9, pos := "safe.go:217", after := #[{ on := 3, ground := Ground.data }], guard := none }) (v := ?_) rfl (by kernel_rfl) (by kernel_rfl) (by kernel_rfl) (fun _ _ _ h => h) (Or.inl ⟨by rfl, ?_⟩) (by assumption) ?_
                rotate_left
                · intro wz hSz; (try dsimp only at hSz); go_simp; all_goals (with_reducible rfl)
                (try simp only [Act.put, List.setIfInBounds_toArray, List.set_cons_zero, List.set_cons_succ])
                refine wpAnyH_take (i := 6) (oi := { dst := some 75, op := Op.load 43 (Operand.tmp 11), type := 43, pos := "safe.go:217", after := #[], guard := none }) (v := ?_) rfl (by kernel_rfl) (by kernel_rfl) (by kernel_rfl) (fun _ _ _ h => h) (Or.inl ⟨by rfl, ?_⟩) (by assumption) ?_
                rotate_left
                · intro wz hSz; (try dsimp only at hSz); go_simp; all_goals (with_reducible rfl)
                (try simp only [Act.put, List.setIfInBounds_toArray, List.set_cons_zero, List.set_cons_succ])
                refine wpAnyH_ready (rs := [5]) (by kernel_rfl) (by simp) ?_
                refine AllReadyH.cons (o := { dst := some 74, op := Op.call { callee := Callee.value (Operand.func 15), args := #[Operand.tmp 69, Operand.tmp 73], argTypes := #[28, 9] }, type := 43, pos := "safe.go:217", after := #[{ on := 0, ground := Ground.data }, { on := 4, ground := Ground.data }], guard := none }) rfl (fun K hK => ?_) AllReadyH.nil
                go_simp
                go_at_call 15
                (with_reducible refine Calls.mono h15 ?_)
                rintro e w5 ⟨vl', rfl, q1, -, q2⟩
                have S2 := hS.fed q1 q2
                have XW2 : Has w5 wr.heap.size #[.int .i64 0, .int .i64 0, .int .i64 0, .int .i64 0] := XW.only q2 nW
                have p0'' := (S2.be.cell (p := ⟨g0, _, none⟩) hg0).trans P0
                go_wp2_with fail
                refine hK.out _ _ ?_ (fun hHeld => ?_)
                · (try dsimp only)
                  exact ⟨p0'', XW2.reads rfl, XW2.reads rfl, XW2.reads rfl, XW2.reads rfl⟩
                clear hK K
                (try simp only [Act.put, List.setIfInBounds_toArray, List.set_cons_zero, List.set_cons_succ])
                refine wpAnyH_take (i := 7) (oi := { dst := some 76, op := Op.binOp BinOp.neq 43 (Operand.tmp 74) (Operand.tmp 75) 43, type := 4, pos := "safe.go:217", after := #[{ on := 5, ground := Ground.data }, { on := 6, ground := Ground.data }], guard := none }) (v := ?_) rfl (by kernel_rfl) (by kernel_rfl) (by kernel_rfl) (fun _ _ _ h => h) (Or.inl ⟨by rfl, ?_⟩) (by assumption) ?_
                rotate_left
                · intro wz hSz; (try dsimp only at hSz); go_simp; all_goals (with_reducible rfl)
                (try simp only [Act.put, List.setIfInBounds_toArray, List.set_cons_zero, List.set_cons_succ])
                refine wpAnyH_done (by kernel_rfl) ?_ _
                refine NoPanic.normal ?_
                clear h15 hS XW XW2 p0' p0'' hHeld
                have XN : Has (w5.alloc (.cells #[.int .i64 0, .int .i64 0, .int .i64 0, .int .i64 0] 43)) w5.heap.size #[.int .i64 0, .int .i64 0, .int .i64 0, .int .i64 0] := Has.new _ _ _ rfl
                have S3 := S2.below (belN1 (o1 := .cells #[.int .i64 0, .int .i64 0, .int .i64 0, .int .i64 0] 43))
                obtain ⟨_, i1, _⟩ := id S2.x
                go_upto_region 21 with fail
                generalize (w5.alloc (.cells #[.int .i64 0, .int .i64 0, .int .i64 0, .int .i64 0] 43)) = V7 at *
                replace S3 := S3.drew
                replace XN := XN.drew
                have h16 := tripped_any (Mo.alias S3.mo)
                rw [eN] at h16
                dsimp only [al0] at h16
                clear i1 S2
                refine wp_region_noPanic ?_
                refine wp_region_held_drew (S := fun w' => w'.cell? ⟨w5.heap.size, 0, none⟩ = some (.int .i64 0) ∧ w'.cell? ⟨w5.heap.size, 1, none⟩ = some (.int .i64 0) ∧ w'.cell? ⟨w5.heap.size, 2, none⟩ = some (.int .i64 0) ∧ w'.cell? ⟨w5.heap.size, 3, none⟩ = some (.int .i64 0)) (by kernel_rfl) ?_ (fun hHeld => ?_)
                · (try dsimp only)
                  exact ⟨XN.reads rfl, XN.reads rfl, XN.reads rfl, XN.reads rfl⟩
                refine wpAnyH_take (i := 0) (oi := { dst := some 88, op := Op.move (Operand.tmp 7), type := 28, pos := "safe.go:224", after := #[], guard := none }) (v := ?_) rfl (by kernel_rfl) (by kernel_rfl) (by kernel_rfl) (fun _ _ _ h => h) (Or.inl ⟨by rfl, ?_⟩) (by assumption) ?_
                rotate_left
                · intro wz hSz; (try dsimp only at hSz); go_simp; all_goals (with_reducible rfl)
                (try simp only [Act.put, List.setIfInBounds_toArray, List.set_cons_zero, List.set_cons_succ])
                refine wpAnyH_take (i := 2) (oi := { dst := some 90, op := Op.load 43 (Operand.tmp 12), type := 43, pos := "safe.go:224", after := #[], guard := none }) (v := ?_) rfl (by kernel_rfl) (by kernel_rfl) (by kernel_rfl) (fun _ _ _ h => h) (Or.inl ⟨by rfl, ?_⟩) (by assumption) ?_
                rotate_left
                · intro wz hSz; (try dsimp only at hSz); go_simp; all_goals (with_reducible rfl)
                (try simp only [Act.put, List.setIfInBounds_toArray, List.set_cons_zero, List.set_cons_succ])
                refine wpAnyH_ready (rs := [1]) (by kernel_rfl) (by simp) ?_
                refine AllReadyH.cons (o := { dst := some 89, op := Op.call { callee := Callee.value (Operand.func 16), args := #[Operand.tmp 88], argTypes := #[28] }, type := 43, pos := "safe.go:224", after := #[{ on := 0, ground := Ground.data }], guard := none }) rfl (fun K hK => ?_) AllReadyH.nil
                go_simp
                go_at_call 16
                (with_reducible refine Calls.mono h16 ?_)
                rintro e w6 ⟨rfl, hb6⟩
                replace S3 := S3.below hb6
                have XN2 := XN.below hb6
                go_wp2_with fail
                refine hK.out _ _ ?_ (fun hHeld => ?_)
                · (try dsimp only)
                  exact ⟨XN2.reads rfl, XN2.reads rfl, XN2.reads rfl, XN2.reads rfl⟩
                clear hK K
                (try simp only [Act.put, List.setIfInBounds_toArray, List.set_cons_zero, List.set_cons_succ])
                refine wpAnyH_take (i := 3) (oi := { dst := some 91, op := Op.binOp BinOp.neq 43 (Operand.tmp 89) (Operand.tmp 90) 43, type := 4, pos := "safe.go:224", after := #[{ on := 1, ground := Ground.data }, { on := 2, ground := Ground.data }], guard := none }) (v := ?_) rfl (by kernel_rfl) (by kernel_rfl) (by kernel_rfl) (fun _ _ _ h => h) (Or.inl ⟨by rfl, ?_⟩) (by assumption) ?_
                rotate_left
                · intro wz hSz; (try dsimp only at hSz); go_simp; all_goals (with_reducible rfl)
                (try simp only [Act.put, List.setIfInBounds_toArray, List.set_cons_zero, List.set_cons_succ])
                refine wpAnyH_done (by kernel_rfl) ?_ _
                refine NoPanic.normal ?_
                go_wp2_with fail
                go_roundg g
                case measure => omega
                case rel => exact ⟨i + 1, vl', st', by omega, by push_cast; rfl, S3, jv', hok.next' es⟩


end Go.Proofs.Ytoaokpmnjppfcaa
