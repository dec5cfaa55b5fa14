import Derived.Test.YtnicolaphmffkaaGreatDoorMaH
import Derived.Test.YtnicolaphmffkaaGreatDoorRtG
import Derived.Test.YtnicolaphmffkaaGreatDoorRcC
import Derived.Test.YtnicolaphmffkaaGreatDoorLxC
namespace Go.Proofs.YtnicolaphmffkaaGreatDoor
open Go.RowKit
set_option linter.unusedVariables false
set_option linter.unusedSimpArgs false


theorem vB_F (S : List Bool) : vB S = cellsF bC S := by
  induction S with
  | nil => rfl
  | cons x S ih => unfold vB cellsF at *; simp only [List.map_cons, List.flatMap_cons, ih]; rfl
theorem ReP.uni {ok : Bool} {SG : List Ts} {stt : Int} {w w' : World} {e : Ending} (h : ReP ok SG stt w e w') (hk : ok = true → SG.length ≤ 256) : ∃ (a : Option Addr) (c : Nat) (S : List Bool) (er : Int), e = .returned (.tuple #[.slice a S.length c, .int .i64 er]) ∧ w'.ownsRow w.heap.size 4 1 (.slice a S.length c) S.length (vB S) ∧ Below w.heap.size w w' ∧ er = (if ok then 0 else 80) ∧ (ok = true → RI (waysL SG).length stt.toNat (goN (waysL SG)) S []) ∧ (ok = false → S = []) ∧ S.length ≤ 256 := by
  unfold ReP at h
  cases ok with
  | true =>
    obtain ⟨g, S, rfl, h1, h2, h3⟩ := h
    have hl : S.length = SG.length := by rw [h2.len, ways_len]
    rw [← hl] at h1
    exact ⟨_, S.length, S, 0, by rw [hl], h1, h3, rfl, fun _ => h2, fun h => (by cases h), by rw [hl]; exact hk rfl⟩
  | false =>
    obtain ⟨rfl, h3⟩ := h
    exact ⟨none, 0, [], 80, rfl, World.ownsRow_nil _ _ _ _, h3, rfl, fun h => (by cases h), fun _ => rfl, by simp⟩
theorem RrP.uni {ok : Bool} {SG : List Ts} {stt : Int} {w w' : World} {e : Ending} {S : List Bool} (h : RrP ok SG stt w e w') (hS : ok = true → RI (waysL SG).length stt.toNat (goN (waysL SG)) S []) (hS0 : ok = false → S = []) : ∃ (a : Option Addr) (c : Nat), e = .returned (.tuple #[.slice a S.length c, .int .i64 (if ok then 0 else 80)]) ∧ w'.ownsRow w.heap.size 4 1 (.slice a S.length c) S.length (vB S) ∧ Below w.heap.size w w' ∧ (ok = true → ∀ S', RI (waysL SG).length stt.toNat (goN (waysL SG)) S' [] → S' = S) := by
  unfold RrP at h
  cases ok with
  | true =>
    obtain ⟨g, S2, rfl, h1, h2, h3⟩ := h
    obtain rfl := h2 S (hS rfl)
    have hl : S.length = SG.length := by rw [(hS rfl).len, ways_len]
    rw [← hl] at h1
    exact ⟨_, S.length, by rw [hl]; rfl, h1, h3, fun _ => h2⟩
  | false =>
    obtain ⟨rfl, h3⟩ := h
    obtain rfl := hS0 rfl
    exact ⟨none, 0, rfl, World.ownsRow_nil _ _ _ _, h3, fun h => (by cases h)⟩
theorem fl_row {w : World} {base : Nat} {v : Value} {S : List Bool} (h : w.ownsRow base 4 1 v S.length (vB S)) : Fl 1 bC w v S := fl_ofK bC_len (by rw [← vB_F]; exact h)
set_option maxRecDepth 100000 in
set_option maxHeartbeats 8000000 in
theorem reaches_law (G : List Gp) (C : List Cf) (D : List Dt) (TM CT : List ByteArray) (VR : List Vr) (SG : List Ts) (pn : ByteArray) (ga ca da ta ka va sa : Option Addr) (gc cc dc tc kc vc sc : Nat) (stt : Int) (w : World) (hP : TPl w G C D TM CT VR SG pn ga ca da ta ka va sa gc cc dc tc kc vc sc stt) (tb : Tb w) (lG : G.length ≤ 2932031007317) (lF : C.length ≤ 4398046511000) (lD : D.length ≤ 3518437208780) (lT : TM.length ≤ 8796093022100) (lC : CT.length ≤ 8796093022100) (lV : VR.length ≤ 5864062014700) (lS : SG.length ≤ 1099511627744)
    (k11 : ∀ X : World, Below w.heap.size w X → Calls Tryz.prog 11 #[(.agg #[.string pn, .slice ga G.length gc, .slice ca C.length cc, .slice da D.length dc, .slice ta TM.length tc, .slice ka CT.length kc, .slice va VR.length vc, .slice sa SG.length sc, .int .i64 stt])] X fun e w' => e = .returned (.bool (sdB G C D TM CT VR SG pn stt)) ∧ Below X.heap.size X w') :
    Calls Tryz.prog 4 #[.agg #[.string pn, .slice ga G.length gc, .slice ca C.length cc, .slice da D.length dc, .slice ta TM.length tc, .slice ka CT.length kc, .slice va VR.length vc, .slice sa SG.length sc, .int .i64 stt]] w fun e w' => e = .returned (.bool true) ∧ Below w.heap.size w w' := by
  obtain ⟨ti, hi, hiv⟩ := Option.map_eq_some_iff.1 info4
  injection hiv with hi0 hiv
  injection hiv with hi1 hi2
  have hb0 : Below w.heap.size w (w.alloc (.cells #[.string pn, .slice ga G.length gc, .slice ca C.length cc, .slice da D.length dc, .slice ta TM.length tc, .slice ka CT.length kc, .slice va VR.length vc, .slice sa SG.length sc, .int .i64 stt] 31)) := bel1 _
  have K0 : Has (w.alloc (.cells #[.string pn, .slice ga G.length gc, .slice ca C.length cc, .slice da D.length dc, .slice ta TM.length tc, .slice ka CT.length kc, .slice va VR.length vc, .slice sa SG.length sc, .int .i64 stt] 31)) w.heap.size #[.string pn, .slice ga G.length gc, .slice ca C.length cc, .slice da D.length dc, .slice ta TM.length tc, .slice ka CT.length kc, .slice va VR.length vc, .slice sa SG.length sc, .int .i64 stt] := Has.new _ _ _ rfl
  have P0 := hP.below hb0
  have k17 := roomyTyped_any G C D TM CT VR SG pn ga ca da ta ka va sa gc cc dc tc kc vc sc stt (w.alloc (.cells #[.string pn, .slice ga G.length gc, .slice ca C.length cc, .slice da D.length dc, .slice ta TM.length tc, .slice ka CT.length kc, .slice va VR.length vc, .slice sa SG.length sc, .int .i64 stt] 31)) P0.hG P0.hF P0.hD P0.hT P0.hC P0.hV P0.hS lG lF lD lT lC lV lS
  have hk1 : sdB G C D TM CT VR SG pn stt = true → SG.length ≤ 256 := fun h => (sd_ways h).1
  have k18 := hideG (fun (g1 d1 g2 d2 gS cS : Nat) (a3 a4 a5 a6 : Option Addr) (c3 c4 c5 c6 : Nat) (X : World) (hX : Below w.heap.size w X) (h : TPl X G C D TM CT VR SG pn (some ⟨g1, 0, none⟩) (some ⟨g2, 0, none⟩) a3 a4 a5 a6 (some ⟨gS, 0, none⟩) d1 d2 c3 c4 c5 c6 cS stt) => reach_any G C D TM CT VR SG pn _ _ _ _ _ _ _ _ _ _ _ _ _ _ stt X h (tb.wt.be hX))
  have k19 := hideG (fun (X : World) (hX : Below w.heap.size w X) => refReach_any G C D TM CT VR SG pn ga ca da ta ka va sa gc cc dc tc kc vc sc stt X (Tss.below hP.hS hX) (fun Z hZ => k11 Z (bel_after hX hX.size hZ)))
  have hP' := hideG hP
  clear hP P0 k11 tb
  generalize hok : sdB G C D TM CT VR SG pn stt = ok at *
  clear hok
  go_enter Tryz.func4, Tryz.ntmps4
  go_wp2_with fail
  go_at_call 17
  refine Calls.mono k17 ?_
  rintro e w1 ⟨⟨g1, d1, g2, d2, gS, cS, a3, a4, a5, a6, na, c3, c4, c5, c6, nc, Ls, rfl, hR⟩, hb1⟩
  have hb1' := hb1
  have hb1 := bel_after hb0 hb0.size hb1
  have K0 := K0.below hb1'
  clear k17 hb0
  go_wp2_with fail
  have hbX : Below w1.heap.size w1 ((w1.alloc (.cells #[.string pn, .slice (some ⟨g1, 0, none⟩) G.length d1, .slice (some ⟨g2, 0, none⟩) C.length d2, .slice a3 D.length c3, .slice a4 TM.length c4, .slice a5 CT.length c5, .slice a6 VR.length c6, .slice (some ⟨gS, 0, none⟩) SG.length cS, .int .i64 stt] 31)).alloc (.cells #[.slice (some ⟨g1, 0, none⟩) (G.length + 2) d1, .slice (some ⟨g2, 0, none⟩) (C.length + 2) d2, .slice (some ⟨gS, 0, none⟩) (SG.length + 2) cS, .slice na SG.length nc] 62)) := ((Below.refl _ _).alloc (Nat.le_refl _) _).alloc (by simp) _
  have HG : Has ((w1.alloc (.cells #[.string pn, .slice (some ⟨g1, 0, none⟩) G.length d1, .slice (some ⟨g2, 0, none⟩) C.length d2, .slice a3 D.length c3, .slice a4 TM.length c4, .slice a5 CT.length c5, .slice a6 VR.length c6, .slice (some ⟨gS, 0, none⟩) SG.length cS, .int .i64 stt] 31)).alloc (.cells #[.slice (some ⟨g1, 0, none⟩) (G.length + 2) d1, .slice (some ⟨g2, 0, none⟩) (C.length + 2) d2, .slice (some ⟨gS, 0, none⟩) (SG.length + 2) cS, .slice na SG.length nc] 62)) w1.heap.size #[.string pn, .slice (some ⟨g1, 0, none⟩) G.length d1, .slice (some ⟨g2, 0, none⟩) C.length d2, .slice a3 D.length c3, .slice a4 TM.length c4, .slice a5 CT.length c5, .slice a6 VR.length c6, .slice (some ⟨gS, 0, none⟩) SG.length cS, .int .i64 stt] := (Has.new w1 #[.string pn, .slice (some ⟨g1, 0, none⟩) G.length d1, .slice (some ⟨g2, 0, none⟩) C.length d2, .slice a3 D.length c3, .slice a4 TM.length c4, .slice a5 CT.length c5, .slice a6 VR.length c6, .slice (some ⟨gS, 0, none⟩) SG.length cS, .int .i64 stt] 31 rfl).alloc _
  have HM : Has ((w1.alloc (.cells #[.string pn, .slice (some ⟨g1, 0, none⟩) G.length d1, .slice (some ⟨g2, 0, none⟩) C.length d2, .slice a3 D.length c3, .slice a4 TM.length c4, .slice a5 CT.length c5, .slice a6 VR.length c6, .slice (some ⟨gS, 0, none⟩) SG.length cS, .int .i64 stt] 31)).alloc (.cells #[.slice (some ⟨g1, 0, none⟩) (G.length + 2) d1, .slice (some ⟨g2, 0, none⟩) (C.length + 2) d2, .slice (some ⟨gS, 0, none⟩) (SG.length + 2) cS, .slice na SG.length nc] 62)) (w1.heap.size + 1) #[.slice (some ⟨g1, 0, none⟩) (G.length + 2) d1, .slice (some ⟨g2, 0, none⟩) (C.length + 2) d2, .slice (some ⟨gS, 0, none⟩) (SG.length + 2) cS, .slice na SG.length nc] := Has.new _ _ _ (by simp)
  have hb2 := bel_after hb1 hb1.size hbX
  have K0 := K0.below hbX
  have hR := hR.below hbX
  clear hbX hb1 hb1'
  generalize ((w1.alloc (.cells #[.string pn, .slice (some ⟨g1, 0, none⟩) G.length d1, .slice (some ⟨g2, 0, none⟩) C.length d2, .slice a3 D.length c3, .slice a4 TM.length c4, .slice a5 CT.length c5, .slice a6 VR.length c6, .slice (some ⟨gS, 0, none⟩) SG.length cS, .int .i64 stt] 31)).alloc (.cells #[.slice (some ⟨g1, 0, none⟩) (G.length + 2) d1, .slice (some ⟨g2, 0, none⟩) (C.length + 2) d2, .slice (some ⟨gS, 0, none⟩) (SG.length + 2) cS, .slice na SG.length nc] 62)) = X at *
  go_at_call 18
  refine Calls.mono (k18.out g1 d1 g2 d2 gS cS a3 a4 a5 a6 c3 c4 c5 c6 X hb2 (hR.tpl (hP'.out.below hb2))) ?_
  intro e w3 hA
  obtain ⟨al, cl, S, er, rfl, O1, h3, her, hS1', hS0', hSl⟩ := hA.uni hk1
  have her' := hideG her
  have hS1 := hideG hS1'
  have hS0 := hideG hS0'
  clear her hA hS1' hS0'
  have hb3 := bel_after hb2 hb2.size h3
  have K3 := K0.below h3
  obtain ⟨_, b0, _⟩ := id K3
  go_wp2_with fail
  go_at_call 19
  refine Calls.mono (k19.out w3 hb3) ?_
  intro e w4 hA
  obtain ⟨am, cm, e2, O2, h4, hU⟩ := hA.uni hS1.out hS0.out
  have hU := hideG hU
  rw [← her'.out] at e2
  subst e2
  have own_ltA := fun q e => (own_lt O1 q e).2
  have O1 := own_bel O1 h4
  have h34 := bel_after h3 h3.size h4
  have hb4 := bel_after hb2 hb2.size h34
  clear b0 hA
  go_wp2_with fail
  go_at_call 20
  (with_reducible refine Calls.mono (truths_any S _ _ w4 (fl_row O1) (fl_row O2) (by omega)) ?_)
  rintro e w5 ⟨rfl, h5⟩
  have O1 := own_bel O1 h5
  have O2 := own_bel O2 h5
  have h35 := bel_after h34 h34.size h5
  have hz3 := h3.size
  have hAp : ∀ q, (Value.slice am S.length cm).ownBlock = some q → (Value.slice al S.length cl).ownBlock ≠ some q := fun q hq e => by have q1 := (own_lt O2 q hq).1; have q2 := own_ltA q e; omega
  have hz34 : w3.heap.size ≤ w4.heap.size := h4.size
  go_wp2_with fail
  go_loopg [9] S.length (fun gk s9 wr => ∃ (k : Nat) (T : List Bool), k + gk = S.length ∧ s9 = .int .i64 (k : Int) ∧ Hid (T.length = S.length) ∧ Hid (wr.ownsRow X.heap.size 4 1 (.slice al S.length cl) S.length (vB T)) ∧ Hid (wr.ownsRow w3.heap.size 4 1 (.slice am S.length cm) S.length (vB S)) ∧ Hid (Below X.heap.size X wr))
  case atStart => exact ⟨0, S, by omega, rfl, rfl, O1, O2, h35⟩
  case round =>
    obtain ⟨k, T, hk, rfl, hT, oT, oM, hX⟩ := hrel
    by_cases hlt : k < S.length
    · obtain ⟨gl, _, e1, _, hgl, hgl2⟩ := own_block oT.out (by omega)
      injection e1 with e1 e2 e3
      subst e1
      clear e2 e3
      have hTl := hT.out
      have z0 := (oT.out.cellAt k (by omega)).trans (vB_get (by omega : k < T.length))
      have z1 := oT.out.frozenAt k
      have t1 : (k : Int) < (S.length : Int) := by omega
      have t0 : (0 : Int) ≤ (k : Int) := by omega
      have hglO := (own_lt O1 gl rfl).2
      generalize T[k]'(by omega) = x at *
      have oT2 := (oT.out.stored k (.bool (!x))).1
      have eS : (vB T).set k (.bool (!x)) = vB (T.set k (!x)) := by unfold vB; rw [List.map_set]
      rw [eS] at oT2
      have oT3 : Hid (World.ownsRow _ _ _ _ _ _ _) := oT2
      have hne : ∀ q, (Value.slice am S.length cm).ownBlock = some q → ¬ (q = gl) := fun q hq e => hAp q hq (by rw [e]; rfl)
      have oM2 : Hid (World.ownsRow _ _ _ _ _ _ _) := own_only2 oM.out (only_of_set wr gl k (.bool (!x))) hne
      have hX2 : Hid (Below X.heap.size X (wr.setCell ⟨gl, k, none⟩ (.bool (!x)))) := hX.out.setCell (p := ⟨gl, k, none⟩) hgl _
      have hT2 : Hid ((T.set k (!x)).length = S.length) := by show _ = _; rw [List.length_set]; exact hTl
      clear oT2 eS oT oM hX
      go_wp2_with fail
      go_roundg (gk - 1)
      case measure => go_light; omega
      case rel => exact ⟨k + 1, T.set k (!x), by omega, by go_num, hT2, oT3, oM2, hX2⟩
    · have t1 : ¬ (k : Int) < (S.length : Int) := by omega
      have hMl := fun q hq => (own_lt oM.out q hq).2
      go_wp2_with (first
        | (at_builtin; refine wpList_append_mine _ rfl _ _ 65 rfl X.heap.size 4 ti _ 1 1 Tryz.underlying65 hi hi0 hi1 hi2 rfl (by decide) (.slice al S.length cl) S.length (vB T) rfl (own_bel oT.out (bel1 _)) ⟨wr.heap.size, 0, none⟩ 1 1 [.bool true] rfl rfl (cells_at (W := wr) rfl _ _) (all_one rfl) (by decide) (by unfold maxLen; omega) (by omega) (by have := hX.out.size; simp; omega) ?_; intro g6 kk6 w6 o6 hg6 hat6 _ _; have oM6 := own_keepH (own_bel oM.out (bel1 _)) (fun q hq => hg6.block q (Nat.lt_of_lt_of_le (hMl q hq) (bel1 _).size) (fun e => hAp q hq e.symm)); have hX6 := grown_bel (bel_after hX.out hX.out.size (bel1 _)) hg6 (Nat.le_refl _) (fun q hq => (own_lt oT.out q hq).1); have hs6 := hg6.size)
        | (at_builtin; refine wpList_append_mine _ rfl _ _ 65 rfl X.heap.size 4 ti _ 1 1 Tryz.underlying65 hi hi0 hi1 hi2 rfl (by decide) (.slice (some ⟨g6, 0, none⟩) (S.length + 1) kk6) (S.length + 1) (vB T ++ [.bool true]) rfl (own_bel o6 (bel1 _)) ⟨w6.heap.size, 0, none⟩ 1 1 [.bool true] rfl rfl (cells_at (W := w6) rfl _ _) (all_one rfl) (by decide) (by unfold maxLen; omega) (by omega) (by have := hX6.size; simp; omega) ?_; intro g7 kk7 w7 o7 hg7 hat7 _ _; have oM7 := own_keepH (own_bel oM6 (bel1 _)) (fun q hq => hg7.block q (Nat.lt_of_lt_of_le (own_lt oM6 q hq).2 (bel1 _).size) (fun e => by have e' : g6 = q := (by injection e.symm); (rcases hat6 with h | h); (exact hAp q hq (by rw [h, e'])); (have z := hMl q hq; simp at h; omega))); have hX7 := grown_bel (bel_after hX6 hX6.size (bel1 _)) hg7 (Nat.le_refl _) (fun q hq => (own_lt o6 q hq).1); obtain ⟨_, j0, _⟩ := id (HG.below hX7)))
      have hb7 := bel_after hb2 hb2.size hX7
      clear o6 hg6 hat6 hX6 hs6 oM6 o7 hg7 hat7 oT oM hX hMl hAp own_ltA
      go_at_call 18
      refine Calls.mono (k18.out g1 d1 g2 d2 gS cS a3 a4 a5 a6 c3 c4 c5 c6 w7 hb7 ((hR.below hX7).tpl (hP'.out.below hb7))) ?_
      intro e w8 hA
      obtain ⟨a8, c8, S8, er8, rfl, O8, h8, her8, hS8, hS80, _⟩ := hA.uni hk1
      have eS8 : S8 = S := by
        cases ok with
        | true => exact hU.out rfl S8 (hS8 rfl)
        | false => rw [hS80 rfl, hS0.out rfl]
      have eE8 : er8 = er := by rw [her8, her'.out]
      have her9 := hideG her8
      have hS9 := hideG hS8
      have hS90 := hideG hS80
      clear her8 hS8 hS80
      subst eS8
      subst eE8
      have hX8 := bel_after hX7 hX7.size h8
      have hb8 := bel_after hb2 hb2.size hX8
      have oM8 := own_bel oM7 h8
      clear j0 hA her' hS1 hS0 hU her9 hS9 hS90
      go_wp2_with fail
      go_at_call 20
      (with_reducible refine Calls.mono (truths_any S8 _ _ w8 (fl_row O8) (fl_row oM8) (by omega)) ?_)
      rintro e w9 ⟨rfl, h9⟩
      have hX9 := bel_after hX8 hX8.size h9
      have hb9 := bel_after hb2 hb2.size hX9
      obtain ⟨_, j0, _⟩ := id (HG.below hX9)
      obtain ⟨_, j1, _⟩ := id (K0.below hX9)
      have tp := (hR.below hX9).tpl (hP'.out.below hb9)
      have tq := hP'.out.below hb9
      go_wp2_with fail
      go_at_call 14
      (with_reducible refine Calls.mono (sameTyped_any G C D TM CT VR SG pn _ _ _ _ _ _ _ _ _ _ _ _ _ _ _ _ _ _ _ _ _ _ _ _ _ _ _ _ stt w9 tp.hG tp.hF tp.hD tp.hT tp.hC tp.hV tp.hS tq.hG tq.hF tq.hD tq.hT tq.hC tq.hV tq.hS (by omega) lF lT lC (by omega) (by omega) (by omega)) ?_)
      rintro e w10 ⟨rfl, h10⟩
      have hX10 := bel_after hX9 hX9.size h10
      have hb10 := bel_after hb2 hb2.size hX10
      clear j0 j1
      obtain ⟨_, j0, _⟩ := id (HM.below hX10)
      go_wp2_with fail
      go_at_call 21
      (with_reducible refine Calls.mono (kept_any G C D TM CT VR SG g1 d1 g2 d2 gS cS a3 a4 a5 a6 na c3 c4 c5 c6 nc Ls w10 (hR.below hX10)) ?_)
      rintro e w11 ⟨rfl, h11⟩
      have hb11 := bel_after hb10 hb10.size h11
      go_wp2_with fail
      go_ret
      exact ⟨rfl, hb11⟩
end Go.Proofs.YtnicolaphmffkaaGreatDoor
