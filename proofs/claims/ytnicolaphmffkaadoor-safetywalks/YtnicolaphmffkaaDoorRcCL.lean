import Derived.Test.YtnicolaphmffkaaDoorRcB
import Derived.Test.YtnicolaphmffkaaDoorSnST
import Derived.Test.YtnicolaphmffkaaDoorFmM
namespace Go.Proofs.YtnicolaphmffkaaDoor
open Go.RowKit
set_option linter.unusedVariables false
set_option linter.unusedSimpArgs false

/-- A sound plan: its parts that a walk over its stages wants. -/
theorem sd_ways {G : List Gp} {C : List Cf} {D : List Dt} {TM CT : List ByteArray} {VR : List Vr} {SG : List Ts} {pn : ByteArray} {stt : Int} (h : sdB G C D TM CT VR SG pn stt = true) : SG.length ≤ 256 ∧ Ways SG ∧ 0 ≤ stt ∧ stt < (SG.length : Int) := by
  unfold sdB plB at h
  simp only [Bool.and_eq_true] at h
  obtain ⟨_, h2, _, _, h5, h6⟩ := h
  have h5' := h5
  simp only [decide_eq_true_eq] at h5'
  refine ⟨(ct_few h2).2.2.2.2, ?_, h5'.1, h5'.2⟩
  clear h2 h5 h5'
  have key : ∀ (L : List Ts) (n i : Nat) (last : Int), sgsZ ⟨G.length, D.length, TM.length, CT.length, VR.length⟩ n i last L = true → ∀ s ∈ L, ∀ x ∈ s.nexts, 0 ≤ x.dst ∧ x.dst < (n : Int) := by
    intro L
    induction L with
    | nil => intro n i last _ s hs; cases hs
    | cons y L ih =>
      intro n i last h s hs x hx
      unfold sgsZ at h
      rw [Bool.and_eq_true] at h
      rcases List.mem_cons.1 hs with rfl | hs
      · have h1 := h.1
        unfold sgZ at h1
        simp only [Bool.and_eq_true] at h1
        have h2 := List.all_eq_true.1 h1.2.2 x hx
        unfold nxZ plB at h2
        simp only [Bool.and_eq_true, decide_eq_true_eq] at h2
        exact h2.1
      · exact ih n (i + 1) y.id h.2 s hs x hx
  exact fun s hs x hx => key SG SG.length 0 (-1) h6 s hs x hx
theorem TPl.below {w w' : World} {G : List Gp} {C : List Cf} {D : List Dt} {TM CT : List ByteArray} {VR : List Vr} {SG : List Ts} {pn : ByteArray} {ga ca da ta ka va sa : Option Addr} {gc cc dc tc kc vc sc : Nat} {stt : Int} (h : TPl w G C D TM CT VR SG pn ga ca da ta ka va sa gc cc dc tc kc vc sc stt) (hb : Below w.heap.size w w') : TPl w' G C D TM CT VR SG pn ga ca da ta ka va sa gc cc dc tc kc vc sc stt :=
  ⟨h.hG.below hb, h.hF.below hb, h.hD.below hb, h.hT.below hb, h.hC.below hb, h.hV.below hb, Tss.below h.hS hb, h.lG, h.lF, h.lD, h.lT, h.lC, h.lV, h.lS, h.hm, h.hp, h.hr⟩
/-- What Reach answers. -/
def ReP (ok : Bool) (SG : List Ts) (stt : Int) (w : World) (e : Ending) (w' : World) : Prop :=
  if ok then ∃ (g : Nat) (S : List Bool), e = .returned (.tuple #[.slice (some ⟨g, 0, none⟩) SG.length SG.length, .int .i64 0]) ∧ w'.ownsRow w.heap.size 4 1 (.slice (some ⟨g, 0, none⟩) SG.length SG.length) SG.length (vB S) ∧ RI (waysL SG).length stt.toNat (goN (waysL SG)) S [] ∧ Below w.heap.size w w'
  else e = .returned (.tuple #[.slice none 0 0, .int .i64 80]) ∧ Below w.heap.size w w'
set_option maxRecDepth 100000 in
set_option maxHeartbeats 8000000 in
theorem reach_any (G : List Gp) (C : List Cf) (D : List Dt) (TM CT : List ByteArray) (VR : List Vr) (SG : List Ts) (pn : ByteArray) (ga ca da ta ka va sa : Option Addr) (gc cc dc tc kc vc sc : Nat) (stt : Int) (w : World) (h : TPl w G C D TM CT VR SG pn ga ca da ta ka va sa gc cc dc tc kc vc sc stt) (hW : Wt w) :
    Calls Tryd.prog 4 #[(.agg #[.string pn, .slice ga G.length gc, .slice ca C.length cc, .slice da D.length dc, .slice ta TM.length tc, .slice ka CT.length kc, .slice va VR.length vc, .slice sa SG.length sc, .int .i64 stt])] w fun e w' => ReP (sdB G C D TM CT VR SG pn stt) SG stt w e w' := by
  have hb0 : Below w.heap.size w (w.alloc (.cells #[.string pn, .slice ga G.length gc, .slice ca C.length cc, .slice da D.length dc, .slice ta TM.length tc, .slice ka CT.length kc, .slice va VR.length vc, .slice sa SG.length sc, .int .i64 stt] 31)) := bel1 _
  have K0 : Has (w.alloc (.cells #[.string pn, .slice ga G.length gc, .slice ca C.length cc, .slice da D.length dc, .slice ta TM.length tc, .slice ka CT.length kc, .slice va VR.length vc, .slice sa SG.length sc, .int .i64 stt] 31)) w.heap.size #[.string pn, .slice ga G.length gc, .slice ca C.length cc, .slice da D.length dc, .slice ta TM.length tc, .slice ka CT.length kc, .slice va VR.length vc, .slice sa SG.length sc, .int .i64 stt] := Has.new _ _ _ rfl
  have k7 := sound_any G C D TM CT VR SG pn ga ca da ta ka va sa gc cc dc tc kc vc sc stt (w.alloc (.cells #[.string pn, .slice ga G.length gc, .slice ca C.length cc, .slice da D.length dc, .slice ta TM.length tc, .slice ka CT.length kc, .slice va VR.length vc, .slice sa SG.length sc, .int .i64 stt] 31)) (h.below hb0) (hW.be hb0)
  have hw2 := @sd_ways G C D TM CT VR SG pn stt
  have hSS := h.hS
  clear h
  generalize sdB G C D TM CT VR SG pn stt = B at *
  obtain ⟨_, v1, v2⟩ := id K0
  go_enter Tryd.func4, Tryd.ntmps4
  go_wp2_with fail
  go_at_call 7
  refine Calls.mono k7 ?_
  rintro e w1 ⟨rfl, h1⟩
  have hb1 := bel_after hb0 hb0.size h1
  have K1 := K0.below h1
  clear v1 v2 k7
  obtain ⟨_, v1, v2⟩ := id K1
  cases B with
  | false =>
    clear hw2 hSS
    go_wp2_with fail
    go_ret2
    exact ⟨rfl, hb1⟩
  | true =>
    obtain ⟨l1, l2, l3, l4⟩ := hw2 rfl
    obtain ⟨st, rfl⟩ : ∃ st : Nat, stt = (st : Int) := ⟨stt.toNat, by omega⟩
    have k8 := reached_any G C D TM CT VR SG pn ga ca da ta ka va sa gc cc dc tc kc vc sc st w1 (Tss.below hSS hb1) l1 l2 (by omega)
    go_wp2_with fail
    go_at_call 8
    refine Calls.mono k8 ?_
    rintro e w2 ⟨g, S, rfl, hO, hR, h2⟩
    have hb2 := bel_after hb1 hb1.size h2
    have hO2 := own_mono hO (hb1.size)
    go_wp2_with fail
    go_ret2
    exact ⟨g, S, rfl, hO2, by rw [Int.toNat_natCast]; exact hR, hb2⟩
end Go.Proofs.YtnicolaphmffkaaDoor
namespace Go.Proofs.YtnicolaphmffkaaDoor
open Go.RowKit
set_option linter.unusedVariables false
set_option linter.unusedSimpArgs false

theorem fl_vB {w : World} {base g n : Nat} {S : List Bool} (h : w.ownsRow base 4 1 (.slice (some ⟨g, 0, none⟩) n n) n (vB S)) (hn : S.length = n) : Fl 1 bC w (.slice (some ⟨g, 0, none⟩) S.length n) S := by
  refine .inr ⟨⟨g, 0, none⟩, n, rfl, by omega, .inr ⟨rfl, (own_lt h g rfl).2, fun i hi j u hu => ?_⟩⟩
  cases j with
  | zero =>
    have e : u = .bool S[i] := by simpa [bC] using hu.symm
    rw [e, Nat.mul_one, Nat.add_zero]
    show w.cell? ⟨g, 0 + i, none⟩ = _
    rw [Nat.zero_add]
    exact (h.cellAt i (by omega)).trans (vB_get hi)
  | succ j => simp [bC] at hu
set_option maxRecDepth 100000 in
set_option maxHeartbeats 8000000 in
theorem walks_law (G : List Gp) (C : List Cf) (D : List Dt) (TM CT : List ByteArray) (VR : List Vr) (SG : List Ts) (pn : ByteArray) (ga ca da ta ka va sa : Option Addr) (gc cc dc tc kc vc sc : Nat) (stt : Int) (S : List Bool) (ba : Option Addr) (bc : Nat) (w : World) (h : TPl w G C D TM CT VR SG pn ga ca da ta ka va sa gc cc dc tc kc vc sc stt) (tb : Tb w) (hB : Fl 1 bC w (.slice ba S.length bc) S) (lB : S.length ≤ 4611686018427387904)
    (k5 : ∀ X : World, Below w.heap.size w X → Calls Tryd.prog 5 #[(.agg #[.string pn, .slice ga G.length gc, .slice ca C.length cc, .slice da D.length dc, .slice ta TM.length tc, .slice ka CT.length kc, .slice va VR.length vc, .slice sa SG.length sc, .int .i64 stt])] X fun e w' => e = .returned (.bool (sdB G C D TM CT VR SG pn stt)) ∧ Below X.heap.size X w') :
    Calls Tryd.prog 3 #[(.agg #[.string pn, .slice ga G.length gc, .slice ca C.length cc, .slice da D.length dc, .slice ta TM.length tc, .slice ka CT.length kc, .slice va VR.length vc, .slice sa SG.length sc, .int .i64 stt]), .slice ba S.length bc] w fun e w' => e = .returned (.bool true) ∧ Below w.heap.size w w' := by
  have hb0 : Below w.heap.size w (w.alloc (.cells #[.string pn, .slice ga G.length gc, .slice ca C.length cc, .slice da D.length dc, .slice ta TM.length tc, .slice ka CT.length kc, .slice va VR.length vc, .slice sa SG.length sc, .int .i64 stt] 31)) := bel1 _
  have K0 : Has (w.alloc (.cells #[.string pn, .slice ga G.length gc, .slice ca C.length cc, .slice da D.length dc, .slice ta TM.length tc, .slice ka CT.length kc, .slice va VR.length vc, .slice sa SG.length sc, .int .i64 stt] 31)) w.heap.size #[.string pn, .slice ga G.length gc, .slice ca C.length cc, .slice da D.length dc, .slice ta TM.length tc, .slice ka CT.length kc, .slice va VR.length vc, .slice sa SG.length sc, .int .i64 stt] := Has.new _ _ _ rfl
  have k4 := reach_any G C D TM CT VR SG pn ga ca da ta ka va sa gc cc dc tc kc vc sc stt (w.alloc (.cells #[.string pn, .slice ga G.length gc, .slice ca C.length cc, .slice da D.length dc, .slice ta TM.length tc, .slice ka CT.length kc, .slice va VR.length vc, .slice sa SG.length sc, .int .i64 stt] 31)) (h.below hb0) (tb.wt.be hb0)
  have hw2 := @sd_ways G C D TM CT VR SG pn stt
  have k6 := fun (l1 : SG.length ≤ 256) (l2 : Ways SG) (l3 : 0 ≤ stt) (l4 : stt < (SG.length : Int)) (S' : List Bool) (ba' : Option Addr) (bc' : Nat) (X : World) (hX : Below w.heap.size w X) (hB' : Fl 1 bC X (.slice ba' S'.length bc') S') (lB' : S'.length ≤ 4611686018427387904) => closed_any G C D TM CT VR SG pn ga ca da ta ka va sa gc cc dc tc kc vc sc stt S' ba' bc' X (Tss.below h.hS hX) l1 hB' lB' l2 l3 l4
  clear h
  generalize sdB G C D TM CT VR SG pn stt = B at *
  obtain ⟨_, v1, v2⟩ := id K0
  go_enter Tryd.func3, Tryd.ntmps3
  go_wp2_with fail
  go_at_call 4
  refine Calls.mono k4 ?_
  intro e w1 hR
  cases B with
  | false =>
    obtain ⟨rfl, h1⟩ := hR
    have hb1 := bel_after hb0 hb0.size h1
    have K1 := K0.below h1
    clear v1 v2 k4 k6 hw2
    obtain ⟨_, v1, v2⟩ := id K1
    go_wp2_with fail
    go_at_call 5
    refine Calls.mono (k5 _ hb1) ?_
    rintro e w2 ⟨rfl, h2⟩
    have hb2 := bel_after hb1 hb1.size h2
    go_wp2_with fail
    go_ret
    exact ⟨rfl, hb2⟩
  | true =>
    obtain ⟨g, S0, rfl, hO, hI, h1⟩ := hR
    obtain ⟨l1, l2, l3, l4⟩ := hw2 rfl
    have k6 := k6 l1 l2 l3 l4
    have hb1 := bel_after hb0 hb0.size h1
    have K1 := K0.below h1
    have hl0 : S0.length = SG.length := hI.len.trans (ways_len SG)
    clear v1 v2 k4 hw2
    obtain ⟨_, v1, v2⟩ := id K1
    go_wp2_with fail
    go_at_call 5
    refine Calls.mono (k5 _ hb1) ?_
    rintro e w2 ⟨rfl, h2⟩
    have hb2 := bel_after hb1 hb1.size h2
    have K2 := K1.below h2
    have hO2 := own_bel hO h2
    clear v1 v2 k5
    obtain ⟨_, v1, v2⟩ := id K2
    have k6a := k6 S0 (some ⟨g, 0, none⟩) SG.length w2 hb2 (fl_vB hO2 hl0) (by omega)
    rw [hI.closed, hl0] at k6a
    go_wp2_with fail
    go_at_call 6
    refine Calls.mono k6a ?_
    rintro e w3 ⟨rfl, h3⟩
    have hb3 := bel_after hb2 hb2.size h3
    have K3 := K2.below h3
    have hO3 := own_bel hO2 h3
    clear v1 v2 k6a
    obtain ⟨_, v1, v2⟩ := id K3
    have k6b := k6 S ba bc w3 hb3 (hB.below hb3) lB
    have hL := @RI.least (waysL SG) stt.toNat S0 S [] hI
    generalize clB (waysL SG) stt.toNat S = b at *
    go_wp2_with fail
    go_at_call 6
    refine Calls.mono k6b ?_
    rintro e w4 ⟨rfl, h4⟩
    have hb4 := bel_after hb3 hb3.size h4
    have hO4 := own_bel hO3 h4
    have hB4 := hB.below hb4
    clear v1 v2 k6b k6 K0 K1 K2 K3 hO hO2 hO3 hB hb0 hb1 hb2 hb3 h1 h2 h3 h4
    cases b with
    | false =>
      go_wp2_with fail
      go_ret
      exact ⟨rfl, hb4⟩
    | true =>
      obtain ⟨q1, q2⟩ := hL rfl
      have q3 : S.length = SG.length := by omega
      obtain ⟨_, _, e1, kB⟩ := hB4.any
      injection e1 with e1 _ e2
      subst e1
      subst e2
      obtain ⟨gb, ob, rfl, hgb, hxb⟩ := kB.resolve_left (by intro e; rw [e] at q3; simp at q3; omega)
      clear hB4 kB hI hL
      have hxb' : Hid (∀ (i : Nat) (h : i < S.length), w4.cell? ⟨gb, ob + i, none⟩ = some (.bool S[i])) := fun i hi => by have := hxb i hi 0 _ rfl; simpa using this
      have q2' : Hid (∀ i, sn S0 i = true → sn S i = true) := q2
      clear hxb q2
      go_wp2_with fail
      go_loopw [7] (fun i wr => ∃ k : Nat, k ≤ SG.length ∧ i = .int .i64 (k : Int) ∧ wr = w4) (fun i _ => SG.length - (intOf i).toNat)
      case atStart => exact ⟨0, by omega, rfl, rfl⟩
      case round =>
        obtain ⟨k, hkl, rfl, rfl⟩ := hrel
        by_cases hk : k < SG.length
        case neg =>
          have t1 : ¬ (k : Int) < (SG.length : Int) := by omega
          go_wp2_with fail
          go_ret
          exact ⟨rfl, hb4⟩
        case pos =>
          have t1 : (k : Int) < (SG.length : Int) := by omega
          have t2 : (0 : Int) ≤ (k : Int) := by omega
          have t3 : (k : Int) < (S.length : Int) := by omega
          have z0 := (hO4.cellAt k (by omega)).trans (vB_get (by omega : k < S0.length))
          have z1 := hxb'.out k (by omega)
          have z2 := q2'.out k
          rw [sn_get (by omega), sn_get (by omega)] at z2
          generalize S0[k]'(by omega) = b0 at *
          generalize S[k]'(by omega) = b1 at *
          cases b0 with
          | false =>
            go_wp2_with fail
            go_roundw
            case rel => exact ⟨k + 1, by omega, by go_num, trivial⟩
            case measure => simp [intOf]; omega
          | true =>
            obtain rfl : b1 = true := z2 rfl
            go_wp2_with fail
            go_roundw
            case rel => exact ⟨k + 1, by omega, by go_num, trivial⟩
            case measure => simp [intOf]; omega
end Go.Proofs.YtnicolaphmffkaaDoor
