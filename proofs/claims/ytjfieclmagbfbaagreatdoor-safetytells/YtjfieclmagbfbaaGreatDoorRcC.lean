import Derived.Test.YtjfieclmagbfbaaGreatDoorMaL
set_option linter.unusedSimpArgs false
set_option linter.unusedVariables false
set_option maxRecDepth 100000
set_option maxHeartbeats 8000000
namespace Go.Proofs.YtjfieclmagbfbaaGreatDoor
open Go.RowKit
theorem sd_ways {G : List Gp} {C : List Cf} {D : List Dt} {TM CT : List ByteArray} {VR : List Vr} {SG : List Ts} {pn : ByteArray} {stt : Int} (h : sdB G C D TM CT VR SG pn stt = true) : SG.length ≤ 256 ∧ Ways SG ∧ 0 ≤ stt ∧ stt < (SG.length : Int) := by
 unfold sdB plB at h
 simp only [Bool.and_eq_true] at h
 obtain ⟨_, h2, _, _, h5, h6⟩ := h
 have h5' := h5
 simp only [decide_eq_true_eq] at h5'
 refine ⟨(ct_few h2).2.2.2.2, ?_, h5'.1, h5'.2⟩
 clear h2 h5 h5'
 have key : ∀ (L : List Ts) (n i : Nat) (last : Int), sgsZ ⟨G.length, D.length, TM.length, CT.length, VR.length⟩ n i last L = true → ∀ s ∈ L, ∀ x ∈ s.nexts, 0 ≤ x.dst ∧ x.dst < (n : Int) := by
  intro L
  induction L with
  | nil => intro n i last _ s hs; cases hs
  | cons y L ih =>
    intro n i last h s hs x hx; unfold sgsZ at h; rw [Bool.and_eq_true] at h; rcases List.mem_cons.1 hs with rfl | hs
    ·have h1 := h.1
     unfold sgZ at h1; simp only [Bool.and_eq_true] at h1; have h2 := List.all_eq_true.1 h1.2.2 x hx; unfold nxZ plB at h2; simp only [Bool.and_eq_true, decide_eq_true_eq] at h2; exact h2.1
    ·exact ih n (i + 1) y.id h.2 s hs x hx
 exact fun s hs x hx => key SG SG.length 0 (-1) h6 s hs x hx
theorem TPl.below {w w' : World} {G : List Gp} {C : List Cf} {D : List Dt} {TM CT : List ByteArray} {VR : List Vr} {SG : List Ts} {pn : ByteArray} {ga ca da ta ka va sa : Option Addr} {gc cc dc tc kc vc sc : Nat} {stt : Int} (h : TPl w G C D TM CT VR SG pn ga ca da ta ka va sa gc cc dc tc kc vc sc stt) (hb : Below w.heap.size w w') : TPl w' G C D TM CT VR SG pn ga ca da ta ka va sa gc cc dc tc kc vc sc stt :=
 ⟨h.hG.below hb, h.hF.below hb, h.hD.below hb, h.hT.below hb, h.hC.below hb, h.hV.below hb, Tss.below h.hS hb, h.lG, h.lF, h.lD, h.lT, h.lC, h.lV, h.lS, h.hm, h.hp, h.hr⟩
def ReP (ok : Bool) (SG : List Ts) (stt : Int) (w : World) (e : Ending) (w' : World) : Prop :=
 if ok then ∃ (g : Nat) (S : List Bool), e = .returned (.tuple #[.slice (some ⟨g, 0, none⟩) SG.length SG.length, .int .i64 0]) ∧ w'.ownsRow w.heap.size 4 1 (.slice (some ⟨g, 0, none⟩) SG.length SG.length) SG.length (vB S) ∧ RI (waysL SG).length stt.toNat (goN (waysL SG)) S [] ∧ Below w.heap.size w w'
 else e = .returned (.tuple #[.slice none 0 0, .int .i64 80]) ∧ Below w.heap.size w w'
theorem reach_any (G : List Gp) (C : List Cf) (D : List Dt) (TM CT : List ByteArray) (VR : List Vr) (SG : List Ts) (pn : ByteArray) (ga ca da ta ka va sa : Option Addr) (gc cc dc tc kc vc sc : Nat) (stt : Int) (w : World) (h : TPl w G C D TM CT VR SG pn ga ca da ta ka va sa gc cc dc tc kc vc sc stt) (hW : Wt w) :
  Calls Tryz.prog 12 #[(.agg #[.string pn, .slice ga G.length gc, .slice ca C.length cc, .slice da D.length dc, .slice ta TM.length tc, .slice ka CT.length kc, .slice va VR.length vc, .slice sa SG.length sc, .int .i64 stt])] w fun e w' => ReP (sdB G C D TM CT VR SG pn stt) SG stt w e w' := by
 have hb0 : Below w.heap.size w (w.alloc (.cells #[.string pn, .slice ga G.length gc, .slice ca C.length cc, .slice da D.length dc, .slice ta TM.length tc, .slice ka CT.length kc, .slice va VR.length vc, .slice sa SG.length sc, .int .i64 stt] 31)) := bel1 _
 have K0 : Has (w.alloc (.cells #[.string pn, .slice ga G.length gc, .slice ca C.length cc, .slice da D.length dc, .slice ta TM.length tc, .slice ka CT.length kc, .slice va VR.length vc, .slice sa SG.length sc, .int .i64 stt] 31)) w.heap.size #[.string pn, .slice ga G.length gc, .slice ca C.length cc, .slice da D.length dc, .slice ta TM.length tc, .slice ka CT.length kc, .slice va VR.length vc, .slice sa SG.length sc, .int .i64 stt] := Has.new _ _ _ rfl
 have k7 := sound_any G C D TM CT VR SG pn ga ca da ta ka va sa gc cc dc tc kc vc sc stt (w.alloc (.cells #[.string pn, .slice ga G.length gc, .slice ca C.length cc, .slice da D.length dc, .slice ta TM.length tc, .slice ka CT.length kc, .slice va VR.length vc, .slice sa SG.length sc, .int .i64 stt] 31)) (h.below hb0) (hW.be hb0)
 have hw2 := @sd_ways G C D TM CT VR SG pn stt
 have hSS := h.hS
 clear h
 generalize sdB G C D TM CT VR SG pn stt = B at *
 obtain ⟨_, v1, v2⟩ := id K0
 go_enter Tryz.func12, Tryz.ntmps12
 go_wp2_with fail
 go_at_call 20
 refine Calls.mono k7 ?_
 rintro e w1 ⟨rfl, h1⟩
 have hb1 := bel_after hb0 hb0.size h1
 have K1 := K0.below h1
 clear v1 v2 k7
 obtain ⟨_, v1, v2⟩ := id K1
 cases B with
 | false =>
   clear hw2 hSS
   go_wp2_with fail
   go_ret2
   exact ⟨rfl, hb1⟩
 | true =>
   obtain ⟨l1, l2, l3, l4⟩ := hw2 rfl; obtain ⟨st, rfl⟩ : ∃ st : Nat, stt = (st : Int) := ⟨stt.toNat, by omega⟩; have k8 := reached_any G C D TM CT VR SG pn ga ca da ta ka va sa gc cc dc tc kc vc sc st w1 (Tss.below hSS hb1) l1 l2 (by omega)
   go_wp2_with fail
   go_at_call 37; refine Calls.mono k8 ?_; rintro e w2 ⟨g, S, rfl, hO, hR, h2⟩; have hb2 := bel_after hb1 hb1.size h2; have hO2 := own_mono hO (hb1.size)
   go_wp2_with fail
   go_ret2
   exact ⟨g, S, rfl, hO2, by rw [Int.toNat_natCast]; exact hR, hb2⟩
end Go.Proofs.YtjfieclmagbfbaaGreatDoor
