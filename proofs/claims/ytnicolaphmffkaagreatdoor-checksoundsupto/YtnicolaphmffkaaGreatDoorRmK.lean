import Derived.Test.YtnicolaphmffkaaGreatDoorRmX
import Derived.Test.YtnicolaphmffkaaGreatDoorSnG
import Derived.Test.YtnicolaphmffkaaGreatDoorMaL
set_option linter.unusedVariables false
set_option linter.unusedSimpArgs false
namespace Go.Proofs.YtnicolaphmffkaaGreatDoor
open Go.RowKit
/-- A flat list out of a block that is never turned. -/
theorem fl_fz {α : Type} {sz : Nat} {cs : α → List Value} (hl : ∀ x, (cs x).length = sz) {o : Nat → Nat} {W : World} {g c : Nat} {L : List α} {mm : List Value} (h : Fz o W g (cellsF cs L ++ mm)) (hc : L.length ≤ c) : Fl sz cs W (.slice (some ⟨g, 0, none⟩) L.length c) L :=
  .inr ⟨⟨g, 0, none⟩, c, rfl, hc, .inr ⟨rfl, h.lt, fun i hi j u hu => by
    have hj : j < sz := by rw [← hl L[i]]; exact (List.getElem?_eq_some_iff.1 hu).1
    show W.cell? ⟨g, 0 + i * sz + j, none⟩ = some u
    rw [Nat.zero_add]
    refine h.rd _ u ?_
    have hx : (cellsF cs L).length = L.length * sz := cellsF_len hl L
    have h5 := Nat.mul_le_mul_right sz (show i + 1 ≤ L.length from hi)
    rw [Nat.succ_mul] at h5
    rw [List.getElem?_append_left (by omega), cellsF_get hl L i j hi hj]
    exact hu⟩⟩
theorem tpl_below {w w' : World} {G : List Gp} {C : List Cf} {D : List Dt} {TM CT : List ByteArray} {VR : List Vr} {SG : List Ts} {pn : ByteArray} {ga ca da ta ka va sa : Option Addr} {gc cc dc tc kc vc sc : Nat} {stt : Int} (h : TPl w G C D TM CT VR SG pn ga ca da ta ka va sa gc cc dc tc kc vc sc stt) (hb : Below w.heap.size w w') : TPl w' G C D TM CT VR SG pn ga ca da ta ka va sa gc cc dc tc kc vc sc stt :=
  ⟨h.hG.below hb, h.hF.below hb, h.hD.below hb, h.hT.below hb, h.hC.below hb, h.hV.below hb, Tss.below h.hS hb, h.lG, h.lF, h.lD, h.lT, h.lC, h.lV, h.lS, h.hm, h.hp, h.hr⟩
theorem nds_fl {w : World} {v : Value} {L : List Nd} (h : Fl 5 Nd.cs w v L) : Nds w v L := by
  rcases h with ⟨rfl, rfl⟩ | ⟨⟨g, o, s⟩, cap, rfl, hc, h | ⟨hs, hg, hx⟩⟩
  · exact ⟨none, 0, rfl, .inl rfl⟩
  · exact ⟨_, cap, rfl, .inl h⟩
  · cases hs
    exact ⟨_, cap, rfl, .inr ⟨g, o, rfl, hg, fun i hi => ⟨hx i hi 0 _ rfl, hx i hi 1 _ rfl, hx i hi 2 _ rfl, hx i hi 3 _ rfl, hx i hi 4 _ rfl⟩⟩⟩
/-- The room as it is made. -/
theorem rm_start {o : Nat → Nat} {B rb : Nat} {W : World} (h : Has W rb #[.slice none 0 0, .slice none 0 0, .slice none 0 0, .slice none 0 0, .slice none 0 0, .slice none 0 0, .slice none 0 0, .slice none 0 0, .slice none 0 0, .slice none 0 0, .slice none 0 0, .slice none 0 0, .slice none 0 0, .slice none 0 0, .slice none 0 0, .slice none 0 0, .slice none 0 0]) (ho : o rb = 4) (hB : B ≤ rb) : Rm o B W rb (fun _ => []) (fun _ => .slice none 0 0) := by
  refine ⟨h.1, fun k hk => ?_, h.2.2, ho, hB, fun k hk => ⟨own_none _ _ _ _ _ _, fun r hr => (by cases hr)⟩⟩
  rw [h.2.1 k]
  match k, hk with
  | 0, _ => rfl | 1, _ => rfl | 2, _ => rfl | 3, _ => rfl | 4, _ => rfl | 5, _ => rfl | 6, _ => rfl | 7, _ => rfl | 8, _ => rfl | 9, _ => rfl | 10, _ => rfl | 11, _ => rfl | 12, _ => rfl | 13, _ => rfl | 14, _ => rfl | 15, _ => rfl | 16, _ => rfl | n + 17, h => exact absurd h (by omega)
set_option maxRecDepth 100000 in
set_option maxHeartbeats 4000000 in
/-- check.SoundExpr. -/
theorem soundExpr_any (G : List Gp) (D : List Dt) (TM CT : List ByteArray) (VR : List Vr) (SG : List Ts) (pn : ByteArray) (ga ca da ta ka va sa : Option Addr) (gc nC cc dc tc kc vc sc : Nat) (stt : Int) (L : List Nd) (vn : Value) (typ : Int) (w : World) (hN : Fl 5 Nd.cs w vn L) (hl : L.length ≤ 2932031007317) (hr : ∀ x ∈ L, vOk x.val) :
    Calls Tryz.prog 12 #[(.agg #[.string pn, .slice ga G.length gc, .slice ca nC cc, .slice da D.length dc, .slice ta TM.length tc, .slice ka CT.length kc, .slice va VR.length vc, .slice sa SG.length sc, .int .i64 stt]), vn, .int .i64 typ] w fun e w' => e = .returned (.bool (sxB ⟨G.length, D.length, TM.length, CT.length, VR.length⟩ L typ)) ∧ Below w.heap.size w w' := by
  have hb0 : Below w.heap.size w (w.alloc (.cells #[.string pn, .slice ga G.length gc, .slice ca nC cc, .slice da D.length dc, .slice ta TM.length tc, .slice ka CT.length kc, .slice va VR.length vc, .slice sa SG.length sc, .int .i64 stt] 31)) := bel1 _
  have K0 : Has (w.alloc (.cells #[.string pn, .slice ga G.length gc, .slice ca nC cc, .slice da D.length dc, .slice ta TM.length tc, .slice ka CT.length kc, .slice va VR.length vc, .slice sa SG.length sc, .int .i64 stt] 31)) w.heap.size #[.string pn, .slice ga G.length gc, .slice ca nC cc, .slice da D.length dc, .slice ta TM.length tc, .slice ka CT.length kc, .slice va VR.length vc, .slice sa SG.length sc, .int .i64 stt] := Has.new _ _ _ rfl
  have k40 := sizesOf_any G D TM CT VR SG pn ga ca da ta ka va sa gc nC cc dc tc kc vc sc stt (w.alloc (.cells #[.string pn, .slice ga G.length gc, .slice ca nC cc, .slice da D.length dc, .slice ta TM.length tc, .slice ka CT.length kc, .slice va VR.length vc, .slice sa SG.length sc, .int .i64 stt] 31))
  have k41 := fun (X : World) (hX : Below w.heap.size w X) => sExpr_any ⟨G.length, D.length, TM.length, CT.length, VR.length⟩ L vn typ X (nds_fl (hN.below hX)) hl hr
  obtain ⟨_, v1, v2⟩ := id K0
  go_enter Tryz.func12, Tryz.ntmps12
  go_wp2_with fail
  go_at_call 40
  refine Calls.mono k40 ?_
  rintro e w1 ⟨rfl, h1⟩
  have hb1 := bel_after hb0 hb0.size h1
  clear v1 v2 k40 K0
  go_wp2_with fail
  go_at_call 41
  refine Calls.mono (k41 w1 hb1) ?_
  rintro e w2 ⟨rfl, h2⟩
  have hb2 := bel_after hb1 hb1.size h2
  go_wp2_with fail
  go_ret
  exact ⟨rfl, hb2⟩
end Go.Proofs.YtnicolaphmffkaaGreatDoor
