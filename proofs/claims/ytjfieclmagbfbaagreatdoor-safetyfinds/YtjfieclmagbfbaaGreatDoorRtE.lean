import Derived.Test.YtjfieclmagbfbaaGreatDoorMaO
import Derived.Test.YtjfieclmagbfbaaGreatDoorRoT
set_option linter.unusedSimpArgs false
set_option linter.unusedVariables false
set_option maxRecDepth 100000
set_option maxHeartbeats 8000000
namespace Go.Proofs.YtjfieclmagbfbaaGreatDoor
open Go.RowKit
theorem info36r : (Tryz.prog.info? 49).map (fun i => (i.zero, i.size, i.bytes)) = some (some (.slice none 0 0), 1, 24) := by kernel_rfl
structure RyF (w' : World) (G : List Gp) (C : List Cf) (D : List Dt) (TM CT : List ByteArray) (VR : List Vr) (SG : List Ts) (g1 d1 g2 d2 gS cS : Nat) (a3 a4 a5 a6 na : Option Addr) (c3 c4 c5 c6 nc : Nat) (Ls : List Sv) : Prop where
 m : Ls.map (·.x) = SG
 g : w'.ownsRow 0 73 5 (.slice (some ⟨g1, 0, none⟩) (G.length + 2) d1) (G.length + 2) (zAc Gp.cs G ++ marksG)
 c : w'.ownsRow 0 75 4 (.slice (some ⟨g2, 0, none⟩) (C.length + 2) d2) (C.length + 2) (zAc Cf.cs C ++ marksC)
 d : w'.ownsRow 0 89 4 (.slice a3 D.length c3) D.length (zAc Dt.cs D)
 t : w'.ownsRow 0 9 1 (.slice a4 TM.length c4) TM.length (zAc txC TM)
 k : w'.ownsRow 0 9 1 (.slice a5 CT.length c5) CT.length (zAc txC CT)
 v : w'.ownsRow 0 117 2 (.slice a6 VR.length c6) VR.length (zAc Vr.cs VR)
 s : w'.ownsRow 0 51 7 (.slice (some ⟨gS, 0, none⟩) (SG.length + 2) cS) (SG.length + 2) (zAc Sv.cs Ls ++ mk7)
 n : w'.ownsRow 0 49 1 (.slice na SG.length nc) SG.length (zAc Sv.rc Ls)
 e : ∃ (o : Nat → Nat) (B : Nat), ∀ (i : Nat) (s : Sv), Ls[i]? = some s → StD o B w' (i + 4) s
def RyP (w' : World) (G : List Gp) (C : List Cf) (D : List Dt) (TM CT : List ByteArray) (VR : List Vr) (SG : List Ts) (pn : ByteArray) (stt : Int) (e : Ending) : Prop :=
 ∃ (g1 d1 g2 d2 gS cS : Nat) (a3 a4 a5 a6 na : Option Addr) (c3 c4 c5 c6 nc : Nat) (Ls : List Sv), e = .returned (.tuple #[.agg #[.string pn, .slice (some ⟨g1, 0, none⟩) G.length d1, .slice (some ⟨g2, 0, none⟩) C.length d2, .slice a3 D.length c3, .slice a4 TM.length c4, .slice a5 CT.length c5, .slice a6 VR.length c6, .slice (some ⟨gS, 0, none⟩) SG.length cS, .int .i64 stt], .agg #[.slice (some ⟨g1, 0, none⟩) (G.length + 2) d1, .slice (some ⟨g2, 0, none⟩) (C.length + 2) d2, .slice (some ⟨gS, 0, none⟩) (SG.length + 2) cS, .slice na SG.length nc]]) ∧ RyF w' G C D TM CT VR SG g1 d1 g2 d2 gS cS a3 a4 a5 a6 na c3 c4 c5 c6 nc Ls
def oR (o : Nat → Nat) (B p r : Nat) : Nat → Nat := fun b => if b < B then 2 else if b < p then (if 3 ≤ o b then o b + 1 else o b) else if b = p ∨ b = r then 2 else 0
theorem oR_low {o : Nat → Nat} {B p r b : Nat} (h : b < B) : oR o B p r b = 2 := by simp [oR, h]
theorem oR_mid {o : Nat → Nat} {B p r b : Nat} (h : B ≤ b) (h2 : b < p) : oR o B p r b = if 3 ≤ o b then o b + 1 else o b := by simp [oR, Nat.not_lt.2 h, h2]
theorem oR_far {o : Nat → Nat} {B p r b : Nat} (h : B ≤ b) (h2 : p < b) (h3 : b ≠ r) : oR o B p r b = 0 := by
 have a1 : ¬ b < B := by omega
 have a2 : ¬ b < p := by omega
 have a3 : ¬ (b = p ∨ b = r) := by omega
 simp [oR, a1, a2, a3]
theorem CtE.rm {w Y w1 W : World} {o : Nat → Nat} {r : Nat} {T0 Z1 Z2 U RR : Array Value} {Os Og : List Ow} {Ls : List Sv} {vS : Value} (h : CtE Y o w1 Os Ls vS) (hb : Below w.heap.size w W) (hB : Below w1.heap.size w1 W) (K0 : Has W w.heap.size T0) (K1 : Has W (w.heap.size + 1) Z1) (K2 : Has W (w.heap.size + 1 + 1) Z2) (P : Has W w1.heap.size U) (R : Has W r RR) (hz : w.heap.size + 1 + 1 < Y.heap.size) (hr : w1.heap.size < r)
  (hG : ∀ y ∈ Og, W.ownsRow Y.heap.size y.e y.s y.v y.n y.xs ∧ ∀ g, y.v.ownBlock = some g → w1.heap.size < g ∧ g ≠ r) :
  RmC w Y.heap.size w1.heap.size r (oR o Y.heap.size w1.heap.size r) W T0 Z1 Z2 U RR (Og ++ Os) Ls 0 vS (.slice none 0 0) 0 ∧ ∀ s, Ls[0]? = some s → StI (oR o Y.heap.size w1.heap.size r) Y.heap.size W 4 s := by
 have hs := h.hb.size
 have own : ∀ {t t' e sz n : Nat} {v : Value} {xs : List Value}, OwnT o t Y.heap.size e sz w1 v n xs → (t' = if 3 ≤ t then t + 1 else t) → OwnT (oR o Y.heap.size w1.heap.size r) t' Y.heap.size e sz W v n xs := by
  intro t t' e sz n v xs q ht; refine ⟨zAe q.own hB, fun g hg => ?_⟩; have h1 := zAg q.own g hg; rw [oR_mid h1.1 h1.2, q.tag g hg, ht]
 have mv : Mv (Zo o) w1 (Zo (oR o Y.heap.size w1.heap.size r)) W := ⟨hB.size, fun b hb hz => ⟨hB.block b hb, by
  show oR o Y.heap.size w1.heap.size r b = 0; have hz' : o b = 0 := hz; have hb2 : Y.heap.size ≤ b := by
   rcases Nat.lt_or_ge b Y.heap.size with h1 | h1
   ·have := h.lo b h1; omega
   ·exact h1
  rw [oR_mid hb2 hb, hz']; rfl⟩⟩
 have st : ∀ (i : Nat) (s : Sv), Ls[i]? = some s → StI (oR o Y.heap.size w1.heap.size r) Y.heap.size W (i + 4) s := fun i s hi => ⟨(h.st i s hi).e.mv mv, (h.st i s hi).d.mv mv, (h.st i s hi).l.mv mv, own (h.st i s hi).n (by rw [if_pos (by omega)]), Els.mv (mx := 0) (h.st i s hi).r (fun _ _ z => tnr_mv z mv)⟩
 refine ⟨⟨hb, K0, K1, K2, P, R, ⟨oR_low (by omega), oR_low (by omega), oR_low (by omega), ?_, ?_⟩, ⟨hz, hs, hr⟩, own h.own (by simp), ⟨World.ownsRow_nil _ _ _ _, fun g hg => by simp [Value.ownBlock] at hg⟩, ?_, fun i s hi => absurd hi (Nat.not_lt_zero i), fun i s _ hi => st i s hi⟩, fun s hi => st 0 s hi⟩
 ·have a1 : ¬ w1.heap.size < Y.heap.size := by omega
  simp [oR, a1]
 ·have a1 : ¬ r < Y.heap.size := by omega
  have a2 : ¬ r < w1.heap.size := by omega
  simp [oR, a1, a2]
 ·intro y hy
  rcases List.mem_append.1 hy with hy | hy
  ·obtain ⟨q1, q2⟩ := hG y hy
   exact ⟨q1, fun g hg => oR_far (zAg q1 g hg).1 (q2 g hg).1 (q2 g hg).2⟩
  ·exact own (h.fl y hy) (by simp)
theorem RmC.sizeB {w W : World} {B p r : Nat} {o : Nat → Nat} {T0 Z1 Z2 U RR : Array Value} {Os : List Ow} {Ls : List Sv} {k : Nat} {vS vN : Value} {m : Nat} (h : RmC w B p r o W T0 Z1 Z2 U RR Os Ls k vS vN m) : B ≤ W.heap.size := by
 have h1 := h.ne.2.1
 have h2 := h.ub.1
 omega
structure CoL (o : Nat → Nat) (B : Nat) (W : World) (Os : List Ow) (Ls : List Sv) (g c n : Nat) (vN : Value) : Prop where
 own : OwnT o 1 B 51 7 W (.slice (some ⟨g, 0, none⟩) (n + 2) c) (n + 2) (zAc Sv.cs Ls ++ mk7)
 nr : OwnT o 3 B 49 1 W vN n (zAc Sv.rc Ls)
 fl : ∀ y ∈ Os, OwnT o 0 B y.e y.s W y.v y.n y.xs
 dn : ∀ (i : Nat) (s : Sv), Ls[i]? = some s → StD o B W (i + 4) s
theorem CoL.only2 {o : Nat → Nat} {B b : Nat} {W W' : World} {Os : List Ow} {Ls : List Sv} {g c n : Nat} {vN : Value} (h : CoL o B W Os Ls g c n vN) (ho : Only (fun q => q = b) W W') (hb : o b = 2) : CoL o B W' Os Ls g c n vN := by
 have M : Mk o o 2 W W' := ⟨⟨ho.size, fun k hk hn => ho.block k hk (fun e => hn (by rw [e]; exact hb))⟩, fun _ _ => rfl⟩
 exact ⟨M.own h.own (by decide), M.own h.nr (by decide), fun y hy => M.own (h.fl y hy) (by decide), fun i s hs => M.std (by decide) (h.dn i s hs) (by omega)⟩
theorem RmC.last {w W W' : World} {B p r : Nat} {o : Nat → Nat} {T0 Z1 Z2 U RR : Array Value} {Os : List Ow} {Ls : List Sv} {n g' c' : Nat} {vS vN : Value} (h : RmC w B p r o W T0 Z1 Z2 U RR Os Ls n vS vN n) (hl : Ls.length = n) (hg : W.grownBy W' vS.ownBlock) (hat : vS.ownBlock = some g' ∨ W.heap.size ≤ g') (own' : W'.ownsRow B 51 7 (.slice (some ⟨g', 0, none⟩) (n + 2) c') (n + 2) (zAc Sv.cs Ls ++ mk7)) :
  ∃ o', (Below w.heap.size w W' ∧ Has W' w.heap.size T0 ∧ Has W' (w.heap.size + 1) Z1 ∧ Has W' (w.heap.size + 1 + 1) Z2 ∧ Has W' p U ∧ Has W' r RR) ∧ CoL o' B W' Os Ls g' c' n vN ∧ (o' p = 2 ∧ o' r = 2) ∧ o' (w.heap.size + 1) = 2 ∧ o' (w.heap.size + 1 + 1) = 2 := by
 subst hl
 obtain ⟨t0, t1, t2, t3, t4⟩ := h.tg
 have M := Mk.grown h.own hg
 have n1 := h.ne.1
 have n2 : ∀ {x : Nat}, o x = 2 → o x ≠ 1 := fun e => by rw [e]; decide
 have hn := h.nr
 rw [List.take_length] at hn
 refine ⟨_, ⟨zAn h.hb hg (Nat.le_refl _) (fun q hq => by have := (zAg h.own.own q hq).1; omega), M.has h.box (n2 t0), M.has h.r1 (n2 t1), M.has h.r2 (n2 t2), M.has h.ub (n2 t3), M.has h.rb (n2 t4)⟩, ⟨OwnT.grown h.own hat own', M.own hn (by decide), fun y hy => M.own (h.fl y hy) (by decide), fun i s hs => M.std (by decide) (h.dn i s (List.getElem?_eq_some_iff.1 hs).1 hs) (by omega)⟩, ⟨by rw [M.o _ h.ub.1]; exact t3, by rw [M.o _ h.rb.1]; exact t4⟩, by rw [M.o _ h.r1.1]; exact t1, by rw [M.o _ h.r2.1]; exact t2⟩
theorem sv_at {Ls : List Sv} {k : Nat} {s : Sv} (h : Ls[k]? = some s) : (zAc Sv.cs Ls)[k * 7 + 6]? = some (.slice s.na s.x.nexts.length s.nc) := by
 obtain ⟨h1, h2⟩ := List.getElem?_eq_some_iff.1 h
 rw [zBn sv_len Ls k 6 h1 (by decide), h2]; rfl
theorem Mk.sti0 {o : Nat → Nat} {u : Nat} {W W' : World} (_ : Mk o o u W W') {B t : Nat} {s : Sv} (q : StI o B W t s) (hb : Below W.heap.size W W') : StI o B W' t s := q.ky (Ky.below (t := t + 1) hb) (by omega) (by omega)
theorem hideG {P : Prop} (h : P) : Hid P := h
theorem roomyTyped_any (G : List Gp) (C : List Cf) (D : List Dt) (TM CT : List ByteArray) (VR : List Vr) (SG : List Ts) (pn : ByteArray) (ga ca da ta ka va sa : Option Addr) (gc cc dc tc kc vc sc : Nat) (stt : Int) (w : World) (hG : Fl 5 Gp.cs w (.slice ga G.length gc) G) (hF : Fl 4 Cf.cs w (.slice ca C.length cc) C) (hD : Fl 4 Dt.cs w (.slice da D.length dc) D) (hT : Fl 1 txC w (.slice ta TM.length tc) TM) (hC : Fl 1 txC w (.slice ka CT.length kc) CT) (hV : Fl 2 Vr.cs w (.slice va VR.length vc) VR) (hS : Tss (fun _ => True) w (.slice sa SG.length sc) SG) (lG : G.length ≤ 2932031007317) (lF : C.length ≤ 4398046511000) (lD : D.length ≤ 3518437208780) (lT : TM.length ≤ 8796093022100) (lC : CT.length ≤ 8796093022100) (lV : VR.length ≤ 5864062014700) (lS : SG.length ≤ 1099511627744) :
  Calls Tryz.prog 16 #[.agg #[.string pn, .slice ga G.length gc, .slice ca C.length cc, .slice da D.length dc, .slice ta TM.length tc, .slice ka CT.length kc, .slice va VR.length vc, .slice sa SG.length sc, .int .i64 stt]] w fun e w' => RyP w' G C D TM CT VR SG pn stt e ∧ Below w.heap.size w w' := by
 obtain ⟨i36, h36, h360, h361, h362⟩ := info_parts info36r
 obtain ⟨i81, h81, h810, h811, h812⟩ := info_parts info81
 obtain ⟨i84, h84, h840, h841, h842⟩ := info_parts info84
 have hB0 : Below w.heap.size w (((w.alloc (.cells #[.string pn, .slice ga G.length gc, .slice ca C.length cc, .slice da D.length dc, .slice ta TM.length tc, .slice ka CT.length kc, .slice va VR.length vc, .slice sa SG.length sc, .int .i64 stt] 31)).alloc (.cells #[.string ⟨#[]⟩, .slice none 0 0, .slice none 0 0, .slice none 0 0, .slice none 0 0, .slice none 0 0, .slice none 0 0, .slice none 0 0, .int .i64 0] 31)).alloc (.cells #[.slice none 0 0, .slice none 0 0, .slice none 0 0, .slice none 0 0] 65)) := bel3o
 have K0 : Has (((w.alloc (.cells #[.string pn, .slice ga G.length gc, .slice ca C.length cc, .slice da D.length dc, .slice ta TM.length tc, .slice ka CT.length kc, .slice va VR.length vc, .slice sa SG.length sc, .int .i64 stt] 31)).alloc (.cells #[.string ⟨#[]⟩, .slice none 0 0, .slice none 0 0, .slice none 0 0, .slice none 0 0, .slice none 0 0, .slice none 0 0, .slice none 0 0, .int .i64 0] 31)).alloc (.cells #[.slice none 0 0, .slice none 0 0, .slice none 0 0, .slice none 0 0] 65)) w.heap.size #[.string pn, .slice ga G.length gc, .slice ca C.length cc, .slice da D.length dc, .slice ta TM.length tc, .slice ka CT.length kc, .slice va VR.length vc, .slice sa SG.length sc, .int .i64 stt] := ((Has.new w _ _ rfl).alloc _).alloc _
 have K1 : Has (((w.alloc (.cells #[.string pn, .slice ga G.length gc, .slice ca C.length cc, .slice da D.length dc, .slice ta TM.length tc, .slice ka CT.length kc, .slice va VR.length vc, .slice sa SG.length sc, .int .i64 stt] 31)).alloc (.cells #[.string ⟨#[]⟩, .slice none 0 0, .slice none 0 0, .slice none 0 0, .slice none 0 0, .slice none 0 0, .slice none 0 0, .slice none 0 0, .int .i64 0] 31)).alloc (.cells #[.slice none 0 0, .slice none 0 0, .slice none 0 0, .slice none 0 0] 65)) (w.heap.size + 1) #[.string ⟨#[]⟩, .slice none 0 0, .slice none 0 0, .slice none 0 0, .slice none 0 0, .slice none 0 0, .slice none 0 0, .slice none 0 0, .int .i64 0] := (Has.new _ _ _ (by simp)).alloc _
 have K2 : Has (((w.alloc (.cells #[.string pn, .slice ga G.length gc, .slice ca C.length cc, .slice da D.length dc, .slice ta TM.length tc, .slice ka CT.length kc, .slice va VR.length vc, .slice sa SG.length sc, .int .i64 stt] 31)).alloc (.cells #[.string ⟨#[]⟩, .slice none 0 0, .slice none 0 0, .slice none 0 0, .slice none 0 0, .slice none 0 0, .slice none 0 0, .slice none 0 0, .int .i64 0] 31)).alloc (.cells #[.slice none 0 0, .slice none 0 0, .slice none 0 0, .slice none 0 0] 65)) (w.heap.size + 1 + 1) #[.slice none 0 0, .slice none 0 0, .slice none 0 0, .slice none 0 0] := Has.new _ _ _ (by simp)
 have hz0 : w.heap.size + 1 + 1 < ((((w.alloc (.cells #[.string pn, .slice ga G.length gc, .slice ca C.length cc, .slice da D.length dc, .slice ta TM.length tc, .slice ka CT.length kc, .slice va VR.length vc, .slice sa SG.length sc, .int .i64 stt] 31)).alloc (.cells #[.string ⟨#[]⟩, .slice none 0 0, .slice none 0 0, .slice none 0 0, .slice none 0 0, .slice none 0 0, .slice none 0 0, .slice none 0 0, .int .i64 0] 31)).alloc (.cells #[.slice none 0 0, .slice none 0 0, .slice none 0 0, .slice none 0 0] 65))).heap.size := K2.1
 have k51 := hideG (fun (X : World) (hX : Below w.heap.size w X) => roomy_any G C _ _ X (hG.below hX) (hF.below hX) (by omega) lF)
 have k50 := copyTyped_any G C D TM CT VR SG pn ga ca da ta ka va sa gc cc dc tc kc vc sc stt (((w.alloc (.cells #[.string pn, .slice ga G.length gc, .slice ca C.length cc, .slice da D.length dc, .slice ta TM.length tc, .slice ka CT.length kc, .slice va VR.length vc, .slice sa SG.length sc, .int .i64 stt] 31)).alloc (.cells #[.string ⟨#[]⟩, .slice none 0 0, .slice none 0 0, .slice none 0 0, .slice none 0 0, .slice none 0 0, .slice none 0 0, .slice none 0 0, .int .i64 0] 31)).alloc (.cells #[.slice none 0 0, .slice none 0 0, .slice none 0 0, .slice none 0 0] 65)) (hG.below hB0) (hF.below hB0) (hD.below hB0) (hT.below hB0) (hC.below hB0) (hV.below hB0) (Tss.below hS hB0) (by omega) lF lD lT lC lV lS
 have lNx : Hid (∀ x ∈ SG, x.nexts.length ≤ 4398046511000) := by
  intro x hx; obtain ⟨_, _, _, _, kS⟩ := Rows.any hS; obtain ⟨i, hi, rfl⟩ := List.getElem_of_mem hx; obtain ⟨_, _, _, _, _, P⟩ := kS.resolve_left (by intro e; rw [e] at hi; simp at hi); obtain ⟨_, _, ⟨_, _, _, _, _, _, _, _, q⟩, _⟩ := P i hi; exact Rows.le q
 clear hG hF hD hT hC hV hS
 go_enter Tryz.func16, Tryz.ntmps16
 go_wp2_with fail
 generalize (((w.alloc (.cells #[.string pn, .slice ga G.length gc, .slice ca C.length cc, .slice da D.length dc, .slice ta TM.length tc, .slice ka CT.length kc, .slice va VR.length vc, .slice sa SG.length sc, .int .i64 stt] 31)).alloc (.cells #[.string ⟨#[]⟩, .slice none 0 0, .slice none 0 0, .slice none 0 0, .slice none 0 0, .slice none 0 0, .slice none 0 0, .slice none 0 0, .int .i64 0] 31)).alloc (.cells #[.slice none 0 0, .slice none 0 0, .slice none 0 0, .slice none 0 0] 65)) = Y at *
 go_at_call 13
 refine Calls.mono k50 ?_
 rintro e w1 ⟨o, Ls, a1, a2, a3, a4, a5, a6, sb, c1, c2, c3, c4, c5, c6, sd, rfl, hLs, hE⟩
 have hB1 := zAa hB0 hB0.size hE.hb
 have K0 := K0.below hE.hb
 have K1 := K1.below hE.hb
 have K2 := K2.below hE.hb
 clear k50 hB0
 have hLl : Hid (Ls.length = SG.length) := by show _ = _; rw [← hLs, List.length_map]
 have K0a := K0.alloc (.cells #[.string pn, .slice a1 G.length c1, .slice a2 C.length c2, .slice a3 D.length c3, .slice a4 TM.length c4, .slice a5 CT.length c5, .slice a6 VR.length c6, .slice sb SG.length sd, .int .i64 stt] 31)
 have P0 : Has (w1.alloc (.cells #[.string pn, .slice a1 G.length c1, .slice a2 C.length c2, .slice a3 D.length c3, .slice a4 TM.length c4, .slice a5 CT.length c5, .slice a6 VR.length c6, .slice sb SG.length sd, .int .i64 stt] 31)) w1.heap.size #[.string pn, .slice a1 G.length c1, .slice a2 C.length c2, .slice a3 D.length c3, .slice a4 TM.length c4, .slice a5 CT.length c5, .slice a6 VR.length c6, .slice sb SG.length sd, .int .i64 stt] := Has.new _ _ _ rfl
 have hBa : Below w1.heap.size w1 (w1.alloc (.cells #[.string pn, .slice a1 G.length c1, .slice a2 C.length c2, .slice a3 D.length c3, .slice a4 TM.length c4, .slice a5 CT.length c5, .slice a6 VR.length c6, .slice sb SG.length sd, .int .i64 stt] 31)) := bel1 _
 have P0w : Has (w1.alloc (.cells #[.string pn, .slice a1 G.length c1, .slice a2 C.length c2, .slice a3 D.length c3, .slice a4 TM.length c4, .slice a5 CT.length c5, .slice a6 VR.length c6, .slice sb SG.length sd, .int .i64 stt] 31)) w1.heap.size #[.string pn, .slice a1 G.length c1, .slice a2 C.length c2, .slice a3 D.length c3, .slice a4 TM.length c4, .slice a5 CT.length c5, .slice a6 VR.length c6, .slice sb SG.length sd, .int .i64 stt] := P0
 obtain ⟨_, b0, _⟩ := id K0
 go_wp2_with fail
 generalize (w1.alloc (.cells #[.string pn, .slice a1 G.length c1, .slice a2 C.length c2, .slice a3 D.length c3, .slice a4 TM.length c4, .slice a5 CT.length c5, .slice a6 VR.length c6, .slice sb SG.length sd, .int .i64 stt] 31)) = W1 at *
 go_at_call 44
 refine Calls.mono (k51.out _ (zAa hB1 hB1.size hBa)) ?_
 rintro e w2 ⟨⟨g1, d1, g2, d2, rfl, nG, nC⟩, hb2⟩
 have hB2 := zAa hBa hBa.size hb2
 have K0 := K0.below hB2
 have K1 := K1.below hB2
 have K2 := K2.below hB2
 have P0 := P0.below hb2
 clear b0 K0a k51
 obtain ⟨_, b0, _⟩ := id K0
 obtain ⟨_, p0, pz0⟩ := id P0
 go_wp2_with fail
 have P1 := (P0.set 1 (by simp) (.slice (some ⟨g1, 0, none⟩) G.length d1)).set 2 (by simp) (.slice (some ⟨g2, 0, none⟩) C.length d2)
 simp only [List.setIfInBounds_toArray, List.set_cons_succ, List.set_cons_zero] at P1
 have hz1 := hE.hb.size
 have hz2 := hB2.size
 have hBX : Below w1.heap.size w1 ((((w2.setCell ⟨w1.heap.size, 1, none⟩ (.slice (some ⟨g1, 0, none⟩) G.length d1)).setCell ⟨w1.heap.size, 2, none⟩ (.slice (some ⟨g2, 0, none⟩) C.length d2)).alloc (.cells #[.slice (some ⟨g1, 0, none⟩) G.length d1, .slice (some ⟨g2, 0, none⟩) C.length d2] 25)).alloc (.cells #[.slice (some ⟨g1, 0, none⟩) (G.length + 2) d1, .slice (some ⟨g2, 0, none⟩) (C.length + 2) d2, .slice none 0 0, .slice none 0 0] 65)) := (((hB2.setCell (p := ⟨w1.heap.size, 1, none⟩) (Nat.le_refl _) _).setCell (p := ⟨w1.heap.size, 2, none⟩) (Nat.le_refl _) _).alloc (by simpa [World.setCell] using hz2) _).alloc (by simp [World.setCell]; omega) _
 have hb1 : Below w.heap.size w ((((w2.setCell ⟨w1.heap.size, 1, none⟩ (.slice (some ⟨g1, 0, none⟩) G.length d1)).setCell ⟨w1.heap.size, 2, none⟩ (.slice (some ⟨g2, 0, none⟩) C.length d2)).alloc (.cells #[.slice (some ⟨g1, 0, none⟩) G.length d1, .slice (some ⟨g2, 0, none⟩) C.length d2] 25)).alloc (.cells #[.slice (some ⟨g1, 0, none⟩) (G.length + 2) d1, .slice (some ⟨g2, 0, none⟩) (C.length + 2) d2, .slice none 0 0, .slice none 0 0] 65)) := zAa hB1 hB1.size hBX
 have hO2 : Only (fun q => q = w1.heap.size) w2 ((((w2.setCell ⟨w1.heap.size, 1, none⟩ (.slice (some ⟨g1, 0, none⟩) G.length d1)).setCell ⟨w1.heap.size, 2, none⟩ (.slice (some ⟨g2, 0, none⟩) C.length d2)).alloc (.cells #[.slice (some ⟨g1, 0, none⟩) G.length d1, .slice (some ⟨g2, 0, none⟩) C.length d2] 25)).alloc (.cells #[.slice (some ⟨g1, 0, none⟩) (G.length + 2) d1, .slice (some ⟨g2, 0, none⟩) (C.length + 2) d2, .slice none 0 0, .slice none 0 0] 65)) := (((zAm w2 w1.heap.size 1 (.slice (some ⟨g1, 0, none⟩) G.length d1)).trans (zAm _ w1.heap.size 2 (.slice (some ⟨g2, 0, none⟩) C.length d2))).alloc _).alloc _
 have hI := hE.rm (r := w2.heap.size + 1) hb1 hBX (K0.only hO2 (by omega)) (K1.only hO2 (by omega)) (K2.only hO2 (by omega)) ((P1.alloc (.cells #[.slice (some ⟨g1, 0, none⟩) G.length d1, .slice (some ⟨g2, 0, none⟩) C.length d2] 25)).alloc (.cells #[.slice (some ⟨g1, 0, none⟩) (G.length + 2) d1, .slice (some ⟨g2, 0, none⟩) (C.length + 2) d2, .slice none 0 0, .slice none 0 0] 65)) (Has.new _ #[.slice (some ⟨g1, 0, none⟩) (G.length + 2) d1, .slice (some ⟨g2, 0, none⟩) (C.length + 2) d2, .slice none 0 0, .slice none 0 0] 65 (by simp [World.setCell])) hz0 (by omega)
  (Og := [⟨73, 5, .slice (some ⟨g1, 0, none⟩) (G.length + 2) d1, G.length + 2, zAc Gp.cs G ++ marksG⟩, ⟨75, 4, .slice (some ⟨g2, 0, none⟩) (C.length + 2) d2, C.length + 2, zAc Cf.cs C ++ marksC⟩]) (by
   have n1 := zAg nG g1 rfl; have n2 := zAg nC g2 rfl; have z3 := P0w.1; intro y hy; simp only [List.mem_cons, List.not_mem_nil, or_false] at hy; rcases hy with rfl | rfl
   ·exact ⟨zBc (zBf nG hO2 (fun q hq e => by have e' : g1 = q := (by injection hq); omega)) (by omega), fun q hq => by have e' : g1 = q := (by injection hq); omega⟩
   ·exact ⟨zBc (zBf nC hO2 (fun q hq e => by have e' : g2 = q := (by injection hq); omega)) (by omega), fun q hq => by have e' : g2 = q := (by injection hq); omega⟩)
 obtain ⟨hI, hI2⟩ := hI
 have hI' : RmC w Y.heap.size w1.heap.size (w2.heap.size + 1) _ ((((w2.setCell ⟨w1.heap.size, 1, none⟩ (.slice (some ⟨g1, 0, none⟩) G.length d1)).setCell ⟨w1.heap.size, 2, none⟩ (.slice (some ⟨g2, 0, none⟩) C.length d2)).alloc (.cells #[.slice (some ⟨g1, 0, none⟩) G.length d1, .slice (some ⟨g2, 0, none⟩) C.length d2] 25)).alloc (.cells #[.slice (some ⟨g1, 0, none⟩) (G.length + 2) d1, .slice (some ⟨g2, 0, none⟩) (C.length + 2) d2, .slice none 0 0, .slice none 0 0] 65)) #[.string pn, .slice ga G.length gc, .slice ca C.length cc, .slice da D.length dc, .slice ta TM.length tc, .slice ka CT.length kc, .slice va VR.length vc, .slice sa SG.length sc, .int .i64 stt] #[.string ⟨#[]⟩, .slice none 0 0, .slice none 0 0, .slice none 0 0, .slice none 0 0, .slice none 0 0, .slice none 0 0, .slice none 0 0, .int .i64 0] #[.slice none 0 0, .slice none 0 0, .slice none 0 0, .slice none 0 0] #[.string pn, .slice (some ⟨g1, 0, none⟩) G.length d1, .slice (some ⟨g2, 0, none⟩) C.length d2, .slice a3 D.length c3, .slice a4 TM.length c4, .slice a5 CT.length c5, .slice a6 VR.length c6, .slice sb SG.length sd, .int .i64 stt] #[.slice (some ⟨g1, 0, none⟩) (G.length + 2) d1, .slice (some ⟨g2, 0, none⟩) (C.length + 2) d2, .slice none 0 0, .slice none 0 0] (⟨73, 5, .slice (some ⟨g1, 0, none⟩) (G.length + 2) d1, G.length + 2, zAc Gp.cs G ++ marksG⟩ :: ⟨75, 4, .slice (some ⟨g2, 0, none⟩) (C.length + 2) d2, C.length + 2, zAc Cf.cs C ++ marksC⟩ :: [⟨117, 2, .slice a6 VR.length c6, VR.length, zAc Vr.cs VR⟩, ⟨9, 1, .slice a5 CT.length c5, CT.length, zAc txC CT⟩, ⟨9, 1, .slice a4 TM.length c4, TM.length, zAc txC TM⟩, ⟨89, 4, .slice a3 D.length c3, D.length, zAc Dt.cs D⟩]) Ls 0 (.slice sb SG.length sd) (.slice none 0 0) 0 := hI
 clear hI K0 K1 K2 P0 P1 hBX hO2 hE nG nC b0 p0 pz0 hb2 hB2 hBa P0w
 generalize ((((w2.setCell ⟨w1.heap.size, 1, none⟩ (.slice (some ⟨g1, 0, none⟩) G.length d1)).setCell ⟨w1.heap.size, 2, none⟩ (.slice (some ⟨g2, 0, none⟩) C.length d2)).alloc (.cells #[.slice (some ⟨g1, 0, none⟩) G.length d1, .slice (some ⟨g2, 0, none⟩) C.length d2] 25)).alloc (.cells #[.slice (some ⟨g1, 0, none⟩) (G.length + 2) d1, .slice (some ⟨g2, 0, none⟩) (C.length + 2) d2, .slice none 0 0, .slice none 0 0] 65)) = Z at *
 go_loopg [7, 8, 9] SG.length (fun gk s7 s8 s9 wr => ∃ (k : Nat) (o : Nat → Nat) (Ls : List Sv) (na : Option Addr) (nc : Nat), k + gk = SG.length ∧ s7 = .int .i64 (k : Int) ∧ Hid (Ls.map (·.x) = SG) ∧ Hid (RmC w Y.heap.size w1.heap.size (w2.heap.size + 1) o wr #[.string pn, .slice ga G.length gc, .slice ca C.length cc, .slice da D.length dc, .slice ta TM.length tc, .slice ka CT.length kc, .slice va VR.length vc, .slice sa SG.length sc, .int .i64 stt] #[.string ⟨#[]⟩, .slice none 0 0, .slice none 0 0, .slice none 0 0, .slice none 0 0, .slice none 0 0, .slice none 0 0, .slice none 0 0, .int .i64 0] #[.slice none 0 0, .slice none 0 0, .slice none 0 0, .slice none 0 0] #[.string pn, .slice (some ⟨g1, 0, none⟩) G.length d1, .slice (some ⟨g2, 0, none⟩) C.length d2, .slice a3 D.length c3, .slice a4 TM.length c4, .slice a5 CT.length c5, .slice a6 VR.length c6, .slice sb SG.length sd, .int .i64 stt] #[.slice (some ⟨g1, 0, none⟩) (G.length + 2) d1, .slice (some ⟨g2, 0, none⟩) (C.length + 2) d2, .slice none 0 0, .slice na k nc] (⟨73, 5, .slice (some ⟨g1, 0, none⟩) (G.length + 2) d1, G.length + 2, zAc Gp.cs G ++ marksG⟩ :: ⟨75, 4, .slice (some ⟨g2, 0, none⟩) (C.length + 2) d2, C.length + 2, zAc Cf.cs C ++ marksC⟩ :: [⟨117, 2, .slice a6 VR.length c6, VR.length, zAc Vr.cs VR⟩, ⟨9, 1, .slice a5 CT.length c5, CT.length, zAc txC CT⟩, ⟨9, 1, .slice a4 TM.length c4, TM.length, zAc txC TM⟩, ⟨89, 4, .slice a3 D.length c3, D.length, zAc Dt.cs D⟩]) Ls k (.slice sb SG.length sd) (.slice na k nc) k) ∧ Hid (∀ s, Ls[k]? = some s → StI o Y.heap.size wr (k + 4) s))
 case atStart => exact ⟨0, _, Ls, none, 0, by omega, rfl, hLs, hI', hI2⟩
 case round =>
  clear hLs hI' hI2 hLl; obtain ⟨k, o, Ls, na, nc, hk, rfl, hLs, hI, hI2⟩ := hrel; have hLl : Hid (Ls.length = SG.length) := by show _ = _; rw [← hLs.out, List.length_map]
  obtain ⟨_, b0, _⟩ := id hI.out.box; obtain ⟨_, u0, uz0⟩ := id hI.out.ub; obtain ⟨_, rr0, rz0⟩ := id hI.out.rb
  by_cases hlt : k < SG.length
  ·obtain ⟨gS, _, eS, _, hgS, hgS2⟩ := zBb hI.out.own.own (by have := hLl.out; omega)
   injection eS with eS eS2 eS3
   subst eS; clear eS2 eS3; have hkl : k < Ls.length := by have := hLl.out; omega
   have hs : Hid (Ls[k]? = some Ls[k]) := List.getElem?_eq_getElem hkl; have hst := hI2.out _ hs.out; have hOw := hI.out.own.own; rw [hLl.out] at hOw; have c6 := (hOw.cellAt (k * 7 + 6) (by omega)).trans (sv_at hs.out); clear hOw; have hlx : Ls[k].x ∈ SG := by rw [← hLs.out]; exact List.mem_map.2 ⟨_, List.getElem_mem hkl, rfl⟩
   have lN := lNx.out _ hlx; have hB : Y.heap.size ≤ wr.heap.size := Nat.le_of_lt (Nat.lt_of_le_of_lt hgS hgS2); have t1 : (k : Int) < (SG.length : Int) := by omega
   have t0 : (0 : Int) ≤ (k : Int) := by omega
   clear hlx; generalize Ls[k] = s at *; have t2 : (0 : Int) ≤ (s.x.nexts.length : Int) := by omega
   go_wp2_with (at_builtin; refine zAd _ rfl _ _ 49 rfl Y.heap.size 58 i84 _ 2 32 Tryz.underlying49 h84 h840 h841 h842 rfl (by decide) (.slice s.na s.x.nexts.length s.nc) s.x.nexts.length s.xs rfl (zAe hst.n.own (bel1 _)) ⟨wr.heap.size, 0, none⟩ 2 2 mkT rfl rfl (zBa (W := wr) rfl _ _) (zAz rfl) (by decide) (by unfold maxLen; omega) (by omega) (by simp; omega) ?_; intro g' c' w4 o4 hg4 hat4 _ hcap4; obtain ⟨I4, D4⟩ := (hI.out.below (bel1 _)).marked ((Mk.below (u := 0) (bel1 _)).sti0 hst (bel1 _)) (by simp; omega) hg4 hat4 o4; clear c6 u0 uz0 rr0 rz0; obtain ⟨_, u0, uz0⟩ := id I4.ub; obtain ⟨_, rr0, rz0⟩ := id I4.rb)
   have q7 := u0 7; simp only [List.getElem?_toArray, List.getElem?_cons_succ, List.getElem?_cons_zero] at q7; have hOw := I4.own.own; rw [hLl.out] at hOw; have q8 := (hOw.cellAt (k * 7 + 6) (by omega)).trans (sv_at hs.out); have q9 := hOw.frozenAt (k * 7 + 6); clear hOw; have t3 : (s.x.nexts.length : Int) ≤ (c' : Int) := by omega
   refine wp_region_noPanic ?_; refine wp_region_E (S := fun w' => w'.cell? ⟨w1.heap.size, 7, none⟩ = some (.slice (some ⟨gS, 0, none⟩) SG.length sd)) (E := 8) (by kernel_rfl) ?_ (fun hHeld => ?_)
   ·(try dsimp only)
    exact q7
   refine zAy (i := 0) (oi := ⟨some 44, .fieldAddr 31 (.tmp 4) 6, 0, "law.go:49", #[], none⟩) (v := ?_) rfl (by kernel_rfl) (by kernel_rfl) (by kernel_rfl) (by kernel_rfl) (fun _ _ _ h => h) (Or.inl ⟨by rfl, ?_⟩) (by assumption) ?_; rotate_left
   ·intro wz hSz; (try dsimp only at hSz); go_simp; all_goals (with_reducible rfl)
   (try simp only [Act.put, List.setIfInBounds_toArray, List.set_cons_zero, List.set_cons_succ])
   refine zAy (i := 1) (oi := ⟨some 45, .load 29 (.tmp 44), 29, "law.go:49", #[⟨0, .data⟩], none⟩) (v := ?_) rfl (by kernel_rfl) (by kernel_rfl) (by kernel_rfl) (by kernel_rfl) (fun _ _ _ h => h) (Or.inl ⟨by rfl, ?_⟩) (by assumption) ?_; rotate_left
   ·intro wz hSz; (try dsimp only at hSz); go_simp; all_goals (with_reducible rfl)
   (try simp only [Act.put, List.setIfInBounds_toArray, List.set_cons_zero, List.set_cons_succ])
   refine zAy (i := 2) (oi := ⟨some 46, .move (.tmp 7), 3, "law.go:49", #[], none⟩) (v := ?_) rfl (by kernel_rfl) (by kernel_rfl) (by kernel_rfl) (by kernel_rfl) (fun _ _ _ h => h) (Or.inl ⟨by rfl, ?_⟩) (by assumption) ?_; rotate_left
   ·intro wz hSz; (try dsimp only at hSz); go_simp; all_goals (with_reducible rfl)
   (try simp only [Act.put, List.setIfInBounds_toArray, List.set_cons_zero, List.set_cons_succ])
   refine zAy (i := 3) (oi := ⟨some 47, .move (.tmp 9), 49, "law.go:49", #[], none⟩) (v := ?_) rfl (by kernel_rfl) (by kernel_rfl) (by kernel_rfl) (by kernel_rfl) (fun _ _ _ h => h) (Or.inl ⟨by rfl, ?_⟩) (by assumption) ?_; rotate_left
   ·intro wz hSz; (try dsimp only at hSz); go_simp; all_goals (with_reducible rfl)
   (try simp only [Act.put, List.setIfInBounds_toArray, List.set_cons_zero, List.set_cons_succ])
   refine zAy (i := 4) (oi := ⟨some 48, .move (.tmp 8), 3, "law.go:49", #[], none⟩) (v := ?_) rfl (by kernel_rfl) (by kernel_rfl) (by kernel_rfl) (by kernel_rfl) (fun _ _ _ h => h) (Or.inl ⟨by rfl, ?_⟩) (by assumption) ?_; rotate_left
   ·intro wz hSz; (try dsimp only at hSz); go_simp; all_goals (with_reducible rfl)
   (try simp only [Act.put, List.setIfInBounds_toArray, List.set_cons_zero, List.set_cons_succ])
   refine zAy (i := 5) (oi := ⟨some 49, .slice 49 (.tmp 47) none (some (.tmp 48)) none, 49, "law.go:49", #[⟨3, .data⟩, ⟨4, .data⟩], none⟩) (v := ?_) rfl (by kernel_rfl) (by kernel_rfl) (by kernel_rfl) (by kernel_rfl) (fun _ _ _ h => h) (Or.inl ⟨by rfl, ?_⟩) (by assumption) ?_; rotate_left
   ·intro wz hSz; (try dsimp only at hSz); go_simp; all_goals (with_reducible rfl)
   (try simp only [Act.put, List.setIfInBounds_toArray, List.set_cons_zero, List.set_cons_succ])
   refine zFz (i := 6) (o := ⟨some 50, .indexAddr 29 (.tmp 45) (.tmp 46), 0, "law.go:49", #[⟨1, .data⟩, ⟨2, .data⟩, ⟨0, .phase⟩, ⟨1, .phase⟩, ⟨2, .phase⟩, ⟨3, .phase⟩, ⟨4, .phase⟩, ⟨5, .phase⟩], none⟩) (by kernel_rfl) rfl (by rfl) (fun K hK => ?_)
   go_simp
   refine hK.out _ _ hHeld (fun hHeld => ?_); clear hK K
   (try simp only [Act.put, List.setIfInBounds_toArray, List.set_cons_zero, List.set_cons_succ])
   refine zAy (i := 7) (oi := ⟨some 51, .fieldAddr 51 (.tmp 50) 6, 0, "law.go:49", #[⟨6, .data⟩, ⟨0, .phase⟩, ⟨1, .phase⟩, ⟨2, .phase⟩, ⟨3, .phase⟩, ⟨4, .phase⟩, ⟨5, .phase⟩], none⟩) (v := ?_) rfl (by kernel_rfl) (by kernel_rfl) (by kernel_rfl) (by kernel_rfl) (fun _ _ _ h => h) (Or.inl ⟨by rfl, ?_⟩) (by assumption) ?_; rotate_left
   ·intro wz hSz; (try dsimp only at hSz); go_simp; all_goals (with_reducible rfl)
   (try simp only [Act.put, List.setIfInBounds_toArray, List.set_cons_zero, List.set_cons_succ])
   refine wpAnyE_last (o := ⟨none, .store 49 (.tmp 51) (.tmp 49), 0, "law.go:49", #[⟨7, .data⟩, ⟨5, .data⟩, ⟨0, .phase⟩, ⟨1, .phase⟩, ⟨2, .phase⟩, ⟨3, .phase⟩, ⟨4, .phase⟩, ⟨5, .phase⟩], none⟩) (by kernel_rfl) rfl (by kernel_rfl) (by rfl) (fun K hK => ?_); have I4d := I4.below belD0; have D4d := (Mk.below (u := k + 5) belD0).std (by omega) D4 (by omega); obtain ⟨I5, D5⟩ := I4d.put hLl.out.symm hs.out rfl D4d
   dsimp only at I5 D5
   have eW : w4.drew.setCell ⟨gS, k * 7 + 6, none⟩ (.slice (some ⟨g', 0, none⟩) s.x.nexts.length c') = (w4.setCell ⟨gS, k * 7 + 6, none⟩ (.slice (some ⟨g', 0, none⟩) s.x.nexts.length c')).drew := rfl; rw [eW] at I5 D5; clear eW
   go_simp
   refine hK _ _ ?_; refine NoPanic.normal ?_; generalize (w4.setCell ⟨gS, k * 7 + 6, none⟩ (.slice (some ⟨g', 0, none⟩) s.x.nexts.length c')).drew = W5 at *; clear hK K hHeld I4 D4 I4d D4d q7 q8 q9 u0 uz0 rr0 rz0 b0 hst hI hI2; obtain ⟨_, b0, _⟩ := id I5.box; obtain ⟨_, u0, uz0⟩ := id I5.ub; obtain ⟨_, rr0, rz0⟩ := id I5.rb; have hkl : k < Ls.length := (List.getElem?_eq_some_iff.1 hs.out).1; have h5 : Hid ((Ls.take k ++ { s with na := some ⟨g', 0, none⟩, nc := c' } :: Ls.drop (k + 1))[k]? = some { s with na := some ⟨g', 0, none⟩, nc := c' }) := put_at hkl; have h5m : Hid ((Ls.take k ++ { s with na := some ⟨g', 0, none⟩, nc := c' } :: Ls.drop (k + 1)).map (·.x) = SG) := by show _ = _; rw [put_map (z := { s with na := some ⟨g', 0, none⟩, nc := c' }) (·.x) hs.out rfl]; exact hLs.out
   generalize (Ls.take k ++ { s with na := some ⟨g', 0, none⟩, nc := c' } :: Ls.drop (k + 1)) = Ls5 at *; generalize (fun b => if b < (wr.alloc (.cells #[.int .i64 77, .slice none 0 0, .int .i64 77, .slice none 0 0] 58)).heap.size then o b else k + 4) = o5 at *
   go_wp2_with (at_builtin; refine zAd _ rfl _ _ 63 rfl Y.heap.size 49 i36 _ 1 24 Tryz.underlying63 h36 h360 h361 h362 rfl (by decide) (.slice na k nc) k (zAc Sv.rc (Ls5.take k)) rfl (I5.below (bel1 _)).nr.own ⟨W5.heap.size, 0, none⟩ 1 1 [.slice (some ⟨g', 0, none⟩) (s.x.nexts.length + 2) c'] rfl rfl (zBa (W := W5) rfl _ _) (zAz rfl) (by decide) (by unfold maxLen; omega) (by omega) (by have := I5.hb.size; simp; omega) ?_; intro g6 c6' w6 o6 hg6 hat6 _ _; obtain ⟨I6, D6⟩ := (I5.below (bel1 _)).more h5.out ((Mk.below (u := k + 5) (bel1 _)).std (by omega) D5 (by omega)) hg6 hat6 o6; clear b0 u0 uz0 rr0 rz0; obtain ⟨_, u0, uz0⟩ := id I6.ub; obtain ⟨_, rr0, rz0⟩ := id I6.rb)
   have I7 := I6.setR 3 (by simp) (.slice (some ⟨g6, 0, none⟩) (k + 1) c6'); simp only [List.setIfInBounds_toArray, List.set_cons_succ, List.set_cons_zero] at I7; have D7 := (Mk.std (o' := fun b => if b < (W5.alloc (.cells #[.slice (some ⟨g', 0, none⟩) (s.x.nexts.length + 2) c'] 49)).heap.size then o5 b else 3) ⟨Ky.set (g := w2.heap.size + 1) (i := 3) (v := .slice (some ⟨g6, 0, none⟩) (k + 1) c6') I6.tg.2.2.2.2, fun _ _ => rfl⟩ (by decide) D6 (by omega)); have I8 := I7.next h5.out D7; have h8 := fun (s' : Sv) (hs' : Ls5[k + 1]? = some s') => I7.st (k + 1) s' (by omega) hs'
   clear I5 D5 I6 D6 I7 D7
   go_roundg (gk - 1)
   case measure => go_light; omega
   case rel => exact ⟨k + 1, _, Ls5, _, _, by omega, by go_num, h5m, I8, h8⟩
  ·obtain rfl : k = SG.length := by omega
   have t1 : ¬ (SG.length : Int) < (SG.length : Int) := by omega
   have hOw := hI.out.own.own; rw [hLl.out] at hOw; have hB : Y.heap.size ≤ wr.heap.size := hI.out.sizeB
   go_wp2_with (at_builtin; refine zAd _ rfl _ _ 29 rfl Y.heap.size 51 i81 _ 7 128 Tryz.underlying29 h81 h810 h811 h812 rfl (by decide) (.slice sb SG.length sd) SG.length (zAc Sv.cs Ls) rfl (zAe hOw (bel1 _)) ⟨wr.heap.size, 0, none⟩ 2 2 mk7 rfl rfl (zBa (W := wr) rfl _ _) (zAz rfl) (by decide) (by unfold maxLen; omega) (by omega) (by simp; omega) ?_; intro g9 c9 w9 o9 hg9 hat9 _ hcap9; obtain ⟨oF, hF, hC, hT, hT1, hT2⟩ := (hI.out.below (bel1 _)).last hLl.out hg9 hat9 o9; obtain ⟨hb9, H0, H1, H2, HU, HR⟩ := hF; obtain ⟨n1, n2, n3⟩ := hI.out.ne; clear b0 u0 uz0 rr0 rz0; obtain ⟨_, u0, uz0⟩ := id HU; obtain ⟨_, rr0, rz0⟩ := id HR; have x1 : (0 : Int) ≤ (SG.length : Int) := (by omega); have x2 : (SG.length : Int) ≤ (c9 : Int) := (by omega); have HRs := HR.set 2 (by simp) (.slice (some ⟨g9, 0, none⟩) (SG.length + 2) c9); simp only [List.setIfInBounds_toArray, List.set_cons_succ, List.set_cons_zero] at HRs; obtain ⟨_, rr1, rz1⟩ := id HRs; have H0s := H0.far (c := w2.heap.size + 1) (i := 2) (by omega) (.slice (some ⟨g9, 0, none⟩) (SG.length + 2) c9); obtain ⟨_, b1, _⟩ := id H0s; have HUs := HU.far (c := w2.heap.size + 1) (i := 2) (by omega) (.slice (some ⟨g9, 0, none⟩) (SG.length + 2) c9); obtain ⟨_, u1, uz1⟩ := id HUs)
   have HU2 := HUs.set 7 (by simp) (.slice (some ⟨g9, 0, none⟩) SG.length c9); simp only [List.setIfInBounds_toArray, List.set_cons_succ, List.set_cons_zero] at HU2; have O1 : Only (fun q => q = w2.heap.size + 1) w9 (w9.setCell ⟨w2.heap.size + 1, 2, none⟩ (.slice (some ⟨g9, 0, none⟩) (SG.length + 2) c9)) := zAm _ _ _ _; have O2 : Only (fun q => q = w1.heap.size) (w9.setCell ⟨w2.heap.size + 1, 2, none⟩ (.slice (some ⟨g9, 0, none⟩) (SG.length + 2) c9)) ((w9.setCell ⟨w2.heap.size + 1, 2, none⟩ (.slice (some ⟨g9, 0, none⟩) (SG.length + 2) c9)).setCell ⟨w1.heap.size, 7, none⟩ (.slice (some ⟨g9, 0, none⟩) SG.length c9)) := zAm _ _ _ _; have HR2 := HRs.only O2 (by omega); have J1 := (H1.only O1 (by omega)).only O2 (by omega); have J2 := (H2.only O1 (by omega)).only O2 (by omega); have hC2 := (hC.only2 O1 hT.2).only2 O2 hT.1; have hb2 := zBy (zBy hb9 O1 (Nat.le_refl _) (fun q hq e => by omega)) O2 (Nat.le_refl _) (fun q hq e => by omega); clear H0 H1 H2 HU HR HRs H0s HUs rr0 rz0 rr1 rz1 b1 u0 uz0 u1 uz1 hC hb9 O1 O2 hI hI2 hOw; generalize ((w9.setCell ⟨w2.heap.size + 1, 2, none⟩ (.slice (some ⟨g9, 0, none⟩) (SG.length + 2) c9)).setCell ⟨w1.heap.size, 7, none⟩ (.slice (some ⟨g9, 0, none⟩) SG.length c9)) = X at *; obtain ⟨_, u0, _⟩ := id HU2; obtain ⟨_, rr0, _⟩ := id HR2; obtain ⟨_, f1, f2⟩ := id J1; obtain ⟨_, f3, f4⟩ := id J2; have F1 := set9 J1 rfl (.string pn) (.slice (some ⟨g1, 0, none⟩) G.length d1) (.slice (some ⟨g2, 0, none⟩) C.length d2) (.slice a3 D.length c3) (.slice a4 TM.length c4) (.slice a5 CT.length c5) (.slice a6 VR.length c6) (.slice (some ⟨g9, 0, none⟩) SG.length c9) (.int .i64 stt); have O3 := only9 X (w.heap.size + 1) (.string pn) (.slice (some ⟨g1, 0, none⟩) G.length d1) (.slice (some ⟨g2, 0, none⟩) C.length d2) (.slice a3 D.length c3) (.slice a4 TM.length c4) (.slice a5 CT.length c5) (.slice a6 VR.length c6) (.slice (some ⟨g9, 0, none⟩) SG.length c9) (.int .i64 stt); have F2 := (J2.only O3 (by omega)).set4 (.slice (some ⟨g1, 0, none⟩) (G.length + 2) d1) (.slice (some ⟨g2, 0, none⟩) (C.length + 2) d2) (.slice (some ⟨g9, 0, none⟩) (SG.length + 2) c9) (.slice na SG.length nc); have O4 := only4 (((((((((X.setCell ⟨w.heap.size + 1, 0, none⟩ (.string pn)).setCell ⟨w.heap.size + 1, 1, none⟩ (.slice (some ⟨g1, 0, none⟩) G.length d1)).setCell ⟨w.heap.size + 1, 2, none⟩ (.slice (some ⟨g2, 0, none⟩) C.length d2)).setCell ⟨w.heap.size + 1, 3, none⟩ (.slice a3 D.length c3)).setCell ⟨w.heap.size + 1, 4, none⟩ (.slice a4 TM.length c4)).setCell ⟨w.heap.size + 1, 5, none⟩ (.slice a5 CT.length c5)).setCell ⟨w.heap.size + 1, 6, none⟩ (.slice a6 VR.length c6)).setCell ⟨w.heap.size + 1, 7, none⟩ (.slice (some ⟨g9, 0, none⟩) SG.length c9)).setCell ⟨w.heap.size + 1, 8, none⟩ (.int .i64 stt)) (w.heap.size + 1 + 1) (.slice (some ⟨g1, 0, none⟩) (G.length + 2) d1) (.slice (some ⟨g2, 0, none⟩) (C.length + 2) d2) (.slice (some ⟨g9, 0, none⟩) (SG.length + 2) c9) (.slice na SG.length nc); have F1 := F1.only O4 (by omega); have hC3 := (hC2.only2 O3 hT1).only2 O4 hT2; have hb3 := zBy (zBy hb2 O3 (Nat.le_refl _) (fun q hq e => by omega)) O4 (Nat.le_refl _) (fun q hq e => by omega); have hC4 := hC3.only2 (b := w1.heap.size) ((Only.refl _ _).drew) hT.1; have F1d := F1.drew; have F2d := F2.drew; have hb4 := hb3.drew
   go_region
   clear F1 F2 hb2 hb3 hC2 hC3 O3 O4 J1 J2 HU2 HR2 u0 rr0 f1 f2 f3 f4; generalize (((((((((((((X.setCell ⟨w.heap.size + 1, 0, none⟩ (.string pn)).setCell ⟨w.heap.size + 1, 1, none⟩ (.slice (some ⟨g1, 0, none⟩) G.length d1)).setCell ⟨w.heap.size + 1, 2, none⟩ (.slice (some ⟨g2, 0, none⟩) C.length d2)).setCell ⟨w.heap.size + 1, 3, none⟩ (.slice a3 D.length c3)).setCell ⟨w.heap.size + 1, 4, none⟩ (.slice a4 TM.length c4)).setCell ⟨w.heap.size + 1, 5, none⟩ (.slice a5 CT.length c5)).setCell ⟨w.heap.size + 1, 6, none⟩ (.slice a6 VR.length c6)).setCell ⟨w.heap.size + 1, 7, none⟩ (.slice (some ⟨g9, 0, none⟩) SG.length c9)).setCell ⟨w.heap.size + 1, 8, none⟩ (.int .i64 stt)).setCell ⟨w.heap.size + 1 + 1, 0, none⟩ (.slice (some ⟨g1, 0, none⟩) (G.length + 2) d1)).setCell ⟨w.heap.size + 1 + 1, 1, none⟩ (.slice (some ⟨g2, 0, none⟩) (C.length + 2) d2)).setCell ⟨w.heap.size + 1 + 1, 2, none⟩ (.slice (some ⟨g9, 0, none⟩) (SG.length + 2) c9)).setCell ⟨w.heap.size + 1 + 1, 3, none⟩ (.slice na SG.length nc)).drew = V at *; obtain ⟨_, k1, _⟩ := id F1d; obtain ⟨_, k2, _⟩ := id F2d; have y1 := hC4.fl _ (.head _); have y2 := hC4.fl _ (.tail _ (.head _)); have y3 := hC4.fl _ (.tail _ (.tail _ (.head _))); have y4 := hC4.fl _ (.tail _ (.tail _ (.tail _ (.head _)))); have y5 := hC4.fl _ (.tail _ (.tail _ (.tail _ (.tail _ (.head _))))); have y6 := hC4.fl _ (.tail _ (.tail _ (.tail _ (.tail _ (.tail _ (.head _)))))); have fin : Hid (RyF V G C D TM CT VR SG g1 d1 g2 d2 g9 c9 a3 a4 a5 a6 na c3 c4 c5 c6 nc Ls) := ⟨hLs.out, zBc y1.own (Nat.zero_le _), zBc y2.own (Nat.zero_le _), zBc y6.own (Nat.zero_le _), zBc y5.own (Nat.zero_le _), zBc y4.own (Nat.zero_le _), zBc y3.own (Nat.zero_le _), zBc hC4.own.own (Nat.zero_le _), zBc hC4.nr.own (Nat.zero_le _), ⟨oF, _, hC4.dn⟩⟩; clear y1 y2 y3 y4 y5 y6 hC4; go_wp2; exact bodyPost_ret (v := .tuple #[.agg #[.string pn, .slice (some ⟨g1, 0, none⟩) G.length d1, .slice (some ⟨g2, 0, none⟩) C.length d2, .slice a3 D.length c3, .slice a4 TM.length c4, .slice a5 CT.length c5, .slice a6 VR.length c6, .slice (some ⟨g9, 0, none⟩) SG.length c9, .int .i64 stt], .agg #[.slice (some ⟨g1, 0, none⟩) (G.length + 2) d1, .slice (some ⟨g2, 0, none⟩) (C.length + 2) d2, .slice (some ⟨g9, 0, none⟩) (SG.length + 2) c9, .slice na SG.length nc]]) (by simp [results, Tryz.results16, go_sem, k1, k2]) rfl ⟨⟨g1, d1, g2, d2, g9, c9, a3, a4, a5, a6, na, c3, c4, c5, c6, nc, Ls, rfl, fin.out⟩, hb4⟩
end Go.Proofs.YtjfieclmagbfbaaGreatDoor
