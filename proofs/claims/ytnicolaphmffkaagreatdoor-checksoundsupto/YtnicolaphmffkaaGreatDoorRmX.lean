import Derived.Test.YtnicolaphmffkaaGreatDoorRmU
set_option linter.unusedVariables false
set_option linter.unusedSimpArgs false
namespace Go.Proofs.YtnicolaphmffkaaGreatDoor
open Go.RowKit
theorem tns_mv {S S' : Nat → Prop} {w w' : World} {v : Value} {L : List Tn} (h : Tns S w v L) (hm : Mv S w S' w') : Tns S' w' v L := Rows.mv h hm (fun _ _ q => tnr_mv q hm)
/-- A stage whose lists are never turned again. -/
structure SvR (o : Nat → Nat) (W : World) (s : Sv) : Prop where
  e : Sts (Zo o) W (.slice s.ea s.x.enter.length s.ec) s.x.enter
  d : Sts (Zo o) W (.slice s.da s.x.during.length s.dc) s.x.during
  l : Sts (Zo o) W (.slice s.la s.x.leave.length s.lc) s.x.leave
  n : Tns (Zo o) W (.slice s.na s.x.nexts.length s.nc) s.x.nexts
theorem SvR.mv {o o' : Nat → Nat} {W W' : World} {s : Sv} (h : SvR o W s) (m : Mv (Zo o) W (Zo o') W') : SvR o' W' s := ⟨h.e.mv m, h.d.mv m, h.l.mv m, tns_mv h.n m⟩
theorem tns_fz {o : Nat → Nat} {W : World} {g c : Nat} {Y : List Nv} {L : List Tn} {mm : List Value} (h : Fz o W g (cellsF Nv.cs Y ++ mm)) (hY : Y.map (·.x) = L) (hx : ∀ y ∈ Y, Exs (Zo o) W (.slice y.a y.x.wh.length y.c) y.x.wh) (hl : L.length ≤ 1048576) (hc : L.length ≤ c) : Tns (Zo o) W (.slice (some ⟨g, 0, none⟩) L.length c) L := by
  have hYl : Y.length = L.length := by rw [← hY, List.length_map]
  refine .inr ⟨⟨g, 0, none⟩, c, rfl, hc, by omega, .inr ⟨rfl, h.z, h.lt, fun i hi => ?_⟩⟩
  have hi' : i < Y.length := by omega
  have e : L[i] = Y[i].x := by simp only [← hY, List.getElem_map]
  rw [e]
  refine ⟨Nv.cs Y[i], rfl, ⟨_, rfl, hx _ (List.getElem_mem hi')⟩, fun j u hu => ?_⟩
  have hj : j < 2 := (List.getElem?_eq_some_iff.1 hu).1
  show W.cell? ⟨g, 0 + i * 2 + j, none⟩ = some u
  rw [Nat.zero_add]
  refine h.rd _ u ?_
  have hxl : (cellsF Nv.cs Y).length = Y.length * 2 := cellsF_len nv_len Y
  have h6 := Nat.mul_le_mul_right 2 (show i + 1 ≤ Y.length from hi')
  rw [List.getElem?_append_left (by omega), cellsF_get nv_len Y i j hi' hj]
  exact hu
theorem tss_fz {o : Nat → Nat} {W : World} {g c : Nat} {Y : List Sv} {L : List Ts} {mm : List Value} (h : Fz o W g (cellsF Sv.cs Y ++ mm)) (hY : Y.map (·.x) = L) (hx : ∀ y ∈ Y, SvR o W y) (hl : L.length ≤ 1048576) (hc : L.length ≤ c) : Tss (Zo o) W (.slice (some ⟨g, 0, none⟩) L.length c) L := by
  have hYl : Y.length = L.length := by rw [← hY, List.length_map]
  refine .inr ⟨⟨g, 0, none⟩, c, rfl, hc, by omega, .inr ⟨rfl, h.z, h.lt, fun i hi => ?_⟩⟩
  have hi' : i < Y.length := by omega
  have e : L[i] = Y[i].x := by simp only [← hY, List.getElem_map]
  rw [e]
  have q := hx _ (List.getElem_mem hi')
  refine ⟨Sv.cs Y[i], rfl, ⟨_, _, _, _, rfl, q.e, q.d, q.l, q.n⟩, fun j u hu => ?_⟩
  have hj : j < 7 := (List.getElem?_eq_some_iff.1 hu).1
  show W.cell? ⟨g, 0 + i * 7 + j, none⟩ = some u
  rw [Nat.zero_add]
  refine h.rd _ u ?_
  have hxl : (cellsF Sv.cs Y).length = Y.length * 7 := cellsF_len sv_len Y
  have h6 := Nat.mul_le_mul_right 7 (show i + 1 ≤ Y.length from hi')
  rw [List.getElem?_append_left (by omega), cellsF_get sv_len Y i j hi' hj]
  exact hu
variable {o0 o o' : Nat → Nat} {W0 X X' : World} {B rb : Nat} {F F' : Nat → List Lr} {V V' : Nat → Value} {Bs Bs' : List (Nat × Array Value)} {Ps Ps' : List (Nat × List Value)} {vS vN : Value} {Y : List Sv} {Q : List Nv} {Es : List (Value × List St)} {Ns : List (Value × List Tn)}
/-- What stands while Room.Typed's stages go: besides, the row of stages (mark 2), the row of nexts (mark 1), lists that were made. -/
structure TyL (o0 : Nat → Nat) (W0 : World) (B rb : Nat) (o : Nat → Nat) (X : World) (F : Nat → List Lr) (V : Nat → Value) (Bs : List (Nat × Array Value)) (Ps : List (Nat × List Value)) (vS : Value) (Y : List Sv) (vN : Value) (Q : List Nv) (Es : List (Value × List St)) (Ns : List (Value × List Tn)) : Prop where
  ty : TyS o0 W0 B rb o X F V Bs Ps
  so : OwnT o 2 W0.heap.size 81 7 X vS Y.length (cellsF Sv.cs Y)
  sr : ∀ y ∈ Y, SvR o X y
  no : OwnT o 1 W0.heap.size 84 2 X vN Q.length (cellsF Nv.cs Q)
  nr : ∀ y ∈ Q, Exs (Zo o) X (.slice y.a y.x.wh.length y.c) y.x.wh
  es : ∀ p ∈ Es, Sts (Zo o) X p.1 p.2
  ns : ∀ p ∈ Ns, Tns (Zo o) X p.1 p.2
theorem own_none (o : Nat → Nat) (t B e sz : Nat) (W : World) : OwnT o t B e sz W (.slice none 0 0) 0 [] := ⟨World.ownsRow_nil _ _ _ _, fun g hg => (by simp [Value.ownBlock] at hg)⟩
theorem TyS.loop (h : TyS o0 W0 B rb o X F V Bs Ps) : TyL o0 W0 B rb o X F V Bs Ps (.slice none 0 0) [] (.slice none 0 0) [] [] [] :=
  ⟨h, own_none _ _ _ _ _ _, fun y hy => (by cases hy), own_none _ _ _ _ _ _, fun y hy => (by cases hy), fun y hy => (by cases hy), fun y hy => (by cases hy)⟩
theorem TyL.step (h : TyL o0 W0 B rb o X F V Bs Ps vS Y vN Q Es Ns) (t : TyS o0 W0 B rb o' X' F' V' Bs' Ps') (m : Mv (Zo o) X (Zo o') X') (hs : OwnT o' 2 W0.heap.size 81 7 X' vS Y.length (cellsF Sv.cs Y)) (hn : OwnT o' 1 W0.heap.size 84 2 X' vN Q.length (cellsF Nv.cs Q)) : TyL o0 W0 B rb o' X' F' V' Bs' Ps' vS Y vN Q Es Ns :=
  ⟨t, hs, fun y hy => (h.sr y hy).mv m, hn, fun y hy => (h.nr y hy).mv m, fun p hp => (h.es p hp).mv m, fun p hp => tns_mv (h.ns p hp) m⟩
theorem TyL.call (h : TyL o0 W0 B rb o X F V Bs Ps vS Y vN Q Es Ns) (hR : Rm o' B X' rb F' V') (hK : KyR o X o' X') : TyL o0 W0 B rb o' X' F' V' Bs Ps vS Y vN Q Es Ns :=
  h.step (h.ty.call (Ps' := []) hR hK (fun p hp => by cases hp)) hK.mv (hK.own h.so (by decide) (by decide)) (hK.own h.no (by decide) (by decide))
theorem TyL.below (h : TyL o0 W0 B rb o X F V Bs Ps vS Y vN Q Es Ns) (b : Below X.heap.size X X') : TyL o0 W0 B rb o X' F V Bs Ps vS Y vN Q Es Ns :=
  h.step (h.ty.below b) (Mv.below b) (h.so.ky (Ky.below (t := 9) b) (by decide)) (h.no.ky (Ky.below (t := 9) b) (by decide))
theorem TyL.drew (h : TyL o0 W0 B rb o X F V Bs Ps vS Y vN Q Es Ns) : TyL o0 W0 B rb o X.drew F V Bs Ps vS Y vN Q Es Ns := h.below (Below.refl _ _).drew
theorem TyL.alloc (h : TyL o0 W0 B rb o X F V Bs Ps vS Y vN Q Es Ns) (vs : Array Value) (t : TypeId) : TyL o0 W0 B rb (nxO o X.heap.size 3) (X.alloc (.cells vs t)) F V ((X.heap.size, vs) :: Bs) Ps vS Y vN Q Es Ns :=
  h.step (h.ty.alloc vs t) ((Mv.re (fun b hb => nxO_old hb)).trans (Mv.below (bel1 _))) ((h.so.re2 (fun b hb => nxO_old hb)).ky (Ky.below (t := 9) (bel1 _)) (by decide)) ((h.no.re2 (fun b hb => nxO_old hb)).ky (Ky.below (t := 9) (bel1 _)) (by decide))
theorem TyL.set {b : Nat} {vs : Array Value} (h : TyL o0 W0 B rb o X F V ((b, vs) :: Bs) Ps vS Y vN Q Es Ns) (hn : ∀ q ∈ Bs, q.1 ≠ b) (i : Nat) (hi : i < vs.size) (u : Value) : TyL o0 W0 B rb o (X.setCell ⟨b, i, none⟩ u) F V ((b, vs.setIfInBounds i u) :: Bs) Ps vS Y vN Q Es Ns :=
  have ks : Ky o 3 X (X.setCell ⟨b, i, none⟩ u) := Ky.set (h.ty.bx _ List.mem_cons_self).2.1
  h.step (h.ty.set hn i hi u) (ks.mv (by decide)) (h.so.ky ks (by decide)) (h.no.ky ks (by decide))
theorem TyL.sub (h : TyL o0 W0 B rb o X F V Bs Ps vS Y vN Q Es Ns) (hb : ∀ q ∈ Bs', q ∈ Bs) : TyL o0 W0 B rb o X F V Bs' Ps vS Y vN Q Es Ns := ⟨h.ty.sub hb (fun _ q => q), h.so, h.sr, h.no, h.nr, h.es, h.ns⟩
theorem TyL.lists {Es' : List (Value × List St)} {Ns' : List (Value × List Tn)} (h : TyL o0 W0 B rb o X F V Bs Ps vS Y vN Q Es Ns) (he : ∀ p ∈ Es', Sts (Zo o) X p.1 p.2) (hn : ∀ p ∈ Ns', Tns (Zo o) X p.1 p.2) : TyL o0 W0 B rb o X F V Bs Ps vS Y vN Q Es' Ns' := ⟨h.ty, h.so, h.sr, h.no, h.nr, he, hn⟩
theorem TyL.addE {v : Value} {L : List St} (h : TyL o0 W0 B rb o X F V Bs Ps vS Y vN Q Es Ns) (q : Sts (Zo o) X v L) : TyL o0 W0 B rb o X F V Bs Ps vS Y vN Q ((v, L) :: Es) Ns :=
  h.lists (fun p hp => by rcases List.mem_cons.1 hp with rfl | hp; exact q; exact h.es p hp) h.ns
/-- An append to a row of the marks 1 or 2. -/
theorem TyS.gw {t g : Nat} {X1 X2 : World} {v : Value} (h : TyS o0 W0 B rb o X F V Bs Ps) (q : Gw o t X X1 X2 v g) (ht : t = 1 ∨ t = 2) (hv : ∀ k, v.ownBlock = some k → W0.heap.size ≤ k) : TyS o0 W0 B rb (mkO o X.heap.size t g) X2 F V Bs Ps :=
  ⟨h.rm.gw q (by omega) (by omega), h.ky.belw (grown_bel (q.hb.mono h.ky.size) q.hg h.ky.size hv) (fun b hb => mkO_old (Nat.lt_of_lt_of_le hb h.ky.size)), fun p hp => by
    obtain ⟨h1, h2, h3⟩ := h.bx p hp
    exact ⟨h1, (mkO_old h3.1).trans h2, h3.blk q.ky.size (q.ky.block _ h3.1 (by omega))⟩, fun p hp => (h.fz p hp).mv q.mv⟩
theorem TyS.fr {g : Nat} (h : TyS o0 W0 B rb o X F V Bs Ps) (hg : o g = 1 ∨ o g = 2) (hW : W0.heap.size ≤ g) : TyS o0 W0 B rb (frO o g) X F V Bs Ps :=
  ⟨h.rm.re (fun b hb hc => frO_other o (fun e => by subst e; omega)), h.ky.belw (Below.refl _ _) (fun b hb => frO_other o (fun e => by omega)), fun p hp => by
    obtain ⟨h1, h2, h3⟩ := h.bx p hp
    exact ⟨h1, (frO_other o (fun e => by rw [e] at h2; omega)).trans h2, h3⟩, fun p hp => (h.fz p hp).mv Mv.fr⟩
theorem OwnT.fr {t B e sz n g : Nat} {W : World} {v : Value} {xs : List Value} (h : OwnT o t B e sz W v n xs) (hg : o g ≠ t) : OwnT (frO o g) t B e sz W v n xs :=
  ⟨h.own, fun k hk => by rw [frO_other o (fun e => by subst e; exact hg (h.tag _ hk))]; exact h.tag k hk⟩
/-- A next more. -/
theorem TyL.gwN {g c : Nat} {X1 X2 : World} {y : Nv} (h : TyL o0 W0 B rb o X F V Bs Ps vS Y vN Q Es Ns) (q : Gw o 1 X X1 X2 vN g) (own : X2.ownsRow W0.heap.size 84 2 (.slice (some ⟨g, 0, none⟩) (Q.length + 1) c) (Q.length + 1) (cellsF Nv.cs Q ++ y.cs)) (hy : Exs (Zo (mkO o X.heap.size 1 g)) X2 (.slice y.a y.x.wh.length y.c) y.x.wh) :
    TyL o0 W0 B rb (mkO o X.heap.size 1 g) X2 F V Bs Ps vS Y (.slice (some ⟨g, 0, none⟩) (Q.length + 1) c) (Q ++ [y]) Es Ns :=
  ⟨h.ty.gw q (.inl rfl) (fun k hk => (own_lt h.no.own k hk).1), q.own (by decide) h.so, fun y hy => (h.sr y hy).mv q.mv, ⟨by rw [show (Q ++ [y]).length = Q.length + 1 by simp, show cellsF Nv.cs (Q ++ [y]) = cellsF Nv.cs Q ++ y.cs from by rw [cellsF_append]; simp [cellsF]]; exact own, tag_new q.new⟩, fun z hz => by
    rcases List.mem_append.1 hz with hz | hz
    · exact (h.nr z hz).mv q.mv
    · rw [List.mem_singleton.1 hz]; exact hy, fun p hp => (h.es p hp).mv q.mv, fun p hp => tns_mv (h.ns p hp) q.mv⟩
/-- A stage more. -/
theorem TyL.gwS {g c : Nat} {X1 X2 : World} {y : Sv} (h : TyL o0 W0 B rb o X F V Bs Ps vS Y vN Q Es Ns) (q : Gw o 2 X X1 X2 vS g) (own : X2.ownsRow W0.heap.size 81 7 (.slice (some ⟨g, 0, none⟩) (Y.length + 1) c) (Y.length + 1) (cellsF Sv.cs Y ++ y.cs)) (hy : SvR o X y) :
    TyL o0 W0 B rb (mkO o X.heap.size 2 g) X2 F V Bs Ps (.slice (some ⟨g, 0, none⟩) (Y.length + 1) c) (Y ++ [y]) vN Q Es Ns :=
  ⟨h.ty.gw q (.inr rfl) (fun k hk => (own_lt h.so.own k hk).1), ⟨by rw [show (Y ++ [y]).length = Y.length + 1 by simp, show cellsF Sv.cs (Y ++ [y]) = cellsF Sv.cs Y ++ y.cs from by rw [cellsF_append]; simp [cellsF]]; exact own, tag_new q.new⟩, fun z hz => by
    rcases List.mem_append.1 hz with hz | hz
    · exact (h.sr z hz).mv q.mv
    · rw [List.mem_singleton.1 hz]; exact hy.mv q.mv, q.own (by decide) h.no, fun z hz => (h.nr z hz).mv q.mv, fun p hp => (h.es p hp).mv q.mv, fun p hp => tns_mv (h.ns p hp) q.mv⟩
/-- The marks behind the nexts: the row is never turned again. -/
theorem TyL.endN {g c : Nat} {X1 X2 : World} {L : List Tn} {mm : List Value} (h : TyL o0 W0 B rb o X F V Bs Ps vS Y vN Q Es Ns) (q : Gw o 1 X X1 X2 vN g) (own : X2.ownsRow W0.heap.size 84 2 (.slice (some ⟨g, 0, none⟩) (Q.length + 2) c) (Q.length + 2) (cellsF Nv.cs Q ++ mm)) (hQ : Q.map (·.x) = L) (hl : L.length ≤ 1048576) (m1 : mm[0]? = some (.int .i64 4444)) (m2 : mm[2]? = some (.int .i64 4444)) :
    TyL o0 W0 B rb (frO (mkO o X.heap.size 1 g) g) X2 F V Bs Ps vS Y (.slice none 0 0) [] Es ((.slice (some ⟨g, 0, none⟩) L.length c, L) :: Ns) ∧ MkP (rS 2) (rO 2) (rV 2) (frO (mkO o X.heap.size 1 g) g) X2 ⟨g, L.length + 2, c⟩ ∧ L.length + 2 ≤ c := by
  have hQl : Q.length = L.length := by rw [← hQ, List.length_map]
  have hg := own_lt own g rfl
  have cap : Q.length + 2 ≤ c := own_capR own (by omega)
  have m : Mv (Zo o) X (Zo (frO (mkO o X.heap.size 1 g) g)) X2 := q.mv.trans Mv.fr
  have hm0 : MkP (rS 2) (rO 2) (rV 2) (nwO W0.heap.size) X2 ⟨g, Q.length + 2, c⟩ := rm_mark (n := Q.length) own (cellsF_len nv_len Q) (by omega) (Nat.le_refl _) m1 m2
  have F1 : Fz (frO (mkO o X.heap.size 1 g) g) X2 g (cellsF Nv.cs Q ++ mm) := ⟨frO_same _ _, hg.2, own_reads own rfl⟩
  have T1 := tns_fz (c := c) F1 hQ (fun y hy => (h.nr y hy).mv m) hl (by omega)
  rw [hQl] at hm0 cap
  refine ⟨⟨(h.ty.gw q (.inl rfl) (fun k hk => (own_lt h.no.own k hk).1)).fr (.inl q.new) hg.1, (q.own (by decide) h.so).fr (by rw [q.new]; decide), fun y hy => (h.sr y hy).mv m, own_none _ _ _ _ _ _, fun y hy => (by cases hy), fun p hp => (h.es p hp).mv m, fun p hp => ?_⟩, ⟨hm0.n2, hm0.nb, frO_same _ _, hm0.lt, hm0.m1, hm0.m2⟩, cap⟩
  rcases List.mem_cons.1 hp with rfl | hp
  · exact T1
  · exact tns_mv (h.ns p hp) m
/-- The marks behind the stages. -/
theorem TyL.endS {g c : Nat} {X1 X2 : World} {L : List Ts} {mm : List Value} (h : TyL o0 W0 B rb o X F V Bs Ps vS Y vN Q Es Ns) (q : Gw o 2 X X1 X2 vS g) (own : X2.ownsRow W0.heap.size 81 7 (.slice (some ⟨g, 0, none⟩) (Y.length + 2) c) (Y.length + 2) (cellsF Sv.cs Y ++ mm)) (hY : Y.map (·.x) = L) (hl : L.length ≤ 1048576) (m1 : mm[1]? = some (.int .i64 4444)) (m2 : mm[8]? = some (.int .i64 4444)) :
    TyS o0 W0 B rb (frO (mkO o X.heap.size 2 g) g) X2 F V Bs Ps ∧ Tss (Zo (frO (mkO o X.heap.size 2 g) g)) X2 (.slice (some ⟨g, 0, none⟩) L.length c) L ∧ MkP (rS 4) (rO 4) (rV 4) (frO (mkO o X.heap.size 2 g) g) X2 ⟨g, L.length + 2, c⟩ ∧ L.length + 2 ≤ c := by
  have hYl : Y.length = L.length := by rw [← hY, List.length_map]
  have hg := own_lt own g rfl
  have cap : Y.length + 2 ≤ c := own_capR own (by omega)
  have m : Mv (Zo o) X (Zo (frO (mkO o X.heap.size 2 g) g)) X2 := q.mv.trans Mv.fr
  have hm0 : MkP (rS 4) (rO 4) (rV 4) (nwO W0.heap.size) X2 ⟨g, Y.length + 2, c⟩ := rm_mark (n := Y.length) own (cellsF_len sv_len Y) (by omega) (Nat.le_refl _) m1 m2
  have F1 : Fz (frO (mkO o X.heap.size 2 g) g) X2 g (cellsF Sv.cs Y ++ mm) := ⟨frO_same _ _, hg.2, own_reads own rfl⟩
  have T1 := tss_fz (c := c) F1 hY (fun y hy => (h.sr y hy).mv m) hl (by omega)
  rw [hYl] at hm0 cap
  exact ⟨(h.ty.gw q (.inr rfl) (fun k hk => (own_lt h.so.own k hk).1)).fr (.inr q.new) hg.1, T1, ⟨hm0.n2, hm0.nb, frO_same _ _, hm0.lt, hm0.m1, hm0.m2⟩, cap⟩
/-- How the three lists of lists grow that are of no fixed length. -/
structure FB (F F' : Nat → List Lr) (a b c : Nat) : Prop where
  l0 : (F' 0).length ≤ (F 0).length + a
  l1 : (F' 1).length ≤ (F 1).length + b
  l2 : (F' 2).length ≤ (F 2).length + c
  ot : ∀ j, 2 < j → F' j = F j
theorem FB.refl (F : Nat → List Lr) : FB F F 0 0 0 := ⟨Nat.le_refl _, Nat.le_refl _, Nat.le_refl _, fun _ _ => rfl⟩
theorem FB.le {F F' : Nat → List Lr} {a b c a' b' c' : Nat} (h : FB F F' a b c) (ha : a ≤ a') (hb : b ≤ b') (hc : c ≤ c') : FB F F' a' b' c' := ⟨by have := h.l0; omega, by have := h.l1; omega, by have := h.l2; omega, h.ot⟩
theorem FB.stmts {F F' : Nat → List Lr} {a b c n : Nat} {R0 : List Lr} {r : Lr} (h : FB F F' a b c) (hn : R0.length = n) : FB F (upd (upd F' 0 (F' 0 ++ R0)) 1 (F' 1 ++ [r])) (a + n) (b + 1) c :=
  ⟨by rw [upd_other _ _ (by decide), upd_same, List.length_append, hn]; have := h.l0; omega, by rw [upd_same, List.length_append]; have := h.l1; simp; omega, by rw [upd_other _ _ (by decide), upd_other _ _ (by decide)]; exact h.l2, fun j hj => by rw [upd_other _ _ (by omega), upd_other _ _ (by omega)]; exact h.ot j hj⟩
theorem FB.node {F F' : Nat → List Lr} {a b c : Nat} {r : Lr} (h : FB F F' a b c) : FB F (upd F' 0 (F' 0 ++ [r])) (a + 1) b c :=
  ⟨by rw [upd_same, List.length_append]; have := h.l0; simp; omega, by rw [upd_other _ _ (by decide)]; exact h.l1, by rw [upd_other _ _ (by decide)]; exact h.l2, fun j hj => by rw [upd_other _ _ (by omega)]; exact h.ot j hj⟩
theorem FB.next {F F' : Nat → List Lr} {a b c : Nat} {r : Lr} (h : FB F F' a b c) : FB F (upd F' 2 (F' 2 ++ [r])) a b (c + 1) :=
  ⟨by rw [upd_other _ _ (by decide)]; exact h.l0, by rw [upd_other _ _ (by decide)]; exact h.l1, by rw [upd_same, List.length_append]; have := h.l2; simp; omega, fun j hj => by rw [upd_other _ _ (by omega)]; exact h.ot j hj⟩
/-- How large a stage is. -/
structure SzT (x : Ts) : Prop where
  e : x.enter.length ≤ 1048576
  d : x.during.length ≤ 1048576
  l : x.leave.length ≤ 1048576
  n : x.nexts.length ≤ 1048576
  xe : ∀ s ∈ x.enter, s.expr.length ≤ 1048576
  xd : ∀ s ∈ x.during, s.expr.length ≤ 1048576
  xl : ∀ s ∈ x.leave, s.expr.length ≤ 1048576
  xn : ∀ t ∈ x.nexts, t.wh.length ≤ 1048576
theorem Tss.mv' {S S' : Nat → Prop} {w w' : World} {v : Value} {L : List Ts} (h : Tss S w v L) (m : Mv S w S' w') : Tss S' w' v L := Rows.mv h m (fun _ _ h => by obtain ⟨ve, vd, vl, vn, e, a, b, c, d⟩ := h; exact ⟨ve, vd, vl, vn, e, a.mv m, b.mv m, c.mv m, tns_mv d m⟩)
theorem mvB {B : Nat} {W X : World} (h : Below B W X) : Mv (fun b => b < B) W (fun b => b < B) X := ⟨h.size, fun k _ hs => ⟨h.block k hs, hs⟩⟩
theorem stsB {B : Nat} {W X : World} {v : Value} {L : List St} (q : Sts (fun b => b < B) W v L) (h : Below B W X) : Sts (fun _ => True) X v L := (q.mv (mvB h)).mv (Mv.weak fun _ _ _ => trivial)
end Go.Proofs.YtnicolaphmffkaaGreatDoor
