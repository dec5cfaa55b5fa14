import Derived.Test.YtnicolaphmffkaaGreatDoorRmB
set_option linter.unusedVariables false
set_option linter.unusedSimpArgs false
namespace Go.Proofs.YtnicolaphmffkaaGreatDoor
open Go.RowKit
/-- What stands while Room.Typed goes: the room, boxes of mark 3, lists that are frozen. -/
structure TyS (o0 : Nat → Nat) (W0 : World) (B rb : Nat) (o : Nat → Nat) (X : World) (F : Nat → List Lr) (V : Nat → Value) (Bs : List (Nat × Array Value)) (Ps : List (Nat × List Value)) : Prop where
  rm : Rm o B X rb F V
  ky : KyR o0 W0 o X
  bx : ∀ q ∈ Bs, W0.heap.size ≤ q.1 ∧ o q.1 = 3 ∧ Has X q.1 q.2
  fz : ∀ p ∈ Ps, Fz o X p.1 p.2
variable {o0 o : Nat → Nat} {W0 X : World} {B rb : Nat} {F : Nat → List Lr} {V : Nat → Value} {Bs : List (Nat × Array Value)} {Ps : List (Nat × List Value)}
theorem TyS.start (h : Rm o B X rb F V) : TyS o X B rb o X F V [] [] := ⟨h, KyR.refl _ _, fun q hq => (by cases hq), fun q hq => (by cases hq)⟩
theorem TyS.bel (h : TyS o0 W0 B rb o X F V Bs Ps) (hB : B ≤ W0.heap.size) (ho : ∀ b, b < B → o0 b = 5) : Below B W0 X := h.ky.bel (Below.refl _ _) hB ho
theorem TyS.five (h : TyS o0 W0 B rb o X F V Bs Ps) (hB : B ≤ W0.heap.size) (ho : ∀ b, b < B → o0 b = 5) : ∀ b, b < B → o b = 5 := fun b hb => (h.ky.old b (Nat.lt_of_lt_of_le hb hB)).trans (ho b hb)
theorem TyS.alloc (h : TyS o0 W0 B rb o X F V Bs Ps) (vs : Array Value) (t : TypeId) : TyS o0 W0 B rb (nxO o X.heap.size 3) (X.alloc (.cells vs t)) F V ((X.heap.size, vs) :: Bs) Ps := by
  refine ⟨(h.rm.re (fun b hb _ => nxO_old hb)).below (bel1 _), h.ky.belw ((bel1 _).mono h.ky.size) (fun b hb => nxO_old (Nat.lt_of_lt_of_le hb h.ky.size)), fun q hq => ?_, fun p hp => ((h.fz p hp).mv (Mv.re (fun b hb => nxO_old hb))).mv (Mv.below (bel1 _))⟩
  rcases List.mem_cons.1 hq with rfl | hq
  · exact ⟨h.ky.size, nxO_new (Nat.le_refl _), Has.new _ _ _ rfl⟩
  · obtain ⟨h1, h2, h3⟩ := h.bx q hq
    exact ⟨h1, (nxO_old h3.1).trans h2, h3.alloc _⟩
theorem TyS.call {o' : Nat → Nat} {X' : World} {F' : Nat → List Lr} {V' : Nat → Value} {Ps' : List (Nat × List Value)} (h : TyS o0 W0 B rb o X F V Bs Ps) (hR : Rm o' B X' rb F' V') (hK : KyR o X o' X') (hF : ∀ p ∈ Ps', Fz o' X' p.1 p.2) : TyS o0 W0 B rb o' X' F' V' Bs (Ps' ++ Ps) := by
  refine ⟨hR, h.ky.trans hK, fun q hq => ?_, fun p hp => ?_⟩
  · obtain ⟨h1, h2, h3⟩ := h.bx q hq
    exact ⟨h1, (hK.old _ h3.1).trans h2, hK.has h3 (by rw [h2]; decide) (by rw [h2]; decide)⟩
  · rcases List.mem_append.1 hp with hp | hp
    · exact hF p hp
    · exact (h.fz p hp).mv hK.mv
theorem TyS.below {X' : World} (h : TyS o0 W0 B rb o X F V Bs Ps) (b : Below X.heap.size X X') : TyS o0 W0 B rb o X' F V Bs Ps :=
  ⟨h.rm.below b, h.ky.belw (b.mono h.ky.size) (fun _ _ => rfl), fun q hq => ⟨(h.bx q hq).1, (h.bx q hq).2.1, (h.bx q hq).2.2.below b⟩, fun p hp => (h.fz p hp).mv (Mv.below b)⟩
theorem TyS.drew (h : TyS o0 W0 B rb o X F V Bs Ps) : TyS o0 W0 B rb o X.drew F V Bs Ps := h.below (Below.refl _ _).drew
theorem TyS.set {b : Nat} {vs : Array Value} (h : TyS o0 W0 B rb o X F V ((b, vs) :: Bs) Ps) (hn : ∀ q ∈ Bs, q.1 ≠ b) (i : Nat) (hi : i < vs.size) (u : Value) : TyS o0 W0 B rb o (X.setCell ⟨b, i, none⟩ u) F V ((b, vs.setIfInBounds i u) :: Bs) Ps := by
  obtain ⟨h1, h2, h3⟩ := h.bx _ List.mem_cons_self
  have ks : Ky o 3 X (X.setCell ⟨b, i, none⟩ u) := Ky.set h2
  refine ⟨h.rm.ky ks (by decide) (by decide) (by decide), h.ky.belw ((Below.refl _ _).setCell (p := ⟨b, i, none⟩) h1 _) (fun _ _ => rfl), fun q hq => ?_, fun p hp => (h.fz p hp).mv (ks.mv (by decide))⟩
  rcases List.mem_cons.1 hq with rfl | hq
  · exact ⟨h1, h2, h3.set i hi u⟩
  · obtain ⟨k1, k2, k3⟩ := h.bx q (List.mem_cons_of_mem _ hq)
    exact ⟨k1, k2, k3.blk ks.size (Below.heap_setCell _ _ _ _ (fun e => hn q hq e))⟩
theorem cells_blk (b : Nat) : ∀ (us : List Value) (k : Nat) (w : World) (j : Nat), j ≠ b → (w.setCells b k us).heap[j]? = w.heap[j]?
  | [], _, _, _, _ => rfl
  | u :: r, k, w, j, h => (cells_blk b r (k + 1) _ j h).trans (Below.heap_setCell _ _ _ _ h)
theorem cells_size (b : Nat) : ∀ (us : List Value) (k : Nat) (w : World), (w.setCells b k us).heap.size = w.heap.size
  | [], _, _ => rfl
  | u :: r, k, w => (cells_size b r (k + 1) _).trans (by simp [World.setCell])
theorem cells_bel {B b : Nat} {a : World} (hB : B ≤ b) : ∀ (us : List Value) (k : Nat) (w : World), Below B a w → Below B a (w.setCells b k us)
  | [], _, _, h => h
  | u :: r, k, w, h => cells_bel hB r (k + 1) _ (h.setCell (p := ⟨b, k, none⟩) hB u)
theorem cells_ky {o : Nat → Nat} {t b : Nat} (h : o b = t) (us : List Value) (k : Nat) (w : World) : Ky o t w (w.setCells b k us) :=
  ⟨Nat.le_of_eq (cells_size b us k w).symm, fun j _ hj => cells_blk b us k w j (fun e => hj (by rw [e]; exact h))⟩
theorem Has.cells {w : World} {b : Nat} {zs : Array Value} (h : Has w b zs) (vs : List Value) (hl : vs.length = zs.size) : Has (w.setCells b 0 vs) b vs.toArray := by
  refine ⟨by rw [cells_size]; exact h.1, fun i => ?_, fun i => by rw [World.frozen?_setCells]; exact h.2.2 i⟩
  by_cases hi : i < vs.length
  · have := World.cell?_setCells_in b vs 0 w (fun j hj => by rw [Nat.zero_add, h.2.1 j, Array.getElem?_eq_getElem (by omega)]; rfl) i hi
    rw [Nat.zero_add] at this
    rw [this, List.getElem?_toArray, List.getElem?_eq_getElem hi]
  · rw [World.cell?_setCells_out b vs 0 w ⟨b, i, none⟩ (fun _ _ => Or.inr (by simpa using hi)), h.2.1 i, Array.getElem?_eq_none (by omega), List.getElem?_toArray, List.getElem?_eq_none (by omega)]
/-- A box stored whole. -/
theorem TyS.setCells {b : Nat} {vs : Array Value} (h : TyS o0 W0 B rb o X F V ((b, vs) :: Bs) Ps) (hn : ∀ q ∈ Bs, q.1 ≠ b) (us : List Value) (hl : us.length = vs.size) : TyS o0 W0 B rb o (World.setCells X b 0 us) F V ((b, us.toArray) :: Bs) Ps := by
  obtain ⟨h1, h2, h3⟩ := h.bx _ List.mem_cons_self
  have ks : Ky o 3 X (World.setCells X b 0 us) := cells_ky h2 us 0 X
  refine ⟨h.rm.ky ks (by decide) (by decide) (by decide), h.ky.belw (cells_bel h1 us 0 X (Below.refl _ _)) (fun _ _ => rfl), fun q hq => ?_, fun p hp => (h.fz p hp).mv (ks.mv (by decide))⟩
  rcases List.mem_cons.1 hq with rfl | hq
  · exact ⟨h1, h2, h3.cells us hl⟩
  · obtain ⟨k1, k2, k3⟩ := h.bx q (List.mem_cons_of_mem _ hq)
    exact ⟨k1, k2, k3.blk ks.size (cells_blk b us 0 X _ (hn q hq))⟩
theorem TyS.sub {Bs' : List (Nat × Array Value)} {Ps' : List (Nat × List Value)} (h : TyS o0 W0 B rb o X F V Bs Ps) (hb : ∀ q ∈ Bs', q ∈ Bs) (hp : ∀ p ∈ Ps', p ∈ Ps) : TyS o0 W0 B rb o X F V Bs' Ps' := ⟨h.rm, h.ky, fun q hq => h.bx q (hb q hq), fun p q => h.fz p (hp p q)⟩
theorem TyS.has {b : Nat} {vs : Array Value} (h : TyS o0 W0 B rb o X F V Bs Ps) (hm : (b, vs) ∈ Bs) : Has X b vs := (h.bx _ hm).2.2
/-- How a room's fields have grown, by lengths: what is not written stays. -/
structure Gro (F F' : Nat → List Lr) (n : Nat → Nat) : Prop where
  len : ∀ k, (F' k).length = (F k).length + n k
theorem Gro.refl (F : Nat → List Lr) : Gro F F (fun _ => 0) := ⟨fun _ => rfl⟩
theorem Gro.upd {F F' : Nat → List Lr} {n : Nat → Nat} (h : Gro F F' n) (k : Nat) (Y : List Lr) : Gro F (upd F' k (F' k ++ Y)) (upd n k (n k + Y.length)) := ⟨fun j => by
  by_cases e : j = k
  · subst e; rw [upd_same, upd_same, List.length_append, h.len]; omega
  · rw [upd_other _ _ e, upd_other _ _ e, h.len]⟩
theorem Gro.tab (F : Nat → List Lr) (r1 r2 : Lr) : Gro F (_root_.Go.Proofs.YtnicolaphmffkaaGreatDoor.upd (_root_.Go.Proofs.YtnicolaphmffkaaGreatDoor.upd F 6 (F 6 ++ [r1])) 7 (F 7 ++ [r2])) (_root_.Go.Proofs.YtnicolaphmffkaaGreatDoor.upd (_root_.Go.Proofs.YtnicolaphmffkaaGreatDoor.upd (fun _ => 0) 6 1) 7 1) := by
  have h := ((Gro.refl F).upd 6 [r1]).upd 7 [r2]
  rw [upd_other _ _ (by decide : (7 : Nat) ≠ 6)] at h
  exact h
end Go.Proofs.YtnicolaphmffkaaGreatDoor
