import Derived.Test.YthjdflcakngpiaaDoorRmB
namespace Go.Proofs.YthjdflcakngpiaaDoor
open Go.RowKit
set_option linter.unusedVariables false

/-- Row k of xs' is cs; all else is as in xs. -/
def R15 (xs xs' : List Value) (k : Nat) (cs : List Value) : Prop := (∀ j, j < 15 → xs'[k * 15 + j]? = cs[j]?) ∧ ∀ i, i < k * 15 ∨ k * 15 + 15 ≤ i → xs'[i]? = xs[i]?
theorem R15.refl {xs cs : List Value} {k : Nat} (h : ∀ j, j < 15 → xs[k * 15 + j]? = cs[j]?) : R15 xs xs k cs := ⟨h, fun _ _ => rfl⟩
theorem R15.set {xs xs' cs : List Value} {k : Nat} (h : R15 xs xs' k cs) (hl : cs.length = 15) (o : Nat) (ho : o < 15) (u : Value) : R15 xs (xs'.set (k * 15 + o) u) k (cs.set o u) := by
  have hb : k * 15 + o < xs'.length := by
    have := h.1 o ho
    rw [List.getElem?_eq_getElem (by omega : o < cs.length)] at this
    exact (List.getElem?_eq_some_iff.1 this).1
  refine ⟨fun j hj => ?_, fun i hi => ?_⟩
  · by_cases e : o = j
    · subst e
      rw [List.getElem?_set_self hb, List.getElem?_set_self (by omega)]
    · rw [List.getElem?_set_ne (by omega), List.getElem?_set_ne e]; exact h.1 j hj
  · rw [List.getElem?_set_ne (by omega)]; exact h.2 i hi
/-- An own list with more behind it, as it is read. -/
theorem Els.cut {α : Type} {sz mx : Nat} {R : (Nat → Prop) → World → List Value → α → Prop} {S : Nat → Prop} {w : World} {base e g cap m : Nat} {xs ys : List Value} {L : List α}
    (hE : Els sz R S w xs L) (h : w.ownsRow base e sz (.slice (some ⟨g, 0, none⟩) (L.length + (m + 1)) cap) (L.length + (m + 1)) (xs ++ ys)) (hS : S g) (hm : L.length ≤ mx) :
    Rows sz mx R S w (.slice (some ⟨g, 0, none⟩) L.length cap) L := by
  obtain ⟨_, _, hv, hc, _⟩ := own_block h (by omega)
  injection hv with _ _ hv3
  refine .inr ⟨⟨g, 0, none⟩, cap, rfl, by omega, hm, .inr ⟨rfl, hS, (own_lt h g rfl).2, fun i hi => ?_⟩⟩
  obtain ⟨cs, h1, h2, h3⟩ := hE.2 i hi
  refine ⟨cs, h1, h2, fun j u hu => ?_⟩
  have hj : j < sz := by have := (List.getElem?_eq_some_iff.1 hu).1; rw [h1] at this; exact this
  show w.cell? ⟨g, 0 + i * sz + j, none⟩ = some u
  rw [Nat.zero_add]
  refine own_reads h rfl _ _ ?_
  rw [List.getElem?_append_left, h3 j hj]
  · exact hu
  · rw [hE.1]
    calc i * sz + j < i * sz + sz := by omega
      _ = (i + 1) * sz := (Nat.succ_mul i sz).symm
      _ ≤ L.length * sz := Nat.mul_le_mul_right _ hi
theorem MkR.of {sz off m : Nat} {u0 u1 : Value} {S : Nat → Prop} {w : World} {base e g cap : Nat} {xs ms : List Value} (h : w.ownsRow base e sz (.slice (some ⟨g, 0, none⟩) (m + 2) cap) (m + 2) (xs ++ ms)) (hl : xs.length = m * sz)
    (h0 : ms[off]? = some u0) (h1 : ms[sz + off]? = some u1) (hS : S g) (hm : m ≤ 9000000000000) : MkR sz off u0 u1 S w [.slice (some ⟨g, 0, none⟩) (m + 2) cap] m := by
  refine ⟨g, cap, rfl, hS, (own_lt h g rfl).2, hm, own_reads h rfl _ _ ?_, own_reads h rfl _ _ ?_⟩
  · rw [List.getElem?_append_right (by omega), hl, Nat.add_sub_cancel_left]; exact h0
  · have e1 : (m + 1) * sz + off - m * sz = sz + off := by rw [Nat.succ_mul]; omega
    rw [List.getElem?_append_right (by rw [hl, Nat.succ_mul]; omega), hl, e1]; exact h1
theorem els_nd (S : Nat → Prop) (w : World) (L : List Nd) : Els 5 NdR S w (cellsN L) L :=
  ⟨cellsN_len L, fun i hi => ⟨L[i].cs, rfl, rfl, fun j hj => cellsN_get L i j hi hj⟩⟩
theorem Els.weak {α : Type} {sz : Nat} {R : (Nat → Prop) → World → List Value → α → Prop} (hR : RMv R) {S S' : Nat → Prop} {w w' : World} {xs : List Value} {L : List α} (h : Els sz R S w xs L) (hm : Mv S w S' w') : Els sz R S' w' xs L :=
  Els.mv (mx := 0) h (fun _ _ h => hR _ _ _ _ _ _ h hm)
theorem bel_only {B : Nat} {S : Nat → Prop} {a w w' : World} (h : Below B a w) (ho : Only S w w') (hB : B ≤ a.heap.size) (hS : ∀ k, k < B → ¬ S k) : Below B a w' :=
  ⟨ho.os.trans h.os, ho.tape.trans h.tape, ho.output.trans h.output, Nat.le_trans h.size ho.size, fun k hk => (ho.block k (by have := h.size; omega) (hS k hk)).trans (h.block k hk)⟩
theorem rmvME : RMv MkE := fun _ _ _ _ _ _ h m => h.mv m
theorem rmvMG : RMv MkG := fun _ _ _ _ _ _ h m => h.mv m
theorem rmvMN : RMv MkN := fun _ _ _ _ _ _ h m => h.mv m
theorem rmvML : RMv MkL := fun _ _ _ _ _ _ h m => h.mv m

set_option maxHeartbeats 1000000 in
theorem RmI.next {B M : Nat} {pn : ByteArray} {gD dc : Nat} {L : List Dc} {lo hi : Nat → Nat} {k : Nat} {wr w' wG : World} {xs xs' : List Value} {vE vG vL vN ve0 vd0 vl0 vn0 : Value} {SG : Nat → Prop} {x : Dc}
    {gE cE gG cG gN cN gL cL ge ce gg cg gn cn g8 c8 g9 c9 g10 c10 c1 c2 c3 c4 c5 : Nat} {yE yG yN yL xg xn x8 x9 x10 : List Value} {Es Gs Ns Ls : List Nat}
    (st : RmS B M (.slice (some ⟨gD, 0, none⟩) L.length dc) lo hi L.length)
    (I : RmI B M pn (.slice (some ⟨gD, 0, none⟩) L.length dc) L lo hi k wr xs vE vG vL vN) (hlt : k < L.length) (hLk : L[k] = x) (hM : M + 1 < wr.heap.size)
    (OT : Only (fun q => q = gD ∨ q = M + 1 ∨ vE.ownBlock = some q ∨ vG.ownBlock = some q ∨ vL.ownBlock = some q ∨ vN.ownBlock = some q ∨ (lo k ≤ q ∧ q < hi k)) wr w')
    (D : w'.ownsRow B 53 15 (.slice (some ⟨gD, 0, none⟩) L.length dc) L.length xs')
    (hx : R15 xs xs' k (x.cs (.slice (some ⟨ge, 0, none⟩) x.expr.length ce) ⟨.slice (some ⟨gg, 0, none⟩) x.sg.green.length cg, .slice (some ⟨g8, 0, none⟩) x.sg.enter.length c8, .slice (some ⟨g9, 0, none⟩) x.sg.during.length c9, .slice (some ⟨g10, 0, none⟩) x.sg.leave.length c10, .slice (some ⟨gn, 0, none⟩) x.sg.nexts.length cn⟩))
    (R : Has w' (M + 1) #[.slice none 0 0, .slice (some ⟨gE, 0, none⟩) (k + 1) cE, .slice (some ⟨gG, 0, none⟩) (k + 1) cG, .slice (some ⟨gL, 0, none⟩) (3 * k + 1 + 1 + 1) cL, .slice (some ⟨gN, 0, none⟩) (k + 1) cN])
    (Q : Has w' M #[.string pn, .slice (some ⟨gD, 0, none⟩) L.length dc])
    (fE : w'.ownsRow wr.heap.size 59 5 (.slice (some ⟨ge, 0, none⟩) (full x.expr).length ce) (full x.expr).length (cellsN (full x.expr)))
    (fG : w'.ownsRow c1 9 1 (.slice (some ⟨gg, 0, none⟩) (x.sg.green.length + 2) cg) (x.sg.green.length + 2) (xg ++ [.string ⟨#[114, 111, 111, 109]⟩, .string ⟨#[114, 111, 111, 109]⟩])) (elG : Els 1 TxR SG wG xg x.sg.green)
    (fN : w'.ownsRow c5 56 4 (.slice (some ⟨gn, 0, none⟩) (x.sg.nexts.length + 2) cn) (x.sg.nexts.length + 2) (xn ++ [.string ⟨#[114, 111, 111, 109]⟩, .slice none 0 0, .int .i64 0, .int .i64 0, .string ⟨#[114, 111, 111, 109]⟩, .slice none 0 0, .int .i64 0, .int .i64 0])) (elN : Els 4 NxR (Si c5 (hi k) vn0) w' xn x.sg.nexts)
    (f8 : w'.ownsRow c2 66 6 (.slice (some ⟨g8, 0, none⟩) (x.sg.enter.length + 2) c8) (x.sg.enter.length + 2) (x8 ++ marksS)) (el8 : Els 6 StR (Si c2 c3 ve0) w' x8 x.sg.enter)
    (f9 : w'.ownsRow c3 66 6 (.slice (some ⟨g9, 0, none⟩) (x.sg.during.length + 2) c9) (x.sg.during.length + 2) (x9 ++ marksS)) (el9 : Els 6 StR (Si c3 c4 vd0) w' x9 x.sg.during)
    (f10 : w'.ownsRow c4 66 6 (.slice (some ⟨g10, 0, none⟩) (x.sg.leave.length + 2) c10) (x.sg.leave.length + 2) (x10 ++ marksS)) (el10 : Els 6 StR (Si c4 c5 vl0) w' x10 x.sg.leave)
    (hc : lo k ≤ c1 ∧ c1 ≤ c2 ∧ c2 ≤ c3 ∧ c3 ≤ c4 ∧ c4 ≤ c5 ∧ c5 ≤ hi k)
    (len : x.expr.length ≤ 2932031007317 ∧ x.sg.green.length ≤ 8796093022100 ∧ x.sg.enter.length ≤ 1954687338211 ∧ x.sg.during.length ≤ 1954687338211 ∧ x.sg.leave.length ≤ 1954687338211 ∧ x.sg.nexts.length ≤ 2513169434900)
    (nb : ∀ b, b = ge ∨ b = gg ∨ b = g8 ∨ b = g9 ∨ b = g10 ∨ b = gn → (lo k ≤ b ∧ b < hi k ∨ wr.heap.size ≤ b) ∧ b ≠ gE ∧ b ≠ gG ∧ b ≠ gL ∧ b ≠ gN)
    (aE : vE.ownBlock = some gE ∨ wr.heap.size ≤ gE) (aG : vG.ownBlock = some gG ∨ wr.heap.size ≤ gG) (aL : vL.ownBlock = some gL ∨ wr.heap.size ≤ gL) (aN : vN.ownBlock = some gN ∨ wr.heap.size ≤ gN)
    (ne : gE ≠ gG ∧ gE ≠ gL ∧ gE ≠ gN ∧ gG ≠ gL ∧ gG ≠ gN ∧ gL ≠ gN)
    (nE : w'.ownsRow (M + 2) 25 1 (.slice (some ⟨gE, 0, none⟩) (k + 1) cE) (k + 1) (yE ++ [.slice (some ⟨ge, 0, none⟩) (x.expr.length + 2) ce])) (elE : Els 1 MkE (Av B M (.slice (some ⟨gD, 0, none⟩) L.length dc) vE vG vL vN lo hi k L.length) wr yE Es) (lEs : Es.length = k)
    (nG : w'.ownsRow (M + 2) 47 1 (.slice (some ⟨gG, 0, none⟩) (k + 1) cG) (k + 1) (yG ++ [.slice (some ⟨gg, 0, none⟩) (x.sg.green.length + 2) cg])) (elG0 : Els 1 MkG (Av B M (.slice (some ⟨gD, 0, none⟩) L.length dc) vE vG vL vN lo hi k L.length) wr yG Gs) (lGs : Gs.length = k)
    (nN : w'.ownsRow (M + 2) 49 1 (.slice (some ⟨gN, 0, none⟩) (k + 1) cN) (k + 1) (yN ++ [.slice (some ⟨gn, 0, none⟩) (x.sg.nexts.length + 2) cn])) (elN0 : Els 1 MkN (Av B M (.slice (some ⟨gD, 0, none⟩) L.length dc) vE vG vL vN lo hi k L.length) wr yN Ns) (lNs : Ns.length = k)
    (nL : w'.ownsRow (M + 2) 48 1 (.slice (some ⟨gL, 0, none⟩) (3 * k + 1 + 1 + 1) cL) (3 * k + 1 + 1 + 1) (((yL ++ [.slice (some ⟨g8, 0, none⟩) (x.sg.enter.length + 2) c8]) ++ [.slice (some ⟨g9, 0, none⟩) (x.sg.during.length + 2) c9]) ++ [.slice (some ⟨g10, 0, none⟩) (x.sg.leave.length + 2) c10])) (elL : Els 1 MkL (Av B M (.slice (some ⟨gD, 0, none⟩) L.length dc) vE vG vL vN lo hi k L.length) wr yL Ls) (lLs : Ls.length = 3 * k) :
    RmI B M pn (.slice (some ⟨gD, 0, none⟩) L.length dc) L lo hi (k + 1) w' xs' (.slice (some ⟨gE, 0, none⟩) (k + 1) cE) (.slice (some ⟨gG, 0, none⟩) (k + 1) cG) (.slice (some ⟨gL, 0, none⟩) (3 * k + 1 + 1 + 1) cL) (.slice (some ⟨gN, 0, none⟩) (k + 1) cN) := by
  obtain ⟨iv1, iv2, iv3⟩ := st.iv k hlt
  obtain ⟨gd1, gd2, gd3⟩ := st.vb gD rfl
  have gdk := gd3 k hlt
  obtain ⟨hc0, hc1, hc2, hc3, hc4, hc5⟩ := hc
  obtain ⟨l1, l2, l3, l4, l5, l6⟩ := len
  obtain ⟨n1, n2, n3, n4, n5, n6⟩ := ne
  have bE : ∀ q, vE.ownBlock = some q → M + 2 ≤ q := fun q h => by obtain ⟨_, _, _, r, _⟩ := I.rowE; exact (own_lt r q h).1
  have bG : ∀ q, vG.ownBlock = some q → M + 2 ≤ q := fun q h => by obtain ⟨_, _, _, r, _⟩ := I.rowG; exact (own_lt r q h).1
  have bN : ∀ q, vN.ownBlock = some q → M + 2 ≤ q := fun q h => by obtain ⟨_, _, _, r, _⟩ := I.rowN; exact (own_lt r q h).1
  have bL : ∀ q, vL.ownBlock = some q → M + 2 ≤ q := fun q h => by obtain ⟨_, _, _, r, _⟩ := I.rowL; exact (own_lt r q h).1
  have mE : M + 2 ≤ gE := aE.elim (bE _) (fun h => by omega)
  have mG : M + 2 ≤ gG := aG.elim (bG _) (fun h => by omega)
  have mL : M + 2 ≤ gL := aL.elim (bL _) (fun h => by omega)
  have mN : M + 2 ≤ gN := aN.elim (bN _) (fun h => by omega)
  have inj : ∀ {g q n c : Nat}, (Value.slice (some ⟨g, 0, none⟩) n c).ownBlock = some q → g = q := fun h => by injection h
  -- what is in the round's own interval, or new
  have av : ∀ b, (lo k ≤ b ∧ b < hi k ∨ wr.heap.size ≤ b) → b ≠ gE → b ≠ gG → b ≠ gL → b ≠ gN → Av B M (.slice (some ⟨gD, 0, none⟩) L.length dc) (.slice (some ⟨gE, 0, none⟩) (k + 1) cE) (.slice (some ⟨gG, 0, none⟩) (k + 1) cG) (.slice (some ⟨gL, 0, none⟩) (3 * k + 1 + 1 + 1) cL) (.slice (some ⟨gN, 0, none⟩) (k + 1) cN) lo hi (k + 1) L.length b := by
    intro b hb h1 h2 h3 h4
    refine ⟨by omega, fun e => ?_, by omega, by omega, fun e => h1 (inj e).symm, fun e => h2 (inj e).symm, fun e => h3 (inj e).symm, fun e => h4 (inj e).symm, fun j hj hn e => ?_⟩
    · have := inj e; omega
    · have h5 := st.up k j (by omega) hn
      have h6 := st.iv j hn
      omega
  have avi : ∀ b, lo k ≤ b → b < hi k → Av B M (.slice (some ⟨gD, 0, none⟩) L.length dc) (.slice (some ⟨gE, 0, none⟩) (k + 1) cE) (.slice (some ⟨gG, 0, none⟩) (k + 1) cG) (.slice (some ⟨gL, 0, none⟩) (3 * k + 1 + 1 + 1) cL) (.slice (some ⟨gN, 0, none⟩) (k + 1) cN) lo hi (k + 1) L.length b := fun b h1 h2 => av b (.inl ⟨h1, h2⟩) (by omega) (by omega) (by omega) (by omega)
  have avb : ∀ b, (b = ge ∨ b = gg ∨ b = g8 ∨ b = g9 ∨ b = g10 ∨ b = gn) → Av B M (.slice (some ⟨gD, 0, none⟩) L.length dc) (.slice (some ⟨gE, 0, none⟩) (k + 1) cE) (.slice (some ⟨gG, 0, none⟩) (k + 1) cG) (.slice (some ⟨gL, 0, none⟩) (3 * k + 1 + 1 + 1) cL) (.slice (some ⟨gN, 0, none⟩) (k + 1) cN) lo hi (k + 1) L.length b := fun b h => by
    obtain ⟨h1, h2, h3, h4, h5⟩ := nb b h; exact av b h1 h2 h3 h4 h5
  have mv : Mv (Av B M (.slice (some ⟨gD, 0, none⟩) L.length dc) vE vG vL vN lo hi k L.length) wr (Av B M (.slice (some ⟨gD, 0, none⟩) L.length dc) (.slice (some ⟨gE, 0, none⟩) (k + 1) cE) (.slice (some ⟨gG, 0, none⟩) (k + 1) cG) (.slice (some ⟨gL, 0, none⟩) (3 * k + 1 + 1 + 1) cL) (.slice (some ⟨gN, 0, none⟩) (k + 1) cN) lo hi (k + 1) L.length) w' := by
    refine Mv.only OT ?_
    rintro q hq ⟨a0, a1, a2, a3, a4, a5, a6, a7, a8⟩
    refine ⟨?_, a0, a1, a2, a3, fun e => ?_, fun e => ?_, fun e => ?_, fun e => ?_, fun j hj hn => a8 j (by omega) hn⟩
    · rintro (h | h | h | h | h | h | h)
      · exact a1 (congrArg some h.symm)
      · exact a3 h
      · exact a4 h
      · exact a5 h
      · exact a6 h
      · exact a7 h
      · exact a8 k (Nat.le_refl _) hlt h
    · have := inj e; subst this; rcases aE with h | h; (exact a4 h); omega
    · have := inj e; subst this; rcases aG with h | h; (exact a5 h); omega
    · have := inj e; subst this; rcases aL with h | h; (exact a6 h); omega
    · have := inj e; subst this; rcases aN with h | h; (exact a7 h); omega
  have xE : w'.ownsRow wr.heap.size 59 5 (.slice (some ⟨ge, 0, none⟩) (x.expr.length + 2) ce) (x.expr.length + 2) (cellsN x.expr ++ cellsN [mark 55, mark 56]) := by
    rw [← cellsN_append]; have e : (full x.expr).length = x.expr.length + 2 := by simp [full]
    rw [← e]; exact fE
  have si : ∀ {α : Type} {sz lo' hi' : Nat} {R : (Nat → Prop) → World → List Value → α → Prop} {v : Value} {xs : List Value} {L' : List α}, RMv R → lo k ≤ lo' → hi' ≤ hi k → Els sz R (Si lo' hi' v) w' xs L' → Els sz R (Av B M (.slice (some ⟨gD, 0, none⟩) L.length dc) (.slice (some ⟨gE, 0, none⟩) (k + 1) cE) (.slice (some ⟨gG, 0, none⟩) (k + 1) cG) (.slice (some ⟨gL, 0, none⟩) (3 * k + 1 + 1 + 1) cL) (.slice (some ⟨gN, 0, none⟩) (k + 1) cN) lo hi (k + 1) L.length) w' xs L' :=
    fun hR h1 h2 h => h.weak hR (Mv.weak fun q _ hs => avi q (by have := hs.1; omega) (by have := hs.2.1; omega))
  refine ⟨D, fun i h hk => ?_, fun i h hk => ?_, R, Q, ?_, ?_, ?_, ?_, ?_, ?_, ?_, ?_, ?_, ?_⟩
  · obtain ⟨cs, h1, h2, h3⟩ := I.todo i h (by omega)
    refine ⟨cs, h1, h2.only OT (fun q q1 q2 hs => ?_), fun j hj => (hx.2 _ (.inr (by omega))).trans (h3 j hj)⟩
    have i1 := st.up k i (by omega) h
    obtain ⟨i2, i3, i4⟩ := st.iv i h
    have i5 := gd3 i h
    rcases hs with hs | hs | hs | hs | hs | hs | hs
    · omega
    · omega
    · have := bE q hs; omega
    · have := bG q hs; omega
    · have := bL q hs; omega
    · have := bN q hs; omega
    · omega
  · by_cases e : i < k
    · obtain ⟨cs, h1, h2, h3⟩ := I.done i h e
      exact ⟨cs, h1, h2.mv mv, fun j hj => (hx.2 _ (.inl (by omega))).trans (h3 j hj)⟩
    · have e' : i = k := by omega
      subst e'
      rw [hLk]
      refine ⟨_, rfl, ⟨_, _, rfl, ?_, ?_, ?_, ?_, ?_, ?_⟩, hx.1⟩
      · exact Els.cut (m := 1) (els_nd _ _ _) xE (avb _ (by simp)) l1
      · exact Els.cut (m := 1) (Els.mv (mx := 0) elG (fun _ _ h => h)) fG (avb _ (by simp)) l2
      · exact Els.cut (m := 1) (si rmvS (by omega) (by omega) el8) f8 (avb _ (by simp)) l3
      · exact Els.cut (m := 1) (si rmvS (by omega) (by omega) el9) f9 (avb _ (by simp)) l4
      · exact Els.cut (m := 1) (si rmvS (by omega) (by omega) el10) f10 (avb _ (by simp)) l5
      · exact Els.cut (m := 1) (si rmvX (by omega) (by omega) elN) fN (avb _ (by simp)) l6
  · exact ⟨_, Es ++ [x.expr.length], by simp [lEs], nE, Els.push (mx := 0) (elE.weak rmvME mv) rfl (MkR.of xE (cellsN_len _) rfl rfl (avb _ (by simp)) (by omega))⟩
  · exact ⟨_, Gs ++ [x.sg.green.length], by simp [lGs], nG, Els.push (mx := 0) (elG0.weak rmvMG mv) rfl (MkR.of fG elG.1 rfl rfl (avb _ (by simp)) (by omega))⟩
  · exact ⟨_, Ns ++ [x.sg.nexts.length], by simp [lNs], nN, Els.push (mx := 0) (elN0.weak rmvMN mv) rfl (MkR.of fN elN.1 rfl rfl (avb _ (by simp)) (by omega))⟩
  · have e3 : 3 * (k + 1) = 3 * k + 1 + 1 + 1 := by omega
    rw [e3]
    exact ⟨_, ((Ls ++ [x.sg.enter.length]) ++ [x.sg.during.length]) ++ [x.sg.leave.length], by simp [lLs], nL, Els.push (mx := 0) (Els.push (mx := 0) (Els.push (mx := 0) (elL.weak rmvML mv) rfl (MkR.of f8 el8.1 rfl rfl (avb _ (by simp)) (by omega))) rfl (MkR.of f9 el9.1 rfl rfl (avb _ (by simp)) (by omega))) rfl (MkR.of f10 el10.1 rfl rfl (avb _ (by simp)) (by omega))⟩
  all_goals (intro q h1 h2; have e1 := inj h1; have e2 := inj h2; omega)
end Go.Proofs.YthjdflcakngpiaaDoor
