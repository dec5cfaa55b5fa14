import Derived.Test.YtoaokpmnjppfcaaWbN
namespace Go.Proofs.Ytoaokpmnjppfcaa
open Go.RowKit
set_option linter.unusedVariables false
set_option linter.unusedSimpArgs false

structure Oq where
  k : Int
  n : Int
  h : ByteArray
def Oq.cs (o : Oq) : List Value := [.int .i64 o.k, .int .i64 o.n, .string o.h]
theorem oq_len (o : Oq) : o.cs.length = 3 := rfl
/-- A log that was told. -/
structure En where
  v : Value
  n : Nat
  ma : Int
def En.cs (e : En) : List Value := [e.v]
theorem en_len (e : En) : e.cs.length = 1 := rfl
def mkA (m : Int) : Al := ⟨m, 0, 0, 0⟩
/-- What stands ahead of a step. -/
structure LI (z1 z2 : Bool) (w wr : World) (F1 F2 : Nat → Prop) (b1 b2 b3 b4 : Nat) (G G' : List Gp) (C C' : List Cf) (st1 st2 : Sta) (i : Nat) (vL : Value) (LG : List En) : Prop where
  p1 : z1 = true → Pr wr F1 b1 b2 G C st1 i
  p2 : z2 = true → Pr wr F2 b3 b4 G' C' st2 i
  d1 : ∀ q, F1 q → q < wr.heap.size ∧ w.heap.size ≤ q
  d2 : ∀ q, F2 q → q < wr.heap.size ∧ w.heap.size ≤ q
  dd : ∀ q, F1 q → ¬ F2 q
  ll : LG.length ≤ i
  own : wr.ownsRow w.heap.size 39 1 vL LG.length (cellsF En.cs LG)
  nv : ∀ q, vL.ownBlock = some q → ¬ F1 q ∧ ¬ F2 q
  es : ∀ e ∈ LG, e.n ≤ i ∧ 1000 ≤ e.ma ∧ (∃ a c, e.v = .slice a (e.n + 1) c) ∧ wr.ownsRow w.heap.size 43 4 e.v (e.n + 1) (cellsF Al.cs (List.replicate (e.n + 1) ⟨e.ma, 0, 0, 0⟩)) ∧ ∀ q, e.v.ownBlock = some q → ¬ F1 q ∧ ¬ F2 q ∧ vL.ownBlock ≠ some q
  be : Below w.heap.size w wr
theorem LI.swap {z1 z2 : Bool} {w wr : World} {F1 F2 : Nat → Prop} {b1 b2 b3 b4 : Nat} {G G' : List Gp} {C C' : List Cf} {st1 st2 : Sta} {i : Nat} {vL : Value} {LG : List En} (h : LI z1 z2 w wr F1 F2 b1 b2 b3 b4 G G' C C' st1 st2 i vL LG) : LI z2 z1 w wr F2 F1 b3 b4 b1 b2 G' G C' C st2 st1 i vL LG :=
  ⟨h.p2, h.p1, h.d2, h.d1, fun q a b => h.dd q b a, h.ll, h.own, fun q e => ⟨(h.nv q e).2, (h.nv q e).1⟩, fun e he => by
    obtain ⟨a, b, c, d, f⟩ := h.es e he
    exact ⟨a, b, c, d, fun q hq => ⟨(f q hq).2.1, (f q hq).1, (f q hq).2.2⟩⟩, h.be⟩
theorem LI.below {z1 z2 : Bool} {w wr : World} {F1 F2 : Nat → Prop} {b1 b2 b3 b4 : Nat} {G G' : List Gp} {C C' : List Cf} {st1 st2 : Sta} {i : Nat} {vL : Value} {LG : List En} {wx : World} (h : LI z1 z2 w wr F1 F2 b1 b2 b3 b4 G G' C C' st1 st2 i vL LG) (hb : Below wr.heap.size wr wx) : LI z1 z2 w wx F1 F2 b1 b2 b3 b4 G G' C C' st1 st2 i vL LG :=
  ⟨fun z => (h.p1 z).below hb, fun z => (h.p2 z).below hb, fun q e => by have := h.d1 q e; have := hb.size; omega, fun q e => by have := h.d2 q e; have := hb.size; omega, h.dd, h.ll, own_bel h.own hb, h.nv, fun e he => by
    obtain ⟨a, b, c, d, f⟩ := h.es e he
    exact ⟨a, b, c, own_bel d hb, f⟩, h.be.trans (hb.mono h.be.size)⟩
theorem LI.up {z1 z2 : Bool} {w wr : World} {F1 F2 : Nat → Prop} {b1 b2 b3 b4 : Nat} {G G' : List Gp} {C C' : List Cf} {st1 st2 : Sta} {i : Nat} {vL : Value} {LG : List En} (h : LI z1 z2 w wr F1 F2 b1 b2 b3 b4 G G' C C' st1 st2 i vL LG) : LI z1 z2 w wr F1 F2 b1 b2 b3 b4 G G' C C' st1 st2 (i + 1) vL LG :=
  ⟨fun z => (h.p1 z).up (Nat.le_succ _), fun z => (h.p2 z).up (Nat.le_succ _), h.d1, h.d2, h.dd, Nat.le_succ_of_le h.ll, h.own, h.nv, fun e he => by
    obtain ⟨a, b, c⟩ := h.es e he
    exact ⟨Nat.le_succ_of_le a, b, c⟩, h.be⟩
/-- A log that is new. -/
def NE (w wr : World) (F1 F2 : Nat → Prop) (vL v : Value) (mark : Int) (i : Nat) : Prop := v = .slice none 0 0 ∨ ∃ n a c, n ≤ i ∧ v = .slice a (n + 1) c ∧ wr.ownsRow w.heap.size 43 4 v (n + 1) (cellsF Al.cs (List.replicate (n + 1) ⟨mark, 0, 0, 0⟩)) ∧ ∀ q, v.ownBlock = some q → ¬ F1 q ∧ ¬ F2 q ∧ vL.ownBlock ≠ some q
theorem LI.step {z1 z2 : Bool} {w wr : World} {F1 F2 : Nat → Prop} {b1 b2 b3 b4 : Nat} {G G' : List Gp} {C C' : List Cf} {st1 st2 : Sta} {i : Nat} {vL : Value} {LG : List En} {w' : World} {F1' : Nat → Prop} {st1' : Sta} {v : Value} {mark : Int} (h : LI z1 z2 w wr F1 F2 b1 b2 b3 b4 G G' C C' st1 st2 i vL LG) (hp : Pr w' F1' b1 b2 G C st1' (i + 1)) (hF : ∀ q, F1' q → F1 q ∨ wr.heap.size ≤ q) (ho : Only F1 wr w') (hv : LV w' wr.heap.size v mark i) (hn : ∀ q, v.ownBlock = some q → ¬ F1' q) : LI z1 z2 w w' F1' F2 b1 b2 b3 b4 G G' C C' st1' st2 (i + 1) vL LG ∧ NE w w' F1' F2 vL v mark (i + 1) := by
  have sz := ho.size
  have bz := h.be.size
  have vlt : ∀ q, vL.ownBlock = some q → q < wr.heap.size := fun q e => (own_lt h.own q e).2
  have nn : ∀ q, q < wr.heap.size → ¬ F1 q → ¬ F1' q := fun q hq hn e => (hF q e).elim hn (fun c => by omega)
  refine ⟨⟨fun _ => hp, fun z => ((h.p2 z).move ho (fun q e c => h.dd q c e)).up (Nat.le_succ _), fun q e => ⟨hp.lt q e, (hF q e).elim (fun c => (h.d1 q c).2) (fun c => by omega)⟩, fun q e => by have := h.d2 q e; omega, fun q e c => (hF q e).elim (fun k => h.dd q k c) (fun k => by have := h.d2 q c; omega), Nat.le_succ_of_le h.ll, own_only2 h.own ho (fun q e => (h.nv q e).1), fun q e => ⟨nn q (vlt q e) (h.nv q e).1, (h.nv q e).2⟩, fun e he => ?_, bel_only h.be ho (Nat.le_refl _) (fun q hq c => by have := h.d1 q c; omega)⟩, ?_⟩
  · obtain ⟨a, b, c, d, f⟩ := h.es e he
    exact ⟨Nat.le_succ_of_le a, b, c, own_only2 d ho (fun q hq => (f q hq).1), fun q hq => ⟨nn q (own_lt d q hq).2 (f q hq).1, (f q hq).2.1, (f q hq).2.2⟩⟩
  · rcases hv with e | ⟨n, a, c, h1, h2, h3⟩
    · exact .inl e
    · refine .inr ⟨n, a, c, Nat.le_succ_of_le h1, h2, own_base h3 (by omega), fun q hq => ⟨hn q hq, fun e => ?_, fun e => ?_⟩⟩
      · have := (own_lt h3 q hq).1; have := h.d2 q e; omega
      · have := (own_lt h3 q hq).1; have := vlt q e; omega
theorem LI.add {z1 z2 : Bool} {w wr : World} {F1 F2 : Nat → Prop} {b1 b2 b3 b4 : Nat} {G G' : List Gp} {C C' : List Cf} {st1 st2 : Sta} {i : Nat} {vL : Value} {LG : List En} {wx w' : World} {n g cap : Nat} {v : Value} {mark : Int} (h : LI z1 z2 w wr F1 F2 b1 b2 b3 b4 G G' C C' st1 st2 (i + 1) vL LG) (hl : LG.length ≤ i) (hm : 1000 ≤ mark) (hn : n ≤ i + 1) (hv : ∃ a c, v = .slice a (n + 1) c) (hown : wr.ownsRow w.heap.size 43 4 v (n + 1) (cellsF Al.cs (List.replicate (n + 1) ⟨mark, 0, 0, 0⟩))) (hb : ∀ q, v.ownBlock = some q → ¬ F1 q ∧ ¬ F2 q ∧ vL.ownBlock ≠ some q)
    (hx : Below wr.heap.size wr wx) (hx1 : wr.heap.size < wx.heap.size) (o1 : w'.ownsRow w.heap.size 39 1 (.slice (some ⟨g, 0, none⟩) (LG.length + 1) cap) (LG.length + 1) (cellsF En.cs LG ++ [v])) (o2 : wx.grownBy w' vL.ownBlock) (o3 : vL.ownBlock = some g ∨ wx.heap.size ≤ g) :
    LI z1 z2 w w' F1 F2 b1 b2 b3 b4 G G' C C' st1 st2 (i + 1) (.slice (some ⟨g, 0, none⟩) (LG.length + 1) cap) (LG ++ [⟨v, n, mark⟩]) := by
  have hX := h.below hx
  have sz := o2.size
  have xz := hx.size
  have ho : Only (fun q => vL.ownBlock = some q) wx w' := only_grown (Only.refl _ _) o2 (fun q e => .inl e)
  have gq : ∀ q, (Value.slice (some ⟨g, 0, none⟩) (LG.length + 1) cap).ownBlock = some q → q = g := fun q e => (Option.some.inj e).symm
  have hlen : (LG ++ [(⟨v, n, mark⟩ : En)]).length = LG.length + 1 := by simp
  have fG : cellsF En.cs LG ++ [v] = cellsF En.cs (LG ++ [⟨v, n, mark⟩]) := by rw [cellsF_append]; rfl
  rw [fG] at o1
  have own' := own_bel hown hx
  have ng : ∀ q, q < wr.heap.size → vL.ownBlock ≠ some q → (Value.slice (some ⟨g, 0, none⟩) (LG.length + 1) cap).ownBlock ≠ some q := fun q hq hn e => by
    have e' := gq q e
    subst e'
    exact o3.elim hn (fun c => by omega)
  refine ⟨fun z => (hX.p1 z).move ho (fun q e c => (h.nv q c).1 e), fun z => (hX.p2 z).move ho (fun q e c => (h.nv q c).2 e), fun q e => by have := hX.d1 q e; omega, fun q e => by have := hX.d2 q e; omega, h.dd, by rw [hlen]; omega, by rw [hlen]; exact o1, fun q e => ?_, fun e he => ?_, bel_only hX.be ho (Nat.le_refl _) (fun q hq c => by have := (own_lt h.own q c).1; omega)⟩
  · have e' := gq q e
    subst e'
    exact o3.elim (fun c => h.nv q c) (fun c => ⟨fun k => by have := hX.d1 q k; omega, fun k => by have := hX.d2 q k; omega⟩)
  · rcases List.mem_append.1 he with he | he
    · obtain ⟨a, b, c, d, f⟩ := h.es e he
      exact ⟨a, b, c, own_only2 (own_bel d hx) ho (fun q hq c => (f q hq).2.2 c), fun q hq => ⟨(f q hq).1, (f q hq).2.1, ng q (own_lt d q hq).2 (f q hq).2.2⟩⟩
    · rw [List.mem_singleton] at he
      subst he
      exact ⟨hn, hm, hv, own_only2 own' ho (fun q hq c => (hb q hq).2.2 c), fun q hq => ⟨(hb q hq).1, (hb q hq).2.1, ng q (own_lt hown q hq).2 (hb q hq).2.2⟩⟩
end Go.Proofs.Ytoaokpmnjppfcaa
