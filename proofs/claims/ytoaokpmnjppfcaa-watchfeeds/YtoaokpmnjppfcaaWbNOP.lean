import Derived.Deep.DeepCutAuto
import Derived.Test.YtoaokpmnjppfcaaWbM
namespace Go.Proofs.Ytoaokpmnjppfcaa
open Go.RowKit
set_option linter.unusedVariables false
set_option linter.unusedSimpArgs false

theorem onlyS4 {wr : World} {g : Nat} {i0 i1 i2 i3 : Nat} {x0 x1 x2 x3 : Value} : Only (fun q => q = g) wr ((((wr.setCell ⟨g, i0, none⟩ x0).setCell ⟨g, i1, none⟩ x1).setCell ⟨g, i2, none⟩ x2).setCell ⟨g, i3, none⟩ x3) := (((((Only.refl (fun q => q = g) wr).set (b := g) (i := i0) rfl x0).set (b := g) (i := i1) rfl x1).set (b := g) (i := i2) rfl x2).set (b := g) (i := i3) rfl x3)
theorem onlyS5 {wr : World} {g : Nat} {i0 i1 i2 i3 i4 : Nat} {x0 x1 x2 x3 x4 : Value} : Only (fun q => q = g) wr (((((wr.setCell ⟨g, i0, none⟩ x0).setCell ⟨g, i1, none⟩ x1).setCell ⟨g, i2, none⟩ x2).setCell ⟨g, i3, none⟩ x3).setCell ⟨g, i4, none⟩ x4) := ((((((Only.refl (fun q => q = g) wr).set (b := g) (i := i0) rfl x0).set (b := g) (i := i1) rfl x1).set (b := g) (i := i2) rfl x2).set (b := g) (i := i3) rfl x3).set (b := g) (i := i4) rfl x4)
/-- What stands while tables are written full. -/
structure BT (w wr : World) (a1 : Option Addr) (n c1 : Nat) (a2 : Option Addr) (m c2 : Nat) (M1 : List Gp) (M2 : List Cf) : Prop where
  l1 : M1.length = n
  l2 : M2.length = m
  o1 : wr.ownsRow 0 66 5 (.slice a1 n c1) n (cellsF Gp.cs M1)
  o2 : wr.ownsRow 0 68 4 (.slice a2 m c2) m (cellsF Cf.cs M2)
  bx : Has wr w.heap.size #[.slice a1 n c1, .slice a2 m c2]
  oo : Only (fun q => (Value.slice a1 n c1).ownBlock = some q ∨ (Value.slice a2 m c2).ownBlock = some q) w wr
set_option maxRecDepth 100000 in
set_option maxHeartbeats 400000 in
theorem blot_any {w : World} {a1 a2 : Option Addr} {n m c1 c2 : Nat} {M1 : List Gp} {M2 : List Cf} (hn : M1.length = n) (hm : M2.length = m) (h1 : w.ownsRow 0 66 5 (.slice a1 n c1) n (cellsF Gp.cs M1)) (h2 : w.ownsRow 0 68 4 (.slice a2 m c2) m (cellsF Cf.cs M2)) (ne : ∀ q, (Value.slice a1 n c1).ownBlock = some q → (Value.slice a2 m c2).ownBlock ≠ some q) (lG : n ≤ 2932031007317) (lC : m ≤ 4398046511000) :
    Calls Try.prog 8 #[.agg #[.slice a1 n c1, .slice a2 m c2]] w fun e w' => e = .returned (.tuple #[]) ∧ Only (fun q => (Value.slice a1 n c1).ownBlock = some q ∨ (Value.slice a2 m c2).ownBlock = some q) w w' := by
  have lt1 := fun q hq => (own_lt h1 q hq).2
  have lt2 := fun q hq => (own_lt h2 q hq).2
  have S0 : BT w (w.alloc (.cells #[.slice a1 n c1, .slice a2 m c2] 25)) a1 n c1 a2 m c2 M1 M2 := ⟨hn, hm, own_bel h1 belN1, own_bel h2 belN1, Has.new _ _ _ rfl, (Only.refl _ _).alloc _⟩
  clear h1 h2 hn hm
  go_enter Try.func8, Try.ntmps8
  go_upto_region 1 with fail
  generalize (w.alloc (.cells #[.slice a1 n c1, .slice a2 m c2] 25)) = V at *
  go_wp2
  go_loopg [2] n (fun gk v wr => ∃ (k : Nat) (M1 : List Gp), k + gk = n ∧ v = .int .i64 (k : Int) ∧ Hid (BT w wr a1 n c1 a2 m c2 M1 M2))
  case atStart => exact ⟨0, M1, by omega, rfl, S0⟩
  case round =>
    clear S0 M1
    obtain ⟨k, M1, hkk, rfl, hS⟩ := hrel
    obtain ⟨_, i1, _⟩ := id hS.out.bx
    cases gk with
    | zero =>
      have ek : k = n := by omega
      have hkn : ¬ ((k : Int) < (n : Int)) := by omega
      go_wp2
      go_loopg [3] m (fun gk v wr => ∃ (k : Nat) (M2 : List Cf), k + gk = m ∧ v = .int .i64 (k : Int) ∧ Hid (BT w wr a1 n c1 a2 m c2 M1 M2))
      case atStart => exact ⟨0, M2, by omega, rfl, hS⟩
      case round =>
        clear hS hkn i1
        obtain ⟨k, M2, hkk, rfl, hS⟩ := hrel
        obtain ⟨_, i1, _⟩ := id hS.out.bx
        cases gk with
        | zero =>
          have ek : k = m := by omega
          have hkn : ¬ ((k : Int) < (m : Int)) := by omega
          go_wp2
          refine ⟨rfl, .tuple #[], ?_, rfl, hS.out.oo⟩
          simp [results, Try.results8, go_sem]
        | succ g =>
          have hki : (k : Int) < (m : Int) := by omega
          have hkM : k < M2.length := by rw [hS.out.l2]; omega
          have hwk : IntKind.i64.wrap ((k : Int) + 1) = (k : Int) + 1 := wrap64 _ (by omega)
          obtain ⟨gb, c', e5, -, hgb, hgl⟩ := own_block hS.out.o2 (by omega)
          injection e5 with e5 _ e6
          subst e5 e6
          have rd : ∀ j u, (Cf.cs M2[k])[j]? = some u → wr.cell? ⟨gb, k * 4 + j, none⟩ = some u := fun j u hu => by
            have hj : j < 4 := by have := (List.getElem?_eq_some_iff.1 hu).1; rwa [cf_len] at this
            exact own_reads hS.out.o2 rfl _ _ (by rw [cellsF_get cf_len M2 k j hkM hj]; exact hu)
          have y0 := rd 0 _ rfl
          have y1 := rd 1 _ rfl
          have y2 := rd 2 _ rfl
          have y3 := rd 3 _ rfl
          have z := hS.out.o2.frozenAt
          simp only [Nat.add_zero] at y0
          clear rd
          go_wp2
          go_roundg g
          case measure => omega
          case rel =>
          have ng : w.heap.size ≠ gb := fun e => by have := lt2 gb rfl; omega
          have nn : ∀ q, (Value.slice a1 n c1).ownBlock = some q → q ≠ gb := fun q hq e => ne q hq (by rw [e]; rfl)
          refine ⟨k + 1, M2.set k ⟨63, 64, 3600, 3600⟩, by omega, by push_cast; rfl, ?_⟩
          refine ⟨hS.out.l1, by rw [List.length_set]; exact hS.out.l2, own_only2 hS.out.o1 (onlyS4 (wr := wr) (g := gb)) (fun q hq e => nn q hq e), ?_, hS.out.bx.only (onlyS4 (wr := wr) (g := gb)) ng, ?_⟩
          · have := own_stored (Cf.cs ⟨63, 64, 3600, 3600⟩) wr _ (k * 4) hS.out.o2
            rw [setAll_row cf_len (by decide) M2 k hkM] at this
            exact this
          · exact hS.out.oo.trans ((onlyS4 (wr := wr) (g := gb)).mono (fun q e => .inr (by rw [e]; rfl)))
    | succ g =>
      have hki : (k : Int) < (n : Int) := by omega
      have hkM : k < M1.length := by rw [hS.out.l1]; omega
      have hwk : IntKind.i64.wrap ((k : Int) + 1) = (k : Int) + 1 := wrap64 _ (by omega)
      obtain ⟨gb, c', e5, -, hgb, hgl⟩ := own_block hS.out.o1 (by omega)
      injection e5 with e5 _ e6
      subst e5 e6
      have rd : ∀ j u, (Gp.cs M1[k])[j]? = some u → wr.cell? ⟨gb, k * 5 + j, none⟩ = some u := fun j u hu => by
        have hj : j < 5 := by have := (List.getElem?_eq_some_iff.1 hu).1; rwa [gp_len] at this
        exact own_reads hS.out.o1 rfl _ _ (by rw [cellsF_get gp_len M1 k j hkM hj]; exact hu)
      have y0 := rd 0 _ rfl
      have y1 := rd 1 _ rfl
      have y2 := rd 2 _ rfl
      have y3 := rd 3 _ rfl
      have y4 := rd 4 _ rfl
      have z := hS.out.o1.frozenAt
      simp only [Nat.add_zero] at y0
      clear rd
      go_wp2
      go_roundg g
      case measure => omega
      case rel =>
      have ng : w.heap.size ≠ gb := fun e => by have := lt1 gb rfl; omega
      have nn : ∀ q, (Value.slice a2 m c2).ownBlock = some q → q ≠ gb := fun q hq e => ne gb rfl (by rw [← e]; exact hq)
      refine ⟨k + 1, M1.set k ⟨⟨#[]⟩, 0, 9, 9, 9⟩, by omega, by push_cast; rfl, ?_⟩
      refine ⟨by rw [List.length_set]; exact hS.out.l1, hS.out.l2, ?_, own_only2 hS.out.o2 (onlyS5 (wr := wr) (g := gb)) (fun q hq e => nn q hq e), hS.out.bx.only (onlyS5 (wr := wr) (g := gb)) ng, ?_⟩
      · have := own_stored (Gp.cs ⟨⟨#[]⟩, 0, 9, 9, 9⟩) wr _ (k * 5) hS.out.o1
        rw [setAll_row gp_len (by decide) M1 k hkM] at this
        exact this
      · exact hS.out.oo.trans ((onlyS5 (wr := wr) (g := gb)).mono (fun q e => .inl (by rw [e]; rfl)))
end Go.Proofs.Ytoaokpmnjppfcaa
namespace Go.Proofs.Ytoaokpmnjppfcaa
open Go.RowKit
set_option linter.unusedVariables false
set_option linter.unusedSimpArgs false

structure Oq where
  k : Int
  n : Int
  h : ByteArray
def Oq.cs (o : Oq) : List Value := [.int .i64 o.k, .int .i64 o.n, .string o.h]
theorem oq_len (o : Oq) : o.cs.length = 3 := rfl
/-- A log that was told. -/
structure En where
  v : Value
  n : Nat
  ma : Int
def En.cs (e : En) : List Value := [e.v]
theorem en_len (e : En) : e.cs.length = 1 := rfl
def mkA (m : Int) : Al := ⟨m, 0, 0, 0⟩
/-- What stands ahead of a step. -/
structure LI (z1 z2 : Bool) (w wr : World) (F1 F2 : Nat → Prop) (b1 b2 b3 b4 : Nat) (G G' : List Gp) (C C' : List Cf) (st1 st2 : Sta) (i : Nat) (vL : Value) (LG : List En) : Prop where
  p1 : z1 = true → Pr wr F1 b1 b2 G C st1 i
  p2 : z2 = true → Pr wr F2 b3 b4 G' C' st2 i
  d1 : ∀ q, F1 q → q < wr.heap.size ∧ w.heap.size ≤ q
  d2 : ∀ q, F2 q → q < wr.heap.size ∧ w.heap.size ≤ q
  dd : ∀ q, F1 q → ¬ F2 q
  ll : LG.length ≤ i
  own : wr.ownsRow w.heap.size 39 1 vL LG.length (cellsF En.cs LG)
  nv : ∀ q, vL.ownBlock = some q → ¬ F1 q ∧ ¬ F2 q
  es : ∀ e ∈ LG, e.n ≤ i ∧ 1000 ≤ e.ma ∧ (∃ a c, e.v = .slice a (e.n + 1) c) ∧ wr.ownsRow w.heap.size 43 4 e.v (e.n + 1) (cellsF Al.cs (List.replicate (e.n + 1) ⟨e.ma, 0, 0, 0⟩)) ∧ ∀ q, e.v.ownBlock = some q → ¬ F1 q ∧ ¬ F2 q ∧ vL.ownBlock ≠ some q
  be : Below w.heap.size w wr
theorem LI.swap {z1 z2 : Bool} {w wr : World} {F1 F2 : Nat → Prop} {b1 b2 b3 b4 : Nat} {G G' : List Gp} {C C' : List Cf} {st1 st2 : Sta} {i : Nat} {vL : Value} {LG : List En} (h : LI z1 z2 w wr F1 F2 b1 b2 b3 b4 G G' C C' st1 st2 i vL LG) : LI z2 z1 w wr F2 F1 b3 b4 b1 b2 G' G C' C st2 st1 i vL LG :=
  ⟨h.p2, h.p1, h.d2, h.d1, fun q a b => h.dd q b a, h.ll, h.own, fun q e => ⟨(h.nv q e).2, (h.nv q e).1⟩, fun e he => by
    obtain ⟨a, b, c, d, f⟩ := h.es e he
    exact ⟨a, b, c, d, fun q hq => ⟨(f q hq).2.1, (f q hq).1, (f q hq).2.2⟩⟩, h.be⟩
theorem LI.below {z1 z2 : Bool} {w wr : World} {F1 F2 : Nat → Prop} {b1 b2 b3 b4 : Nat} {G G' : List Gp} {C C' : List Cf} {st1 st2 : Sta} {i : Nat} {vL : Value} {LG : List En} {wx : World} (h : LI z1 z2 w wr F1 F2 b1 b2 b3 b4 G G' C C' st1 st2 i vL LG) (hb : Below wr.heap.size wr wx) : LI z1 z2 w wx F1 F2 b1 b2 b3 b4 G G' C C' st1 st2 i vL LG :=
  ⟨fun z => (h.p1 z).below hb, fun z => (h.p2 z).below hb, fun q e => by have := h.d1 q e; have := hb.size; omega, fun q e => by have := h.d2 q e; have := hb.size; omega, h.dd, h.ll, own_bel h.own hb, h.nv, fun e he => by
    obtain ⟨a, b, c, d, f⟩ := h.es e he
    exact ⟨a, b, c, own_bel d hb, f⟩, h.be.trans (hb.mono h.be.size)⟩
theorem LI.up {z1 z2 : Bool} {w wr : World} {F1 F2 : Nat → Prop} {b1 b2 b3 b4 : Nat} {G G' : List Gp} {C C' : List Cf} {st1 st2 : Sta} {i : Nat} {vL : Value} {LG : List En} (h : LI z1 z2 w wr F1 F2 b1 b2 b3 b4 G G' C C' st1 st2 i vL LG) : LI z1 z2 w wr F1 F2 b1 b2 b3 b4 G G' C C' st1 st2 (i + 1) vL LG :=
  ⟨fun z => (h.p1 z).up (Nat.le_succ _), fun z => (h.p2 z).up (Nat.le_succ _), h.d1, h.d2, h.dd, Nat.le_succ_of_le h.ll, h.own, h.nv, fun e he => by
    obtain ⟨a, b, c⟩ := h.es e he
    exact ⟨Nat.le_succ_of_le a, b, c⟩, h.be⟩
/-- A log that is new. -/
def NE (w wr : World) (F1 F2 : Nat → Prop) (vL v : Value) (mark : Int) (i : Nat) : Prop := v = .slice none 0 0 ∨ ∃ n a c, n ≤ i ∧ v = .slice a (n + 1) c ∧ wr.ownsRow w.heap.size 43 4 v (n + 1) (cellsF Al.cs (List.replicate (n + 1) ⟨mark, 0, 0, 0⟩)) ∧ ∀ q, v.ownBlock = some q → ¬ F1 q ∧ ¬ F2 q ∧ vL.ownBlock ≠ some q
theorem LI.step {z1 z2 : Bool} {w wr : World} {F1 F2 : Nat → Prop} {b1 b2 b3 b4 : Nat} {G G' : List Gp} {C C' : List Cf} {st1 st2 : Sta} {i : Nat} {vL : Value} {LG : List En} {w' : World} {F1' : Nat → Prop} {st1' : Sta} {v : Value} {mark : Int} (h : LI z1 z2 w wr F1 F2 b1 b2 b3 b4 G G' C C' st1 st2 i vL LG) (hp : Pr w' F1' b1 b2 G C st1' (i + 1)) (hF : ∀ q, F1' q → F1 q ∨ wr.heap.size ≤ q) (ho : Only F1 wr w') (hv : LV w' wr.heap.size v mark i) (hn : ∀ q, v.ownBlock = some q → ¬ F1' q) : LI z1 z2 w w' F1' F2 b1 b2 b3 b4 G G' C C' st1' st2 (i + 1) vL LG ∧ NE w w' F1' F2 vL v mark (i + 1) := by
  have sz := ho.size
  have bz := h.be.size
  have vlt : ∀ q, vL.ownBlock = some q → q < wr.heap.size := fun q e => (own_lt h.own q e).2
  have nn : ∀ q, q < wr.heap.size → ¬ F1 q → ¬ F1' q := fun q hq hn e => (hF q e).elim hn (fun c => by omega)
  refine ⟨⟨fun _ => hp, fun z => ((h.p2 z).move ho (fun q e c => h.dd q c e)).up (Nat.le_succ _), fun q e => ⟨hp.lt q e, (hF q e).elim (fun c => (h.d1 q c).2) (fun c => by omega)⟩, fun q e => by have := h.d2 q e; omega, fun q e c => (hF q e).elim (fun k => h.dd q k c) (fun k => by have := h.d2 q c; omega), Nat.le_succ_of_le h.ll, own_only2 h.own ho (fun q e => (h.nv q e).1), fun q e => ⟨nn q (vlt q e) (h.nv q e).1, (h.nv q e).2⟩, fun e he => ?_, bel_only h.be ho (Nat.le_refl _) (fun q hq c => by have := h.d1 q c; omega)⟩, ?_⟩
  · obtain ⟨a, b, c, d, f⟩ := h.es e he
    exact ⟨Nat.le_succ_of_le a, b, c, own_only2 d ho (fun q hq => (f q hq).1), fun q hq => ⟨nn q (own_lt d q hq).2 (f q hq).1, (f q hq).2.1, (f q hq).2.2⟩⟩
  · rcases hv with e | ⟨n, a, c, h1, h2, h3⟩
    · exact .inl e
    · refine .inr ⟨n, a, c, Nat.le_succ_of_le h1, h2, own_base h3 (by omega), fun q hq => ⟨hn q hq, fun e => ?_, fun e => ?_⟩⟩
      · have := (own_lt h3 q hq).1; have := h.d2 q e; omega
      · have := (own_lt h3 q hq).1; have := vlt q e; omega
theorem LI.add {z1 z2 : Bool} {w wr : World} {F1 F2 : Nat → Prop} {b1 b2 b3 b4 : Nat} {G G' : List Gp} {C C' : List Cf} {st1 st2 : Sta} {i : Nat} {vL : Value} {LG : List En} {wx w' : World} {n g cap : Nat} {v : Value} {mark : Int} (h : LI z1 z2 w wr F1 F2 b1 b2 b3 b4 G G' C C' st1 st2 (i + 1) vL LG) (hl : LG.length ≤ i) (hm : 1000 ≤ mark) (hn : n ≤ i + 1) (hv : ∃ a c, v = .slice a (n + 1) c) (hown : wr.ownsRow w.heap.size 43 4 v (n + 1) (cellsF Al.cs (List.replicate (n + 1) ⟨mark, 0, 0, 0⟩))) (hb : ∀ q, v.ownBlock = some q → ¬ F1 q ∧ ¬ F2 q ∧ vL.ownBlock ≠ some q)
    (hx : Below wr.heap.size wr wx) (hx1 : wr.heap.size < wx.heap.size) (o1 : w'.ownsRow w.heap.size 39 1 (.slice (some ⟨g, 0, none⟩) (LG.length + 1) cap) (LG.length + 1) (cellsF En.cs LG ++ [v])) (o2 : wx.grownBy w' vL.ownBlock) (o3 : vL.ownBlock = some g ∨ wx.heap.size ≤ g) :
    LI z1 z2 w w' F1 F2 b1 b2 b3 b4 G G' C C' st1 st2 (i + 1) (.slice (some ⟨g, 0, none⟩) (LG.length + 1) cap) (LG ++ [⟨v, n, mark⟩]) := by
  have hX := h.below hx
  have sz := o2.size
  have xz := hx.size
  have ho : Only (fun q => vL.ownBlock = some q) wx w' := only_grown (Only.refl _ _) o2 (fun q e => .inl e)
  have gq : ∀ q, (Value.slice (some ⟨g, 0, none⟩) (LG.length + 1) cap).ownBlock = some q → q = g := fun q e => (Option.some.inj e).symm
  have hlen : (LG ++ [(⟨v, n, mark⟩ : En)]).length = LG.length + 1 := by simp
  have fG : cellsF En.cs LG ++ [v] = cellsF En.cs (LG ++ [⟨v, n, mark⟩]) := by rw [cellsF_append]; rfl
  rw [fG] at o1
  have own' := own_bel hown hx
  have ng : ∀ q, q < wr.heap.size → vL.ownBlock ≠ some q → (Value.slice (some ⟨g, 0, none⟩) (LG.length + 1) cap).ownBlock ≠ some q := fun q hq hn e => by
    have e' := gq q e
    subst e'
    exact o3.elim hn (fun c => by omega)
  refine ⟨fun z => (hX.p1 z).move ho (fun q e c => (h.nv q c).1 e), fun z => (hX.p2 z).move ho (fun q e c => (h.nv q c).2 e), fun q e => by have := hX.d1 q e; omega, fun q e => by have := hX.d2 q e; omega, h.dd, by rw [hlen]; omega, by rw [hlen]; exact o1, fun q e => ?_, fun e he => ?_, bel_only hX.be ho (Nat.le_refl _) (fun q hq c => by have := (own_lt h.own q c).1; omega)⟩
  · have e' := gq q e
    subst e'
    exact o3.elim (fun c => h.nv q c) (fun c => ⟨fun k => by have := hX.d1 q k; omega, fun k => by have := hX.d2 q k; omega⟩)
  · rcases List.mem_append.1 he with he | he
    · obtain ⟨a, b, c, d, f⟩ := h.es e he
      exact ⟨a, b, c, own_only2 (own_bel d hx) ho (fun q hq c => (f q hq).2.2 c), fun q hq => ⟨(f q hq).1, (f q hq).2.1, ng q (own_lt d q hq).2 (f q hq).2.2⟩⟩
    · rw [List.mem_singleton] at he
      subst he
      exact ⟨hn, hm, hv, own_only2 own' ho (fun q hq c => (hb q hq).2.2 c), fun q hq => ⟨(hb q hq).1, (hb q hq).2.1, ng q (own_lt hown q hq).2 (hb q hq).2.2⟩⟩
end Go.Proofs.Ytoaokpmnjppfcaa
namespace Go.Proofs.Ytoaokpmnjppfcaa
open Go.RowKit
set_option linter.unusedVariables false
set_option linter.unusedSimpArgs false

theorem fl_owned {α : Type} {sz : Nat} {cs : α → List Value} (hl : ∀ x, (cs x).length = sz) {w : World} {base e : Nat} {a : Option Addr} {c : Nat} {L : List α} (h : w.ownsRow base e sz (.slice a L.length c) L.length (cellsF cs L)) : Fl sz cs w (.slice a L.length c) L := by
  rcases h.2 with ⟨e1, e2⟩ | ⟨g, cap, cur, e1, h2, h3, h4⟩
  · refine .inl ⟨?_, List.length_eq_zero_iff.1 e2⟩
    exact e1
  · injection e1 with e1 _ e3
    subst e1 e3
    refine .inr ⟨⟨g, 0, none⟩, c, rfl, h4.1, ?_⟩
    by_cases h0 : L = []
    · exact .inl h0
    · refine .inr ⟨rfl, (Array.getElem?_eq_some_iff.1 h3).1, fun i hi j u hu => ?_⟩
      have hj : j < sz := by have := (List.getElem?_eq_some_iff.1 hu).1; rwa [hl] at this
      show w.cell? ⟨g, 0 + i * sz + j, none⟩ = some u
      rw [Nat.zero_add]
      exact own_reads h rfl _ _ (by rw [cellsF_get hl L i j hi hj]; exact hu)
theorem info39 : (Try.prog.info? 39).map (fun i => (i.zero, i.size, i.bytes)) = some (some (.slice none 0 0), 1, 24) := by kernel_rfl
theorem NE.swap {w wr : World} {F1 F2 : Nat → Prop} {vL v : Value} {mark : Int} {i : Nat} (h : NE w wr F1 F2 vL v mark i) : NE w wr F2 F1 vL v mark i := by
  rcases h with e | ⟨n, a, c, h1, h2, h3, h4⟩
  · exact .inl e
  · exact .inr ⟨n, a, c, h1, h2, h3, fun q hq => ⟨(h4 q hq).2.1, (h4 q hq).1, (h4 q hq).2.2⟩⟩
theorem NE.form {w wr : World} {F1 F2 : Nat → Prop} {vL v : Value} {mark : Int} {i : Nat} (h : NE w wr F1 F2 vL v mark i) : ∃ a n c, v = .slice a n c ∧ Hid (NE w wr F1 F2 vL v mark i) := by
  have h' := h
  rcases h with e | ⟨n, a, c, h1, h2, h3, h4⟩
  · exact ⟨none, 0, 0, e, h'⟩
  · exact ⟨a, n + 1, c, h2, h'⟩
theorem wrap64_id (x : Int) (h : -100 ≤ x ∧ x ≤ 100) : RowKit.wrap64 x = x := by
  have := wrap64 x (by omega)
  first | exact this | (unfold RowKit.wrap64; omega) | (simpa [RowKit.wrap64] using this)
/-- Two stretches of blocks. -/
def Rg (l1 l2 l3 l4 : Nat) (q : Nat) : Prop := l1 ≤ q ∧ q < l2 ∨ l3 ≤ q ∧ q < l4
theorem pr_init {w : World} {l1 l2 gl b1 B : Nat} {vg vc : Value} {b2 rb : Nat} {vg' vc' vn : Value} {G : List Gp} {C : List Cf} {l3 l4 : Nat} (mo : Mo w l1 l2 gl b1 B vg vc (.slice none 0 0) (grL G) C (fun _ => lm0) 0 al0 []) (rm : Rm w b2 rb vg' vc' vn (.slice none 0 0) G C 0 ⟨#[]⟩ (fun _ => 0) (fun _ => -1) al0 []) (hf : ∀ q, Ft b2 rb vg' vc' vn (.slice none 0 0) q → l3 ≤ q ∧ q < l4) (h23 : l2 ≤ l3) (h4 : l4 ≤ w.heap.size) : Pr w (Rg l1 l2 l3 l4) b1 b2 G C (st0 []) 0 := by
  have z1 := mo.l1
  have z2 := mo.l2
  refine ⟨l1, l2, gl, B, vg, vc, .slice none 0 0, rb, vg', vc', vn, .slice none 0 0, 0, ⟨#[]⟩, fun _ => 0, fun _ => -1, mo, rm, fun _ => ⟨rfl, rel0 _⟩, sok0 _, Nat.le_refl _, fun q hq => ?_, fun q hq => .inr (hf q hq), fun q hq => ?_⟩
  · rcases hq with e | e
    · exact ⟨.inl e, fun c => by have := hf q c; omega⟩
    · cases e
  · rcases hq with e | e <;> omega
/-- (x mod 8 + 8) mod 8. -/
def kdF (x : Int) : Int := (x.tmod 8 + 8).tmod 8
theorem kd_ok (x : Int) : 0 ≤ kdF x ∧ kdF x < 8 := by
  have h1 := Int.tmod_lt_of_pos x (b := 8) (by decide)
  have h2 : -8 < x.tmod 8 := by
    have := Int.tmod_lt_of_pos (-x) (b := 8) (by decide)
    rw [Int.neg_tmod] at this
    omega
  unfold kdF
  exact ⟨Int.tmod_nonneg _ (by omega), Int.tmod_lt_of_pos _ (by decide)⟩
end Go.Proofs.Ytoaokpmnjppfcaa
