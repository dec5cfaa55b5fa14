import Derived.Deep.DeepCutAuto
import Derived.Test.YtoaokpmnjppfcaaWbM
namespace Go.Proofs.Ytoaokpmnjppfcaa
open Go.RowKit
set_option linter.unusedVariables false
set_option linter.unusedSimpArgs false

theorem onlyS4 {wr : World} {g : Nat} {i0 i1 i2 i3 : Nat} {x0 x1 x2 x3 : Value} : Only (fun q => q = g) wr ((((wr.setCell ⟨g, i0, none⟩ x0).setCell ⟨g, i1, none⟩ x1).setCell ⟨g, i2, none⟩ x2).setCell ⟨g, i3, none⟩ x3) := (((((Only.refl (fun q => q = g) wr).set (b := g) (i := i0) rfl x0).set (b := g) (i := i1) rfl x1).set (b := g) (i := i2) rfl x2).set (b := g) (i := i3) rfl x3)
theorem onlyS5 {wr : World} {g : Nat} {i0 i1 i2 i3 i4 : Nat} {x0 x1 x2 x3 x4 : Value} : Only (fun q => q = g) wr (((((wr.setCell ⟨g, i0, none⟩ x0).setCell ⟨g, i1, none⟩ x1).setCell ⟨g, i2, none⟩ x2).setCell ⟨g, i3, none⟩ x3).setCell ⟨g, i4, none⟩ x4) := ((((((Only.refl (fun q => q = g) wr).set (b := g) (i := i0) rfl x0).set (b := g) (i := i1) rfl x1).set (b := g) (i := i2) rfl x2).set (b := g) (i := i3) rfl x3).set (b := g) (i := i4) rfl x4)
/-- What stands while tables are written full. -/
structure BT (w wr : World) (a1 : Option Addr) (n c1 : Nat) (a2 : Option Addr) (m c2 : Nat) (M1 : List Gp) (M2 : List Cf) : Prop where
  l1 : M1.length = n
  l2 : M2.length = m
  o1 : wr.ownsRow 0 66 5 (.slice a1 n c1) n (cellsF Gp.cs M1)
  o2 : wr.ownsRow 0 68 4 (.slice a2 m c2) m (cellsF Cf.cs M2)
  bx : Has wr w.heap.size #[.slice a1 n c1, .slice a2 m c2]
  oo : Only (fun q => (Value.slice a1 n c1).ownBlock = some q ∨ (Value.slice a2 m c2).ownBlock = some q) w wr
set_option maxRecDepth 100000 in
set_option maxHeartbeats 400000 in
theorem blot_any {w : World} {a1 a2 : Option Addr} {n m c1 c2 : Nat} {M1 : List Gp} {M2 : List Cf} (hn : M1.length = n) (hm : M2.length = m) (h1 : w.ownsRow 0 66 5 (.slice a1 n c1) n (cellsF Gp.cs M1)) (h2 : w.ownsRow 0 68 4 (.slice a2 m c2) m (cellsF Cf.cs M2)) (ne : ∀ q, (Value.slice a1 n c1).ownBlock = some q → (Value.slice a2 m c2).ownBlock ≠ some q) (lG : n ≤ 2932031007317) (lC : m ≤ 4398046511000) :
    Calls Try.prog 8 #[.agg #[.slice a1 n c1, .slice a2 m c2]] w fun e w' => e = .returned (.tuple #[]) ∧ Only (fun q => (Value.slice a1 n c1).ownBlock = some q ∨ (Value.slice a2 m c2).ownBlock = some q) w w' := by
  have lt1 := fun q hq => (own_lt h1 q hq).2
  have lt2 := fun q hq => (own_lt h2 q hq).2
  have S0 : BT w (w.alloc (.cells #[.slice a1 n c1, .slice a2 m c2] 25)) a1 n c1 a2 m c2 M1 M2 := ⟨hn, hm, own_bel h1 belN1, own_bel h2 belN1, Has.new _ _ _ rfl, (Only.refl _ _).alloc _⟩
  clear h1 h2 hn hm
  go_enter Try.func8, Try.ntmps8
  go_upto_region 1 with fail
  generalize (w.alloc (.cells #[.slice a1 n c1, .slice a2 m c2] 25)) = V at *
  go_wp2
  go_loopg [2] n (fun gk v wr => ∃ (k : Nat) (M1 : List Gp), k + gk = n ∧ v = .int .i64 (k : Int) ∧ Hid (BT w wr a1 n c1 a2 m c2 M1 M2))
  case atStart => exact ⟨0, M1, by omega, rfl, S0⟩
  case round =>
    clear S0 M1
    obtain ⟨k, M1, hkk, rfl, hS⟩ := hrel
    obtain ⟨_, i1, _⟩ := id hS.out.bx
    cases gk with
    | zero =>
      have ek : k = n := by omega
      have hkn : ¬ ((k : Int) < (n : Int)) := by omega
      go_wp2
      go_loopg [3] m (fun gk v wr => ∃ (k : Nat) (M2 : List Cf), k + gk = m ∧ v = .int .i64 (k : Int) ∧ Hid (BT w wr a1 n c1 a2 m c2 M1 M2))
      case atStart => exact ⟨0, M2, by omega, rfl, hS⟩
      case round =>
        clear hS hkn i1
        obtain ⟨k, M2, hkk, rfl, hS⟩ := hrel
        obtain ⟨_, i1, _⟩ := id hS.out.bx
        cases gk with
        | zero =>
          have ek : k = m := by omega
          have hkn : ¬ ((k : Int) < (m : Int)) := by omega
          go_wp2
          refine ⟨rfl, .tuple #[], ?_, rfl, hS.out.oo⟩
          simp [results, Try.results8, go_sem]
        | succ g =>
          have hki : (k : Int) < (m : Int) := by omega
          have hkM : k < M2.length := by rw [hS.out.l2]; omega
          have hwk : IntKind.i64.wrap ((k : Int) + 1) = (k : Int) + 1 := wrap64 _ (by omega)
          obtain ⟨gb, c', e5, -, hgb, hgl⟩ := own_block hS.out.o2 (by omega)
          injection e5 with e5 _ e6
          subst e5 e6
          have rd : ∀ j u, (Cf.cs M2[k])[j]? = some u → wr.cell? ⟨gb, k * 4 + j, none⟩ = some u := fun j u hu => by
            have hj : j < 4 := by have := (List.getElem?_eq_some_iff.1 hu).1; rwa [cf_len] at this
            exact own_reads hS.out.o2 rfl _ _ (by rw [cellsF_get cf_len M2 k j hkM hj]; exact hu)
          have y0 := rd 0 _ rfl
          have y1 := rd 1 _ rfl
          have y2 := rd 2 _ rfl
          have y3 := rd 3 _ rfl
          have z := hS.out.o2.frozenAt
          simp only [Nat.add_zero] at y0
          clear rd
          go_wp2
          go_roundg g
          case measure => omega
          case rel =>
          have ng : w.heap.size ≠ gb := fun e => by have := lt2 gb rfl; omega
          have nn : ∀ q, (Value.slice a1 n c1).ownBlock = some q → q ≠ gb := fun q hq e => ne q hq (by rw [e]; rfl)
          refine ⟨k + 1, M2.set k ⟨63, 64, 3600, 3600⟩, by omega, by push_cast; rfl, ?_⟩
          refine ⟨hS.out.l1, by rw [List.length_set]; exact hS.out.l2, own_only2 hS.out.o1 (onlyS4 (wr := wr) (g := gb)) (fun q hq e => nn q hq e), ?_, hS.out.bx.only (onlyS4 (wr := wr) (g := gb)) ng, ?_⟩
          · have := own_stored (Cf.cs ⟨63, 64, 3600, 3600⟩) wr _ (k * 4) hS.out.o2
            rw [setAll_row cf_len (by decide) M2 k hkM] at this
            exact this
          · exact hS.out.oo.trans ((onlyS4 (wr := wr) (g := gb)).mono (fun q e => .inr (by rw [e]; rfl)))
    | succ g =>
      have hki : (k : Int) < (n : Int) := by omega
      have hkM : k < M1.length := by rw [hS.out.l1]; omega
      have hwk : IntKind.i64.wrap ((k : Int) + 1) = (k : Int) + 1 := wrap64 _ (by omega)
      obtain ⟨gb, c', e5, -, hgb, hgl⟩ := own_block hS.out.o1 (by omega)
      injection e5 with e5 _ e6
      subst e5 e6
      have rd : ∀ j u, (Gp.cs M1[k])[j]? = some u → wr.cell? ⟨gb, k * 5 + j, none⟩ = some u := fun j u hu => by
        have hj : j < 5 := by have := (List.getElem?_eq_some_iff.1 hu).1; rwa [gp_len] at this
        exact own_reads hS.out.o1 rfl _ _ (by rw [cellsF_get gp_len M1 k j hkM hj]; exact hu)
      have y0 := rd 0 _ rfl
      have y1 := rd 1 _ rfl
      have y2 := rd 2 _ rfl
      have y3 := rd 3 _ rfl
      have y4 := rd 4 _ rfl
      have z := hS.out.o1.frozenAt
      simp only [Nat.add_zero] at y0
      clear rd
      go_wp2
      go_roundg g
      case measure => omega
      case rel =>
      have ng : w.heap.size ≠ gb := fun e => by have := lt1 gb rfl; omega
      have nn : ∀ q, (Value.slice a2 m c2).ownBlock = some q → q ≠ gb := fun q hq e => ne gb rfl (by rw [← e]; exact hq)
      refine ⟨k + 1, M1.set k ⟨⟨#[]⟩, 0, 9, 9, 9⟩, by omega, by push_cast; rfl, ?_⟩
      refine ⟨by rw [List.length_set]; exact hS.out.l1, hS.out.l2, ?_, own_only2 hS.out.o2 (onlyS5 (wr := wr) (g := gb)) (fun q hq e => nn q hq e), hS.out.bx.only (onlyS5 (wr := wr) (g := gb)) ng, ?_⟩
      · have := own_stored (Gp.cs ⟨⟨#[]⟩, 0, 9, 9, 9⟩) wr _ (k * 5) hS.out.o1
        rw [setAll_row gp_len (by decide) M1 k hkM] at this
        exact this
      · exact hS.out.oo.trans ((onlyS5 (wr := wr) (g := gb)).mono (fun q e => .inl (by rw [e]; rfl)))
end Go.Proofs.Ytoaokpmnjppfcaa
