import Derived.Test.YthjdflcakngpiaaDoorApB
namespace Go.Proofs.YthjdflcakngpiaaDoor
open Go.RowKit
set_option linter.unusedVariables false

/-- A list with two marks at its end, by its length without them. -/
def MkR (sz off : Nat) (u0 u1 : Value) (S : Nat → Prop) (w : World) (cs : List Value) (m : Nat) : Prop :=
  ∃ g c, cs = [.slice (some ⟨g, 0, none⟩) (m + 2) c] ∧ S g ∧ g < w.heap.size ∧ m ≤ 9000000000000 ∧ w.cell? ⟨g, m * sz + off, none⟩ = some u0 ∧ w.cell? ⟨g, (m + 1) * sz + off, none⟩ = some u1
theorem MkR.mv {sz off : Nat} {u0 u1 : Value} {S S' : Nat → Prop} {w w' : World} {cs : List Value} {m : Nat} (h : MkR sz off u0 u1 S w cs m) (hm : Mv S w S' w') : MkR sz off u0 u1 S' w' cs m := by
  obtain ⟨g, c, h0, h1, h2, h3, h4, h5⟩ := h
  exact ⟨g, c, h0, (hm.2 g h2 h1).2, Nat.lt_of_lt_of_le h2 hm.1, h3, (World.cell?_of_block (a := ⟨g, _, none⟩) (hm.2 g h2 h1).1).trans h4, (World.cell?_of_block (a := ⟨g, _, none⟩) (hm.2 g h2 h1).1).trans h5⟩
def MkE := MkR 5 1 (.int .i32 55) (.int .i32 56)
def MkG := MkR 1 0 (.string ⟨#[114, 111, 111, 109]⟩) (.string ⟨#[114, 111, 111, 109]⟩)
def MkN := MkR 4 0 (.string ⟨#[114, 111, 111, 109]⟩) (.string ⟨#[114, 111, 111, 109]⟩)
def MkL := MkR 6 2 (.int .i64 77) (.int .i64 77)
/-- The room behind the lists. -/
structure RmR (S : Nat → Prop) (w : World) (b : Nat) (vD vE vG vL vN : Value) (E G N Ls : List Nat) : Prop where
  has : Has w b #[vD, vE, vG, vL, vN]
  lenG : G.length = E.length
  lenN : N.length = E.length
  rE : Rows 1 9000000000000 MkE S w vE E
  rG : Rows 1 9000000000000 MkG S w vG G
  rN : Rows 1 9000000000000 MkN S w vN N
  rL : Rows 1 9000000000000 MkL S w vL Ls
  rD : ∃ m, MkR 15 0 (.int .i64 77) (.int .i64 77) S w [vD] m

set_option maxRecDepth 100000 in
set_option maxHeartbeats 4000000 in
theorem kept_any (S : Nat → Prop) (w : World) (b : Nat) (vD vE vG vL vN : Value) (E G N Ls : List Nat) (h : RmR S w b vD vE vG vL vN E G N Ls) :
    Calls Tryd.prog 11 #[.pointer (some ⟨b, 0, none⟩)] w fun e w' => e = .returned (.bool true) ∧ Below w.heap.size w w' := by
  obtain ⟨hH, lG, lN, rE, rG, rN, rL, mD, gD, cD, hD0, _, hD1, hD2, hD3, hD4⟩ := h
  have hDv : vD = .slice (some ⟨gD, 0, none⟩) (mD + 2) cD := by injection hD0
  subst hDv
  obtain ⟨aE, cE, rfl, lE, kE⟩ := Rows.any rE
  obtain ⟨aG, cG, rfl, _, kG⟩ := Rows.any rG
  obtain ⟨aN, cN, rfl, _, kN⟩ := Rows.any rN
  obtain ⟨aL, cL, rfl, lL, kL⟩ := Rows.any rL
  have lG' : Hid (G.length = E.length) := lG
  have lN' : Hid (N.length = E.length) := lN
  rw [lG, lN] at hH
  clear rE rG rN rL hD0 lG lN
  go_enter Tryd.func11, Tryd.ntmps11
  go_wp2
  go_loopw [3] (fun t wr => ∃ k q : Nat, k ≤ E.length ∧ t = .int .i64 (k : Int) ∧ Hid (wr = w.drewN q)) (fun t _ => E.length - (intOf t).toNat)
  case atStart => exact ⟨0, 0, by omega, rfl, rfl⟩
  case round =>
    obtain ⟨k, q, hk, rfl, hw⟩ := hrel
    have hb : Below w.heap.size w wr := by rw [hw.out]; exact below_drewN w q
    have K := hH.below hb
    obtain ⟨z0, z1, z2⟩ := id K
    by_cases hlt : k < E.length
    · obtain ⟨ge, oe, rfl, _, hge, PE⟩ := kE.resolve_left (by intro e; rw [e] at hlt; simp at hlt)
      obtain ⟨gg, og, rfl, _, hgg, PG⟩ := kG.resolve_left (by intro e; have := lG'.out; rw [e] at this; simp at this; rw [← this] at hlt; simp at hlt)
      obtain ⟨gn, on, rfl, _, hgn, PN⟩ := kN.resolve_left (by intro e; have := lN'.out; rw [e] at this; simp at this; rw [← this] at hlt; simp at hlt)
      obtain ⟨cs, _, ⟨g1, c1, rfl, _, hg1, b1, e1, e1'⟩, pE⟩ := PE k hlt
      obtain ⟨cs, _, ⟨g2, c2, rfl, _, hg2, b2, e2, e2'⟩, pG⟩ := PG k (by have := lG'.out; omega)
      obtain ⟨cs, _, ⟨g3, c3, rfl, _, hg3, b3, e3, e3'⟩, pN⟩ := PN k (by have := lN'.out; omega)
      have x1 := (hb.cell (p := ⟨ge, _, none⟩) hge).trans (pE 0 _ rfl)
      have x2 := (hb.cell (p := ⟨gg, _, none⟩) hgg).trans (pG 0 _ rfl)
      have x3 := (hb.cell (p := ⟨gn, _, none⟩) hgn).trans (pN 0 _ rfl)
      have y1 := (hb.cell (p := ⟨g1, _, none⟩) hg1).trans e1
      have y1' := (hb.cell (p := ⟨g1, _, none⟩) hg1).trans e1'
      have y2 := (hb.cell (p := ⟨g2, _, none⟩) hg2).trans e2
      have y2' := (hb.cell (p := ⟨g2, _, none⟩) hg2).trans e2'
      have y3 := (hb.cell (p := ⟨g3, _, none⟩) hg3).trans e3
      have y3' := (hb.cell (p := ⟨g3, _, none⟩) hg3).trans e3'
      simp only [Nat.add_zero, Nat.mul_one] at x1 x2 x3 y2 y2' y3 y3'
      have t1 : (k : Int) < (E.length : Int) := by omega
      have t0 : (0 : Int) ≤ (k : Int) := by omega
      have t2 : k + 1 ≤ E.length := hlt
      clear PE PG PN pE pG pN kE kG kN kL e1 e1' e2 e2' e3 e3'
      generalize E[k] = m1 at *
      generalize (G[k]'(by have := lG'.out; omega)) = m2 at *
      generalize (N[k]'(by have := lN'.out; omega)) = m3 at *
      go_wp2
      go_roundw
      case rel => exact ⟨k + 1, q, by omega, by go_num, hw⟩
      case measure => simp [intOf]; omega
    · have t1 : ¬ (k : Int) < (E.length : Int) := by omega
      clear kE kG kN
      go_wp2
      obtain ⟨V, hV⟩ : ∃ V, V = wr := ⟨_, rfl⟩
      subst hV
      go_loopw [7] (fun t wr => ∃ k q : Nat, k ≤ Ls.length ∧ t = .int .i64 (k : Int) ∧ Hid (wr = V.drewN q)) (fun t _ => Ls.length - (intOf t).toNat)
      case atStart => exact ⟨0, 0, by omega, rfl, rfl⟩
      case round =>
        obtain ⟨n, q2, hn, rfl, hw2⟩ := hrel
        have hb2 : Below V.heap.size V wr := by rw [hw2.out]; exact below_drewN V q2
        have hb3 : Below w.heap.size w wr := hb.trans (hb2.mono hb.size)
        have K2 := K.below hb2
        obtain ⟨z3, z4, z5⟩ := id K2
        by_cases hlt2 : n < Ls.length
        · obtain ⟨gl, ol, rfl, _, hgl, PL⟩ := kL.resolve_left (by intro e; rw [e] at hlt2; simp at hlt2)
          obtain ⟨cs, _, ⟨g4, c4, rfl, _, hg4, b4, e4, e4'⟩, pL⟩ := PL n hlt2
          have x4 := (hb3.cell (p := ⟨gl, _, none⟩) hgl).trans (pL 0 _ rfl)
          have y4 := (hb3.cell (p := ⟨g4, _, none⟩) hg4).trans e4
          have y4' := (hb3.cell (p := ⟨g4, _, none⟩) hg4).trans e4'
          simp only [Nat.add_zero, Nat.mul_one] at x4
          have s1 : (n : Int) < (Ls.length : Int) := by omega
          have s0 : (0 : Int) ≤ (n : Int) := by omega
          have s2 : n + 1 ≤ Ls.length := hlt2
          clear PL pL kL e4 e4' z0 z1 z2
          generalize Ls[n] = m4 at *
          go_wp2
          go_roundw
          case rel => exact ⟨n + 1, q2, by omega, by go_num, hw2⟩
          case measure => simp [intOf]; omega
        · have s1 : ¬ (n : Int) < (Ls.length : Int) := by omega
          have y5 := (hb3.cell (p := ⟨gD, _, none⟩) hD1).trans hD3
          have y5' := (hb3.cell (p := ⟨gD, _, none⟩) hD1).trans hD4
          simp only [Nat.add_zero] at y5 y5'
          clear kL z0 z1 z2
          go_wp2
          (go_ret; exact ⟨rfl, hb3⟩)
end Go.Proofs.YthjdflcakngpiaaDoor
