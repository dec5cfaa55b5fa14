import Derived.Test.YtbonmajnkbggcaaApQ
import Derived.Deep.RegionHeld3
namespace Go.Proofs.Ytbonmajnkbggcaa
open Go.RowKit
set_option linter.unusedVariables false


abbrev ops4 : Array Oper := #[{ dst := some 55, op := Op.fieldAddr 25 (Operand.tmp 4) 0, type := 0, pos := "headssafe.go:260", after := #[], guard := none }, { dst := some 56, op := Op.load 22 (Operand.tmp 55), type := 22, pos := "headssafe.go:260", after := #[{ on := 0, ground := Ground.data }], guard := none }, { dst := some 57, op := Op.call { callee := Callee.builtin Builtin.append, args := #[Operand.const (Value.slice none 0 0), Operand.tmp 56], argTypes := #[22, 22] }, type := 22, pos := "headssafe.go:260", after := #[{ on := 1, ground := Ground.data }], guard := none }, { dst := some 58, op := Op.fieldAddr 25 (Operand.tmp 5) 0, type := 0, pos := "headssafe.go:260", after := #[], guard := none }, { dst := some 59, op := Op.load 22 (Operand.tmp 58), type := 22, pos := "headssafe.go:260", after := #[{ on := 3, ground := Ground.data }], guard := none }, { dst := some 60, op := Op.call { callee := Callee.builtin Builtin.append, args := #[Operand.tmp 57, Operand.tmp 59], argTypes := #[22, 22] }, type := 22, pos := "headssafe.go:260", after := #[{ on := 2, ground := Ground.data }, { on := 4, ground := Ground.data }, { on := 2, ground := Ground.chain }], guard := none }, { dst := some 61, op := Op.fieldAddr 25 (Operand.tmp 4) 1, type := 0, pos := "headssafe.go:260", after := #[], guard := none }, { dst := some 62, op := Op.load 23 (Operand.tmp 61), type := 23, pos := "headssafe.go:260", after := #[{ on := 6, ground := Ground.data }], guard := none }, { dst := some 63, op := Op.call { callee := Callee.builtin Builtin.append, args := #[Operand.const (Value.slice none 0 0), Operand.tmp 62], argTypes := #[23, 23] }, type := 23, pos := "headssafe.go:260", after := #[{ on := 7, ground := Ground.data }, { on := 5, ground := Ground.chain }], guard := none }, { dst := some 64, op := Op.build 25 #[(0, Operand.tmp 60), (1, Operand.tmp 63)], type := 25, pos := "headssafe.go:260", after := #[{ on := 5, ground := Ground.data }, { on := 8, ground := Ground.data }], guard := none }, { dst := some 11, op := Op.alloc 25, type := 0, pos := "headssafe.go:260", after := #[], guard := none }, { dst := none, op := Op.store 25 (Operand.tmp 11) (Operand.tmp 64), type := 0, pos := "headssafe.go:260", after := #[{ on := 10, ground := Ground.data }, { on := 9, ground := Ground.data }, { on := 8, ground := Ground.chain }, { on := 0, ground := Ground.phase }, { on := 1, ground := Ground.phase }, { on := 2, ground := Ground.phase }, { on := 3, ground := Ground.phase }, { on := 4, ground := Ground.phase }, { on := 5, ground := Ground.phase }, { on := 6, ground := Ground.phase }, { on := 7, ground := Ground.phase }, { on := 8, ground := Ground.phase }, { on := 9, ground := Ground.phase }, { on := 10, ground := Ground.phase }], guard := none }]
abbrev fr4 (H : Nat) (t0 t1 t2 t3 t6 t7 t8 t9 t10 s1 s2 s3 s4 u24 u25 u26 u27 u28 u29 u30 u31 u32 u33 u34 u35 u36 u37 u38 u39 u40 u41 u42 u43 u44 u45 u46 u47 u48 u49 u50 u51 u52 u53 u54 : Value) (x57 x60 x63 x64 x11 : Value) : Act := { tmps := #[t0, t1, t2, t3, .pointer (some ⟨H, 0, none⟩), .pointer (some ⟨H + 1, 0, none⟩), t6, t7, t8, t9, t10, x11, undef, undef, undef, undef, undef, undef, undef, undef, undef, undef, undef, undef, u24, u25, u26, u27, u28, u29, u30, u31, u32, u33, u34, u35, u36, u37, u38, u39, u40, u41, u42, u43, u44, u45, u46, u47, u48, u49, u50, u51, u52, u53, u54, .pointer (some ⟨H, 0, none⟩), s1, x57, .pointer (some ⟨H + 1, 0, none⟩), s3, x60, .pointer (some ⟨H, 1, none⟩), s2, x63, x64, undef, undef, undef, undef, undef, undef, undef, undef, undef, undef, undef, undef, undef, undef, undef, undef, undef, undef, undef, undef, undef, undef, undef, undef, undef, undef, undef, undef, undef, undef, undef, undef, undef, undef, undef, undef, undef, undef, undef, undef, undef, undef, undef, undef, undef, undef, undef, undef, undef, undef, undef, undef, undef, undef, undef, undef, undef, undef, undef, undef, undef, undef, undef, undef, undef, undef, undef, undef, undef, undef, undef, undef, undef, undef, undef, undef, undef, undef, undef, undef, undef, undef, undef, undef, undef, undef, undef, undef, undef, undef, undef, undef, undef, undef, undef, undef, undef, undef, undef, undef, undef, undef, undef, undef, undef, undef, undef, undef, undef, undef, undef, undef, undef, undef, undef, undef, undef, undef, undef, undef, undef, undef, undef, undef, undef, undef, undef, undef, undef, undef, undef, undef, undef, undef, undef, undef, undef, undef, undef, undef, undef, undef, undef, undef, undef, undef, undef], defers := [] }
structure RI4 (S T : List Gp) (Cs : List Cf) (w0 : World) (H : Nat) (s1 s2 s3 s4 : Value) (b2 b5 b8 b9 b10 b11 : Bool) (x57 x60 x63 x64 x11 : Value) (own : Nat → Nat) (w : World) : Prop where
  hb : Below w0.heap.size w0 w
  h1 : Has w H #[s1, s2]
  h2 : Has w (H + 1) #[s3, s4]
  ob : ∀ q, q < w0.heap.size → own q = 99
  g1 : b2 = true → b5 = false → Row own w w0.heap.size 58 5 x57 S.length (cellsF Gp.cs S) 0
  g2 : b5 = true → Row own w w0.heap.size 58 5 x60 (S.length + T.length) (cellsF Gp.cs S ++ cellsF Gp.cs T) 0
  c1 : b8 = true → Row own w w0.heap.size 49 4 x63 Cs.length (cellsF Cf.cs Cs) 1
  bb : b10 = true → ∃ p, x11 = .pointer (some ⟨p, 0, none⟩) ∧ w0.heap.size ≤ p ∧ p < w.heap.size ∧ own p = 2 ∧ (b11 = false → Has w p #[.slice none 0 0, .slice none 0 0]) ∧ (b11 = true → Has w p #[x60, x63])
  d5 : b5 = true → b2 = true
  d8 : b8 = true → b5 = true
  d9 : b9 = true → b8 = true ∧ x64 = .agg #[x60, x63]
  d11 : b11 = true → b9 = true ∧ b10 = true
abbrev Inv4 (S T : List Gp) (Cs : List Cf) (w0 : World) (H : Nat) (t0 t1 t2 t3 t6 t7 t8 t9 t10 s1 s2 s3 s4 u24 u25 u26 u27 u28 u29 u30 u31 u32 u33 u34 u35 u36 u37 u38 u39 u40 u41 u42 u43 u44 u45 u46 u47 u48 u49 u50 u51 u52 u53 u54 : Value) (l : Array Bool) (a : Act) (w : World) : Prop :=
  ∃ (b2 b5 b8 b9 b10 b11 : Bool) (x57 x60 x63 x64 x11 : Value) (own : Nat → Nat), l = #[true, true, b2, true, true, b5, true, true, b8, b9, b10, b11] ∧ a = fr4 H t0 t1 t2 t3 t6 t7 t8 t9 t10 s1 s2 s3 s4 u24 u25 u26 u27 u28 u29 u30 u31 u32 u33 u34 u35 u36 u37 u38 u39 u40 u41 u42 u43 u44 u45 u46 u47 u48 u49 u50 u51 u52 u53 u54 x57 x60 x63 x64 x11 ∧ RI4 S T Cs w0 H s1 s2 s3 s4 b2 b5 b8 b9 b10 b11 x57 x60 x63 x64 x11 own w

set_option maxRecDepth 100000 in
set_option maxHeartbeats 4000000 in
theorem s4_2 (S T : List Gp) (Cs : List Cf) (w0 : World) (H : Nat) (t0 t1 t2 t3 t6 t7 t8 t9 t10 s1 s2 s3 s4 u24 u25 u26 u27 u28 u29 u30 u31 u32 u33 u34 u35 u36 u37 u38 u39 u40 u41 u42 u43 u44 u45 u46 u47 u48 u49 u50 u51 u52 u53 u54 : Value) (hH : H + 2 ≤ w0.heap.size) (lS : S.length ≤ 64) (lT : T.length ≤ 64) (lC : Cs.length ≤ 4398046511000) (va vt vc : Option Addr) (ca ct cc : Nat) (e1 : s1 = .slice va S.length ca) (e3 : s3 = .slice vt T.length ct) (e2 : s2 = .slice vc Cs.length cc)
    (hs1 : ∀ X, Below w0.heap.size w0 X → (∀ ad, va = some ad → ∀ j u, (cellsF Gp.cs S)[j]? = some u → X.cell? (ad.add j) = some u) ∧ (va = none → S.length = 0))
    (hs3 : ∀ X, Below w0.heap.size w0 X → (∀ ad, vt = some ad → ∀ j u, (cellsF Gp.cs T)[j]? = some u → X.cell? (ad.add j) = some u) ∧ (vt = none → T.length = 0))
    (hs2 : ∀ X, Below w0.heap.size w0 X → (∀ ad, vc = some ad → ∀ j u, (cellsF Cf.cs Cs)[j]? = some u → X.cell? (ad.add j) = some u) ∧ (vc = none → Cs.length = 0))
    (Q' : Exit → Act → World → Prop) (l : Array Bool) (a : Act) (w : World) (hI : Inv4 S T Cs w0 H t0 t1 t2 t3 t6 t7 t8 t9 t10 s1 s2 s3 s4 u24 u25 u26 u27 u28 u29 u30 u31 u32 u33 u34 u35 u36 u37 u38 u39 u40 u41 u42 u43 u44 u45 u46 u47 u48 u49 u50 u51 u52 u53 u54 l a w) (h0 : l.getD 2 true = false) (hdep : ∀ e ∈ ({ dst := some 57, op := Op.call { callee := Callee.builtin Builtin.append, args := #[Operand.const (Value.slice none 0 0), Operand.tmp 56], argTypes := #[22, 22] }, type := 22, pos := "headssafe.go:260", after := #[{ on := 1, ground := Ground.data }], guard := none } : Oper).after, Region.binds .any e = true → l.getD e.on false = true) (K : Act → World → Prop) (hK : ∀ a' w', Inv4 S T Cs w0 H t0 t1 t2 t3 t6 t7 t8 t9 t10 s1 s2 s3 s4 u24 u25 u26 u27 u28 u29 u30 u31 u32 u33 u34 u35 u36 u37 u38 u39 u40 u41 u42 u43 u44 u45 u46 u47 u48 u49 u50 u51 u52 u53 u54 (l.setIfInBounds 2 true) a' w' → K a' w') :
    if Region.wanted ({ dst := some 57, op := Op.call { callee := Callee.builtin Builtin.append, args := #[Operand.const (Value.slice none 0 0), Operand.tmp 56], argTypes := #[22, 22] }, type := 22, pos := "headssafe.go:260", after := #[{ on := 1, ground := Ground.data }], guard := none } : Oper) (yielded ops4 a.tmps) = true then Oper.wp Try.prog ({ dst := some 57, op := Op.call { callee := Callee.builtin Builtin.append, args := #[Operand.const (Value.slice none 0 0), Operand.tmp 56], argTypes := #[22, 22] }, type := 22, pos := "headssafe.go:260", after := #[{ on := 1, ground := Ground.data }], guard := none } : Oper) a w K Q' else K (a.put ({ dst := some 57, op := Op.call { callee := Callee.builtin Builtin.append, args := #[Operand.const (Value.slice none 0 0), Operand.tmp 56], argTypes := #[22, 22] }, type := 22, pos := "headssafe.go:260", after := #[{ on := 1, ground := Ground.data }], guard := none } : Oper).dst undef) w := by
  obtain ⟨b2, b5, b8, b9, b10, b11, x57, x60, x63, x64, x11, own, rfl, rfl, R⟩ := hI
  have ee : b2 = false := h0
  subst ee
  clear h0 hdep
  have q5 : b5 = false := by
    cases hq : b5 with
    | false => rfl
    | true => exact absurd (R.d5 hq) (by decide)
  subst q5
  have q8 : b8 = false := by
    cases hq : b8 with
    | false => rfl
    | true => exact absurd (R.d8 hq) (by decide)
  subst q8
  have q9 : b9 = false := by
    cases hq : b9 with
    | false => rfl
    | true => exact absurd ((R.d9 hq).1) (by decide)
  subst q9
  have q11 : b11 = false := by
    cases hq : b11 with
    | false => rfl
    | true => exact absurd ((R.d11 hq).1) (by decide)
  subst q11
  subst e1
  obtain ⟨ti, hi, hi0, hi1, hi2⟩ := info_parts info58a
  refine step_copy rfl _ _ 22 rfl 58 ti _ 5 48 Try.underlying22 hi hi0 hi1 hi2 rfl (by decide) va S.length ca (cellsF Gp.cs S) rfl rfl (cellsF_len gp_len _) (hs1 _ R.hb).1 (cellsF_one gp_one _) (hs1 _ R.hb).2 (by unfold maxLen; omega) (by omega) ?_
  intro a1 c1 w1 o1 hb1
  have O : Only (fun q => own q = 0) w w1 := Only.of_below hb1
  refine hK _ _ ?_
  exact ⟨_, _, _, _, _, _, _, _, _, _, _, updO own w.heap.size 0, rfl, rfl, ⟨bel_only R.hb O (Nat.le_refl _) (fun q hq h => by have := R.ob q (by omega); omega), R.h1.only O (by intro h; have := R.ob H (by omega); omega), R.h2.only O (by intro h; have := R.ob (H + 1) (by omega); omega), fun q hq => (updO_old (Nat.lt_of_lt_of_le hq R.hb.size)).trans (R.ob q hq), fun _ _ => ⟨⟨_, _, rfl⟩, own_base o1 R.hb.size, fun q hq => updO_new (own_lt o1 q hq).1⟩, fun h => (by cases h), fun h => (by cases h), fun h => (R.bb h).imp fun p hp => ⟨hp.1, hp.2.1, Nat.lt_of_lt_of_le hp.2.2.1 (O).size, (updO_old hp.2.2.1).trans hp.2.2.2.1, fun h => (hp.2.2.2.2.1 h).only O (by intro h; have := hp.2.2.2.1; omega), fun h => (by cases h)⟩, fun h => (by cases h), fun h => (by cases h), fun h => (by cases h), fun h => (by cases h)⟩⟩

set_option maxRecDepth 100000 in
set_option maxHeartbeats 4000000 in
theorem s4_5 (S T : List Gp) (Cs : List Cf) (w0 : World) (H : Nat) (t0 t1 t2 t3 t6 t7 t8 t9 t10 s1 s2 s3 s4 u24 u25 u26 u27 u28 u29 u30 u31 u32 u33 u34 u35 u36 u37 u38 u39 u40 u41 u42 u43 u44 u45 u46 u47 u48 u49 u50 u51 u52 u53 u54 : Value) (hH : H + 2 ≤ w0.heap.size) (lS : S.length ≤ 64) (lT : T.length ≤ 64) (lC : Cs.length ≤ 4398046511000) (va vt vc : Option Addr) (ca ct cc : Nat) (e1 : s1 = .slice va S.length ca) (e3 : s3 = .slice vt T.length ct) (e2 : s2 = .slice vc Cs.length cc)
    (hs1 : ∀ X, Below w0.heap.size w0 X → (∀ ad, va = some ad → ∀ j u, (cellsF Gp.cs S)[j]? = some u → X.cell? (ad.add j) = some u) ∧ (va = none → S.length = 0))
    (hs3 : ∀ X, Below w0.heap.size w0 X → (∀ ad, vt = some ad → ∀ j u, (cellsF Gp.cs T)[j]? = some u → X.cell? (ad.add j) = some u) ∧ (vt = none → T.length = 0))
    (hs2 : ∀ X, Below w0.heap.size w0 X → (∀ ad, vc = some ad → ∀ j u, (cellsF Cf.cs Cs)[j]? = some u → X.cell? (ad.add j) = some u) ∧ (vc = none → Cs.length = 0))
    (Q' : Exit → Act → World → Prop) (l : Array Bool) (a : Act) (w : World) (hI : Inv4 S T Cs w0 H t0 t1 t2 t3 t6 t7 t8 t9 t10 s1 s2 s3 s4 u24 u25 u26 u27 u28 u29 u30 u31 u32 u33 u34 u35 u36 u37 u38 u39 u40 u41 u42 u43 u44 u45 u46 u47 u48 u49 u50 u51 u52 u53 u54 l a w) (h0 : l.getD 5 true = false) (hdep : ∀ e ∈ ({ dst := some 60, op := Op.call { callee := Callee.builtin Builtin.append, args := #[Operand.tmp 57, Operand.tmp 59], argTypes := #[22, 22] }, type := 22, pos := "headssafe.go:260", after := #[{ on := 2, ground := Ground.data }, { on := 4, ground := Ground.data }, { on := 2, ground := Ground.chain }], guard := none } : Oper).after, Region.binds .any e = true → l.getD e.on false = true) (K : Act → World → Prop) (hK : ∀ a' w', Inv4 S T Cs w0 H t0 t1 t2 t3 t6 t7 t8 t9 t10 s1 s2 s3 s4 u24 u25 u26 u27 u28 u29 u30 u31 u32 u33 u34 u35 u36 u37 u38 u39 u40 u41 u42 u43 u44 u45 u46 u47 u48 u49 u50 u51 u52 u53 u54 (l.setIfInBounds 5 true) a' w' → K a' w') :
    if Region.wanted ({ dst := some 60, op := Op.call { callee := Callee.builtin Builtin.append, args := #[Operand.tmp 57, Operand.tmp 59], argTypes := #[22, 22] }, type := 22, pos := "headssafe.go:260", after := #[{ on := 2, ground := Ground.data }, { on := 4, ground := Ground.data }, { on := 2, ground := Ground.chain }], guard := none } : Oper) (yielded ops4 a.tmps) = true then Oper.wp Try.prog ({ dst := some 60, op := Op.call { callee := Callee.builtin Builtin.append, args := #[Operand.tmp 57, Operand.tmp 59], argTypes := #[22, 22] }, type := 22, pos := "headssafe.go:260", after := #[{ on := 2, ground := Ground.data }, { on := 4, ground := Ground.data }, { on := 2, ground := Ground.chain }], guard := none } : Oper) a w K Q' else K (a.put ({ dst := some 60, op := Op.call { callee := Callee.builtin Builtin.append, args := #[Operand.tmp 57, Operand.tmp 59], argTypes := #[22, 22] }, type := 22, pos := "headssafe.go:260", after := #[{ on := 2, ground := Ground.data }, { on := 4, ground := Ground.data }, { on := 2, ground := Ground.chain }], guard := none } : Oper).dst undef) w := by
  obtain ⟨b2, b5, b8, b9, b10, b11, x57, x60, x63, x64, x11, own, rfl, rfl, R⟩ := hI
  have ee : b5 = false := h0
  subst ee
  have e2' : b2 = true := hdep ⟨2, Ground.data⟩ (by simp) rfl
  subst e2'
  clear h0 hdep
  have q8 : b8 = false := by
    cases hq : b8 with
    | false => rfl
    | true => exact absurd (R.d8 hq) (by decide)
  subst q8
  have q9 : b9 = false := by
    cases hq : b9 with
    | false => rfl
    | true => exact absurd ((R.d9 hq).1) (by decide)
  subst q9
  have q11 : b11 = false := by
    cases hq : b11 with
    | false => rfl
    | true => exact absurd ((R.d11 hq).1) (by decide)
  subst q11
  subst e3
  have g := R.g1 rfl rfl
  obtain ⟨b, d, ev⟩ := g.sl
  obtain ⟨ti, hi, hi0, hi1, hi2⟩ := info_parts info58a
  refine step_more rfl _ _ 22 rfl w0.heap.size 58 ti _ 5 48 Try.underlying22 hi hi0 hi1 hi2 rfl (by decide) x57 b d S.length (cellsF Gp.cs S) rfl ev (row_cap (ev ▸ g.ow)) g.ow vt T.length ct (cellsF Gp.cs T) rfl (cellsF_len gp_len _) (hs3 _ R.hb).1 (cellsF_one gp_one _) (hs3 _ R.hb).2 (by unfold maxLen; omega) (by omega) R.hb.size ?_
  intro v' w1 sl o1 O0 hat
  have O : Only (fun q => own q = 0) w w1 := O0.mono (fun q hq => g.wh q hq)
  have G2 : Row (updO own w.heap.size 0) w1 w0.heap.size 58 5 v' (S.length + T.length) (cellsF Gp.cs S ++ cellsF Gp.cs T) 0 := by
    refine ⟨sl, o1, fun q hq => ?_⟩
    rcases hat q hq with h | h
    · rw [updO_old (own_lt g.ow q h).2]; exact g.wh q h
    · exact updO_new h
  refine hK _ _ ?_
  exact ⟨_, _, _, _, _, _, _, _, _, _, _, updO own w.heap.size 0, rfl, rfl, ⟨bel_only R.hb O (Nat.le_refl _) (fun q hq h => by have := R.ob q (by omega); omega), R.h1.only O (by intro h; have := R.ob H (by omega); omega), R.h2.only O (by intro h; have := R.ob (H + 1) (by omega); omega), fun q hq => (updO_old (Nat.lt_of_lt_of_le hq R.hb.size)).trans (R.ob q hq), fun _ h => (by cases h), fun _ => G2, fun h => (by cases h), fun h => (R.bb h).imp fun p hp => ⟨hp.1, hp.2.1, Nat.lt_of_lt_of_le hp.2.2.1 (O).size, (updO_old hp.2.2.1).trans hp.2.2.2.1, fun h => (hp.2.2.2.2.1 h).only O (by intro h; have := hp.2.2.2.1; omega), fun h => (by cases h)⟩, fun _ => rfl, fun h => (by cases h), fun h => (by cases h), fun h => (by cases h)⟩⟩

set_option maxRecDepth 100000 in
set_option maxHeartbeats 4000000 in
theorem s4_8 (S T : List Gp) (Cs : List Cf) (w0 : World) (H : Nat) (t0 t1 t2 t3 t6 t7 t8 t9 t10 s1 s2 s3 s4 u24 u25 u26 u27 u28 u29 u30 u31 u32 u33 u34 u35 u36 u37 u38 u39 u40 u41 u42 u43 u44 u45 u46 u47 u48 u49 u50 u51 u52 u53 u54 : Value) (hH : H + 2 ≤ w0.heap.size) (lS : S.length ≤ 64) (lT : T.length ≤ 64) (lC : Cs.length ≤ 4398046511000) (va vt vc : Option Addr) (ca ct cc : Nat) (e1 : s1 = .slice va S.length ca) (e3 : s3 = .slice vt T.length ct) (e2 : s2 = .slice vc Cs.length cc)
    (hs1 : ∀ X, Below w0.heap.size w0 X → (∀ ad, va = some ad → ∀ j u, (cellsF Gp.cs S)[j]? = some u → X.cell? (ad.add j) = some u) ∧ (va = none → S.length = 0))
    (hs3 : ∀ X, Below w0.heap.size w0 X → (∀ ad, vt = some ad → ∀ j u, (cellsF Gp.cs T)[j]? = some u → X.cell? (ad.add j) = some u) ∧ (vt = none → T.length = 0))
    (hs2 : ∀ X, Below w0.heap.size w0 X → (∀ ad, vc = some ad → ∀ j u, (cellsF Cf.cs Cs)[j]? = some u → X.cell? (ad.add j) = some u) ∧ (vc = none → Cs.length = 0))
    (Q' : Exit → Act → World → Prop) (l : Array Bool) (a : Act) (w : World) (hI : Inv4 S T Cs w0 H t0 t1 t2 t3 t6 t7 t8 t9 t10 s1 s2 s3 s4 u24 u25 u26 u27 u28 u29 u30 u31 u32 u33 u34 u35 u36 u37 u38 u39 u40 u41 u42 u43 u44 u45 u46 u47 u48 u49 u50 u51 u52 u53 u54 l a w) (h0 : l.getD 8 true = false) (hdep : ∀ e ∈ ({ dst := some 63, op := Op.call { callee := Callee.builtin Builtin.append, args := #[Operand.const (Value.slice none 0 0), Operand.tmp 62], argTypes := #[23, 23] }, type := 23, pos := "headssafe.go:260", after := #[{ on := 7, ground := Ground.data }, { on := 5, ground := Ground.chain }], guard := none } : Oper).after, Region.binds .any e = true → l.getD e.on false = true) (K : Act → World → Prop) (hK : ∀ a' w', Inv4 S T Cs w0 H t0 t1 t2 t3 t6 t7 t8 t9 t10 s1 s2 s3 s4 u24 u25 u26 u27 u28 u29 u30 u31 u32 u33 u34 u35 u36 u37 u38 u39 u40 u41 u42 u43 u44 u45 u46 u47 u48 u49 u50 u51 u52 u53 u54 (l.setIfInBounds 8 true) a' w' → K a' w') :
    if Region.wanted ({ dst := some 63, op := Op.call { callee := Callee.builtin Builtin.append, args := #[Operand.const (Value.slice none 0 0), Operand.tmp 62], argTypes := #[23, 23] }, type := 23, pos := "headssafe.go:260", after := #[{ on := 7, ground := Ground.data }, { on := 5, ground := Ground.chain }], guard := none } : Oper) (yielded ops4 a.tmps) = true then Oper.wp Try.prog ({ dst := some 63, op := Op.call { callee := Callee.builtin Builtin.append, args := #[Operand.const (Value.slice none 0 0), Operand.tmp 62], argTypes := #[23, 23] }, type := 23, pos := "headssafe.go:260", after := #[{ on := 7, ground := Ground.data }, { on := 5, ground := Ground.chain }], guard := none } : Oper) a w K Q' else K (a.put ({ dst := some 63, op := Op.call { callee := Callee.builtin Builtin.append, args := #[Operand.const (Value.slice none 0 0), Operand.tmp 62], argTypes := #[23, 23] }, type := 23, pos := "headssafe.go:260", after := #[{ on := 7, ground := Ground.data }, { on := 5, ground := Ground.chain }], guard := none } : Oper).dst undef) w := by
  obtain ⟨b2, b5, b8, b9, b10, b11, x57, x60, x63, x64, x11, own, rfl, rfl, R⟩ := hI
  have ee : b8 = false := h0
  subst ee
  have e5' : b5 = true := hdep ⟨5, Ground.chain⟩ (by simp) rfl
  subst e5'
  clear h0 hdep
  have q9 : b9 = false := by
    cases hq : b9 with
    | false => rfl
    | true => exact absurd ((R.d9 hq).1) (by decide)
  subst q9
  have q11 : b11 = false := by
    cases hq : b11 with
    | false => rfl
    | true => exact absurd ((R.d11 hq).1) (by decide)
  subst q11
  subst e2
  obtain ⟨ti, hi, hi0, hi1, hi2⟩ := info_parts info49a
  refine step_copy rfl _ _ 23 rfl 49 ti _ 4 32 Try.underlying23 hi hi0 hi1 hi2 rfl (by decide) vc Cs.length cc (cellsF Cf.cs Cs) rfl rfl (cellsF_len cf_len _) (hs2 _ R.hb).1 (cellsF_one cf_one _) (hs2 _ R.hb).2 (by unfold maxLen; omega) (by omega) ?_
  intro a1 c1 w1 o1 hb1
  have O : Only (fun q => own q = 1) w w1 := Only.of_below hb1
  refine hK _ _ ?_
  exact ⟨_, _, _, _, _, _, _, _, _, _, _, updO own w.heap.size 1, rfl, rfl, ⟨bel_only R.hb O (Nat.le_refl _) (fun q hq h => by have := R.ob q (by omega); omega), R.h1.only O (by intro h; have := R.ob H (by omega); omega), R.h2.only O (by intro h; have := R.ob (H + 1) (by omega); omega), fun q hq => (updO_old (Nat.lt_of_lt_of_le hq R.hb.size)).trans (R.ob q hq), fun _ h => (by cases h), fun h => (R.g2 h).move O (fun q hq => by omega) (fun q hq => updO_old hq), fun _ => ⟨⟨_, _, rfl⟩, own_base o1 R.hb.size, fun q hq => updO_new (own_lt o1 q hq).1⟩, fun h => (R.bb h).imp fun p hp => ⟨hp.1, hp.2.1, Nat.lt_of_lt_of_le hp.2.2.1 (O).size, (updO_old hp.2.2.1).trans hp.2.2.2.1, fun h => (hp.2.2.2.2.1 h).only O (by intro h; have := hp.2.2.2.1; omega), fun h => (by cases h)⟩, R.d5, fun _ => rfl, fun h => (by cases h), fun h => (by cases h)⟩⟩

set_option maxRecDepth 100000 in
set_option maxHeartbeats 4000000 in
theorem s4_9 (S T : List Gp) (Cs : List Cf) (w0 : World) (H : Nat) (t0 t1 t2 t3 t6 t7 t8 t9 t10 s1 s2 s3 s4 u24 u25 u26 u27 u28 u29 u30 u31 u32 u33 u34 u35 u36 u37 u38 u39 u40 u41 u42 u43 u44 u45 u46 u47 u48 u49 u50 u51 u52 u53 u54 : Value) (hH : H + 2 ≤ w0.heap.size) (lS : S.length ≤ 64) (lT : T.length ≤ 64) (lC : Cs.length ≤ 4398046511000) (va vt vc : Option Addr) (ca ct cc : Nat) (e1 : s1 = .slice va S.length ca) (e3 : s3 = .slice vt T.length ct) (e2 : s2 = .slice vc Cs.length cc)
    (hs1 : ∀ X, Below w0.heap.size w0 X → (∀ ad, va = some ad → ∀ j u, (cellsF Gp.cs S)[j]? = some u → X.cell? (ad.add j) = some u) ∧ (va = none → S.length = 0))
    (hs3 : ∀ X, Below w0.heap.size w0 X → (∀ ad, vt = some ad → ∀ j u, (cellsF Gp.cs T)[j]? = some u → X.cell? (ad.add j) = some u) ∧ (vt = none → T.length = 0))
    (hs2 : ∀ X, Below w0.heap.size w0 X → (∀ ad, vc = some ad → ∀ j u, (cellsF Cf.cs Cs)[j]? = some u → X.cell? (ad.add j) = some u) ∧ (vc = none → Cs.length = 0))
    (Q' : Exit → Act → World → Prop) (l : Array Bool) (a : Act) (w : World) (hI : Inv4 S T Cs w0 H t0 t1 t2 t3 t6 t7 t8 t9 t10 s1 s2 s3 s4 u24 u25 u26 u27 u28 u29 u30 u31 u32 u33 u34 u35 u36 u37 u38 u39 u40 u41 u42 u43 u44 u45 u46 u47 u48 u49 u50 u51 u52 u53 u54 l a w) (h0 : l.getD 9 true = false) (hdep : ∀ e ∈ ({ dst := some 64, op := Op.build 25 #[(0, Operand.tmp 60), (1, Operand.tmp 63)], type := 25, pos := "headssafe.go:260", after := #[{ on := 5, ground := Ground.data }, { on := 8, ground := Ground.data }], guard := none } : Oper).after, Region.binds .any e = true → l.getD e.on false = true) (K : Act → World → Prop) (hK : ∀ a' w', Inv4 S T Cs w0 H t0 t1 t2 t3 t6 t7 t8 t9 t10 s1 s2 s3 s4 u24 u25 u26 u27 u28 u29 u30 u31 u32 u33 u34 u35 u36 u37 u38 u39 u40 u41 u42 u43 u44 u45 u46 u47 u48 u49 u50 u51 u52 u53 u54 (l.setIfInBounds 9 true) a' w' → K a' w') :
    if Region.wanted ({ dst := some 64, op := Op.build 25 #[(0, Operand.tmp 60), (1, Operand.tmp 63)], type := 25, pos := "headssafe.go:260", after := #[{ on := 5, ground := Ground.data }, { on := 8, ground := Ground.data }], guard := none } : Oper) (yielded ops4 a.tmps) = true then Oper.wp Try.prog ({ dst := some 64, op := Op.build 25 #[(0, Operand.tmp 60), (1, Operand.tmp 63)], type := 25, pos := "headssafe.go:260", after := #[{ on := 5, ground := Ground.data }, { on := 8, ground := Ground.data }], guard := none } : Oper) a w K Q' else K (a.put ({ dst := some 64, op := Op.build 25 #[(0, Operand.tmp 60), (1, Operand.tmp 63)], type := 25, pos := "headssafe.go:260", after := #[{ on := 5, ground := Ground.data }, { on := 8, ground := Ground.data }], guard := none } : Oper).dst undef) w := by
  obtain ⟨b2, b5, b8, b9, b10, b11, x57, x60, x63, x64, x11, own, rfl, rfl, R⟩ := hI
  have ee : b9 = false := h0
  subst ee
  have e5' : b5 = true := hdep ⟨5, Ground.data⟩ (by simp) rfl
  subst e5'
  have e8' : b8 = true := hdep ⟨8, Ground.data⟩ (by simp) rfl
  subst e8'
  clear h0 hdep
  have q11 : b11 = false := by
    cases hq : b11 with
    | false => rfl
    | true => exact absurd ((R.d11 hq).1) (by decide)
  subst q11
  obtain ⟨a2, c2, k2⟩ := (R.g2 rfl).sl
  obtain ⟨a3, c3, k3⟩ := (R.c1 rfl).sl
  subst k2 k3
  clear e1 e2 e3
  go_simp
  refine hK _ _ ?_
  exact ⟨_, _, _, _, _, _, _, _, _, _, _, own, rfl, rfl, ⟨R.hb, R.h1, R.h2, R.ob, R.g1, R.g2, R.c1, R.bb, R.d5, R.d8, fun _ => ⟨rfl, rfl⟩, fun h => (by cases h)⟩⟩

set_option maxRecDepth 100000 in
set_option maxHeartbeats 4000000 in
theorem s4_10 (S T : List Gp) (Cs : List Cf) (w0 : World) (H : Nat) (t0 t1 t2 t3 t6 t7 t8 t9 t10 s1 s2 s3 s4 u24 u25 u26 u27 u28 u29 u30 u31 u32 u33 u34 u35 u36 u37 u38 u39 u40 u41 u42 u43 u44 u45 u46 u47 u48 u49 u50 u51 u52 u53 u54 : Value) (hH : H + 2 ≤ w0.heap.size) (lS : S.length ≤ 64) (lT : T.length ≤ 64) (lC : Cs.length ≤ 4398046511000) (va vt vc : Option Addr) (ca ct cc : Nat) (e1 : s1 = .slice va S.length ca) (e3 : s3 = .slice vt T.length ct) (e2 : s2 = .slice vc Cs.length cc)
    (hs1 : ∀ X, Below w0.heap.size w0 X → (∀ ad, va = some ad → ∀ j u, (cellsF Gp.cs S)[j]? = some u → X.cell? (ad.add j) = some u) ∧ (va = none → S.length = 0))
    (hs3 : ∀ X, Below w0.heap.size w0 X → (∀ ad, vt = some ad → ∀ j u, (cellsF Gp.cs T)[j]? = some u → X.cell? (ad.add j) = some u) ∧ (vt = none → T.length = 0))
    (hs2 : ∀ X, Below w0.heap.size w0 X → (∀ ad, vc = some ad → ∀ j u, (cellsF Cf.cs Cs)[j]? = some u → X.cell? (ad.add j) = some u) ∧ (vc = none → Cs.length = 0))
    (Q' : Exit → Act → World → Prop) (l : Array Bool) (a : Act) (w : World) (hI : Inv4 S T Cs w0 H t0 t1 t2 t3 t6 t7 t8 t9 t10 s1 s2 s3 s4 u24 u25 u26 u27 u28 u29 u30 u31 u32 u33 u34 u35 u36 u37 u38 u39 u40 u41 u42 u43 u44 u45 u46 u47 u48 u49 u50 u51 u52 u53 u54 l a w) (h0 : l.getD 10 true = false) (hdep : ∀ e ∈ ({ dst := some 11, op := Op.alloc 25, type := 0, pos := "headssafe.go:260", after := #[], guard := none } : Oper).after, Region.binds .any e = true → l.getD e.on false = true) (K : Act → World → Prop) (hK : ∀ a' w', Inv4 S T Cs w0 H t0 t1 t2 t3 t6 t7 t8 t9 t10 s1 s2 s3 s4 u24 u25 u26 u27 u28 u29 u30 u31 u32 u33 u34 u35 u36 u37 u38 u39 u40 u41 u42 u43 u44 u45 u46 u47 u48 u49 u50 u51 u52 u53 u54 (l.setIfInBounds 10 true) a' w' → K a' w') :
    if Region.wanted ({ dst := some 11, op := Op.alloc 25, type := 0, pos := "headssafe.go:260", after := #[], guard := none } : Oper) (yielded ops4 a.tmps) = true then Oper.wp Try.prog ({ dst := some 11, op := Op.alloc 25, type := 0, pos := "headssafe.go:260", after := #[], guard := none } : Oper) a w K Q' else K (a.put ({ dst := some 11, op := Op.alloc 25, type := 0, pos := "headssafe.go:260", after := #[], guard := none } : Oper).dst undef) w := by
  obtain ⟨b2, b5, b8, b9, b10, b11, x57, x60, x63, x64, x11, own, rfl, rfl, R⟩ := hI
  have ee : b10 = false := h0
  subst ee
  clear h0 hdep
  have q11 : b11 = false := by
    cases hq : b11 with
    | false => rfl
    | true => exact absurd ((R.d11 hq).2) (by decide)
  subst q11
  clear e1 e2 e3
  go_simp
  refine hK _ _ ?_
  have hbn : Below w.heap.size w (w.alloc (.cells #[.slice none 0 0, .slice none 0 0] 25)) := belN1
  exact ⟨_, _, _, _, _, _, _, _, _, _, _, updO own w.heap.size 2, rfl, rfl, ⟨bel_after R.hb R.hb.size hbn, R.h1.below hbn, R.h2.below hbn, fun q hq => (updO_old (Nat.lt_of_lt_of_le hq R.hb.size)).trans (R.ob q hq), fun h h2 => (R.g1 h h2).move (Only.of_below (S := fun _ => False) hbn) (fun _ h => h.elim) (fun q hq => updO_old hq), fun h => (R.g2 h).move (Only.of_below (S := fun _ => False) hbn) (fun _ h => h.elim) (fun q hq => updO_old hq), fun h => (R.c1 h).move (Only.of_below (S := fun _ => False) hbn) (fun _ h => h.elim) (fun q hq => updO_old hq), fun _ => ⟨_, rfl, R.hb.size, by simp, updO_new (Nat.le_refl _), fun _ => Has.new _ _ _ rfl, fun h => (by cases h)⟩, R.d5, R.d8, R.d9, fun h => (by cases h)⟩⟩

set_option maxRecDepth 100000 in
set_option maxHeartbeats 4000000 in
theorem s4_11 (S T : List Gp) (Cs : List Cf) (w0 : World) (H : Nat) (t0 t1 t2 t3 t6 t7 t8 t9 t10 s1 s2 s3 s4 u24 u25 u26 u27 u28 u29 u30 u31 u32 u33 u34 u35 u36 u37 u38 u39 u40 u41 u42 u43 u44 u45 u46 u47 u48 u49 u50 u51 u52 u53 u54 : Value) (hH : H + 2 ≤ w0.heap.size) (lS : S.length ≤ 64) (lT : T.length ≤ 64) (lC : Cs.length ≤ 4398046511000) (va vt vc : Option Addr) (ca ct cc : Nat) (e1 : s1 = .slice va S.length ca) (e3 : s3 = .slice vt T.length ct) (e2 : s2 = .slice vc Cs.length cc)
    (hs1 : ∀ X, Below w0.heap.size w0 X → (∀ ad, va = some ad → ∀ j u, (cellsF Gp.cs S)[j]? = some u → X.cell? (ad.add j) = some u) ∧ (va = none → S.length = 0))
    (hs3 : ∀ X, Below w0.heap.size w0 X → (∀ ad, vt = some ad → ∀ j u, (cellsF Gp.cs T)[j]? = some u → X.cell? (ad.add j) = some u) ∧ (vt = none → T.length = 0))
    (hs2 : ∀ X, Below w0.heap.size w0 X → (∀ ad, vc = some ad → ∀ j u, (cellsF Cf.cs Cs)[j]? = some u → X.cell? (ad.add j) = some u) ∧ (vc = none → Cs.length = 0))
    (Q' : Exit → Act → World → Prop) (l : Array Bool) (a : Act) (w : World) (hI : Inv4 S T Cs w0 H t0 t1 t2 t3 t6 t7 t8 t9 t10 s1 s2 s3 s4 u24 u25 u26 u27 u28 u29 u30 u31 u32 u33 u34 u35 u36 u37 u38 u39 u40 u41 u42 u43 u44 u45 u46 u47 u48 u49 u50 u51 u52 u53 u54 l a w) (h0 : l.getD 11 true = false) (hdep : ∀ e ∈ ({ dst := none, op := Op.store 25 (Operand.tmp 11) (Operand.tmp 64), type := 0, pos := "headssafe.go:260", after := #[{ on := 10, ground := Ground.data }, { on := 9, ground := Ground.data }, { on := 8, ground := Ground.chain }, { on := 0, ground := Ground.phase }, { on := 1, ground := Ground.phase }, { on := 2, ground := Ground.phase }, { on := 3, ground := Ground.phase }, { on := 4, ground := Ground.phase }, { on := 5, ground := Ground.phase }, { on := 6, ground := Ground.phase }, { on := 7, ground := Ground.phase }, { on := 8, ground := Ground.phase }, { on := 9, ground := Ground.phase }, { on := 10, ground := Ground.phase }], guard := none } : Oper).after, Region.binds .any e = true → l.getD e.on false = true) (K : Act → World → Prop) (hK : ∀ a' w', Inv4 S T Cs w0 H t0 t1 t2 t3 t6 t7 t8 t9 t10 s1 s2 s3 s4 u24 u25 u26 u27 u28 u29 u30 u31 u32 u33 u34 u35 u36 u37 u38 u39 u40 u41 u42 u43 u44 u45 u46 u47 u48 u49 u50 u51 u52 u53 u54 (l.setIfInBounds 11 true) a' w' → K a' w') :
    if Region.wanted ({ dst := none, op := Op.store 25 (Operand.tmp 11) (Operand.tmp 64), type := 0, pos := "headssafe.go:260", after := #[{ on := 10, ground := Ground.data }, { on := 9, ground := Ground.data }, { on := 8, ground := Ground.chain }, { on := 0, ground := Ground.phase }, { on := 1, ground := Ground.phase }, { on := 2, ground := Ground.phase }, { on := 3, ground := Ground.phase }, { on := 4, ground := Ground.phase }, { on := 5, ground := Ground.phase }, { on := 6, ground := Ground.phase }, { on := 7, ground := Ground.phase }, { on := 8, ground := Ground.phase }, { on := 9, ground := Ground.phase }, { on := 10, ground := Ground.phase }], guard := none } : Oper) (yielded ops4 a.tmps) = true then Oper.wp Try.prog ({ dst := none, op := Op.store 25 (Operand.tmp 11) (Operand.tmp 64), type := 0, pos := "headssafe.go:260", after := #[{ on := 10, ground := Ground.data }, { on := 9, ground := Ground.data }, { on := 8, ground := Ground.chain }, { on := 0, ground := Ground.phase }, { on := 1, ground := Ground.phase }, { on := 2, ground := Ground.phase }, { on := 3, ground := Ground.phase }, { on := 4, ground := Ground.phase }, { on := 5, ground := Ground.phase }, { on := 6, ground := Ground.phase }, { on := 7, ground := Ground.phase }, { on := 8, ground := Ground.phase }, { on := 9, ground := Ground.phase }, { on := 10, ground := Ground.phase }], guard := none } : Oper) a w K Q' else K (a.put ({ dst := none, op := Op.store 25 (Operand.tmp 11) (Operand.tmp 64), type := 0, pos := "headssafe.go:260", after := #[{ on := 10, ground := Ground.data }, { on := 9, ground := Ground.data }, { on := 8, ground := Ground.chain }, { on := 0, ground := Ground.phase }, { on := 1, ground := Ground.phase }, { on := 2, ground := Ground.phase }, { on := 3, ground := Ground.phase }, { on := 4, ground := Ground.phase }, { on := 5, ground := Ground.phase }, { on := 6, ground := Ground.phase }, { on := 7, ground := Ground.phase }, { on := 8, ground := Ground.phase }, { on := 9, ground := Ground.phase }, { on := 10, ground := Ground.phase }], guard := none } : Oper).dst undef) w := by
  obtain ⟨b2, b5, b8, b9, b10, b11, x57, x60, x63, x64, x11, own, rfl, rfl, R⟩ := hI
  have ee : b11 = false := h0
  subst ee
  have e10' : b10 = true := hdep ⟨10, Ground.data⟩ (by simp) rfl
  subst e10'
  have e9' : b9 = true := hdep ⟨9, Ground.data⟩ (by simp) rfl
  subst e9'
  clear h0 hdep
  obtain ⟨k8, k64⟩ := R.d9 rfl
  subst k8
  have k5 : b5 = true := R.d8 rfl
  subst k5
  obtain ⟨p, kp, hp1, hp2, hp3, hz, -⟩ := R.bb rfl
  obtain ⟨a2, c2, k2⟩ := (R.g2 rfl).sl
  obtain ⟨a3, c3, k3⟩ := (R.c1 rfl).sl
  subst k2 k3 k64 kp
  have HZ := hz rfl
  obtain ⟨_, y1, y2⟩ := id HZ
  clear e1 e2 e3
  go_simp
  refine hK _ _ ?_
  have O : Only (fun q => q = p) w ((w.setCell ⟨p, 0, none⟩ (.slice a2 (S.length + T.length) c2)).setCell ⟨p, 1, none⟩ (.slice a3 Cs.length c3)) := (only_of_set _ _ _ _).trans (only_of_set _ _ _ _)
  have HH : Has ((w.setCell ⟨p, 0, none⟩ (.slice a2 (S.length + T.length) c2)).setCell ⟨p, 1, none⟩ (.slice a3 Cs.length c3)) p #[.slice a2 (S.length + T.length) c2, .slice a3 Cs.length c3] := by simpa using (HZ.set 0 (by simp) (.slice a2 (S.length + T.length) c2)).set 1 (by simp) (.slice a3 Cs.length c3)
  exact ⟨_, _, _, _, _, _, _, _, _, _, _, own, rfl, rfl, ⟨bel_only R.hb O (Nat.le_refl _) (fun q hq h => by omega), R.h1.only O (by omega), R.h2.only O (by omega), R.ob, fun _ h => (by cases h), fun h => (R.g2 h).move O (fun q hq => by subst hq; omega) (fun _ _ => rfl), fun h => (R.c1 h).move O (fun q hq => by subst hq; omega) (fun _ _ => rfl), fun _ => ⟨p, rfl, hp1, Nat.lt_of_lt_of_le hp2 O.size, hp3, fun h => (by cases h), fun _ => HH⟩, R.d5, R.d8, R.d9, fun _ => ⟨rfl, rfl⟩⟩⟩

set_option maxRecDepth 100000 in
set_option maxHeartbeats 4000000 in
theorem reg4 (S T : List Gp) (Cs : List Cf) (w0 : World) (H : Nat) (t0 t1 t2 t3 t6 t7 t8 t9 t10 s1 s2 s3 s4 u24 u25 u26 u27 u28 u29 u30 u31 u32 u33 u34 u35 u36 u37 u38 u39 u40 u41 u42 u43 u44 u45 u46 u47 u48 u49 u50 u51 u52 u53 u54 : Value) (hH : H + 2 ≤ w0.heap.size) (lS : S.length ≤ 64) (lT : T.length ≤ 64) (lC : Cs.length ≤ 4398046511000) (va vt vc : Option Addr) (ca ct cc : Nat) (e1 : s1 = .slice va S.length ca) (e3 : s3 = .slice vt T.length ct) (e2 : s2 = .slice vc Cs.length cc)
    (hs1 : ∀ X, Below w0.heap.size w0 X → (∀ ad, va = some ad → ∀ j u, (cellsF Gp.cs S)[j]? = some u → X.cell? (ad.add j) = some u) ∧ (va = none → S.length = 0))
    (hs3 : ∀ X, Below w0.heap.size w0 X → (∀ ad, vt = some ad → ∀ j u, (cellsF Gp.cs T)[j]? = some u → X.cell? (ad.add j) = some u) ∧ (vt = none → T.length = 0))
    (hs2 : ∀ X, Below w0.heap.size w0 X → (∀ ad, vc = some ad → ∀ j u, (cellsF Cf.cs Cs)[j]? = some u → X.cell? (ad.add j) = some u) ∧ (vc = none → Cs.length = 0)) (hh1 : Has w0 H #[s1, s2]) (hh2 : Has w0 (H + 1) #[s3, s4])
    (Z : World → Prop) (Q' : Exit → Act → World → Prop) (hZ : ∀ X, Has X H #[s1, s2] → Has X (H + 1) #[s3, s4] → Z X)
    (hfin : ∀ (a2 a3 : Option Addr) (c2 c3 p : Nat) (X : World), Below w0.heap.size w0 X → X.ownsRow w0.heap.size 58 5 (.slice a2 (S.length + T.length) c2) (S.length + T.length) (cellsF Gp.cs S ++ cellsF Gp.cs T) → X.ownsRow w0.heap.size 49 4 (.slice a3 Cs.length c3) Cs.length (cellsF Cf.cs Cs) → Has X p #[.slice a2 (S.length + T.length) c2, .slice a3 Cs.length c3] → w0.heap.size ≤ p → (∀ q, (Value.slice a2 (S.length + T.length) c2).ownBlock = some q → q ≠ p ∧ (Value.slice a3 Cs.length c3).ownBlock ≠ some q) → (∀ q, (Value.slice a3 Cs.length c3).ownBlock = some q → q ≠ p) → Has X H #[s1, s2] → Has X (H + 1) #[s3, s4] → ∀ x57 x64, Q' .normal (fr4 H t0 t1 t2 t3 t6 t7 t8 t9 t10 s1 s2 s3 s4 u24 u25 u26 u27 u28 u29 u30 u31 u32 u33 u34 u35 u36 u37 u38 u39 u40 u41 u42 u43 u44 u45 u46 u47 u48 u49 u50 u51 u52 u53 u54 x57 (.slice a2 (S.length + T.length) c2) (.slice a3 Cs.length c3) x64 (.pointer (some ⟨p, 0, none⟩))) X) (fuel : Nat) (hf : 6 ≤ fuel) :
    wpAnyH Try.prog .any ops4 Q' Z fuel #[true, true, false, true, true, false, true, true, false, false, false, false] (fr4 H t0 t1 t2 t3 t6 t7 t8 t9 t10 s1 s2 s3 s4 u24 u25 u26 u27 u28 u29 u30 u31 u32 u33 u34 u35 u36 u37 u38 u39 u40 u41 u42 u43 u44 u45 u46 u47 u48 u49 u50 u51 u52 u53 u54 undef undef undef undef undef) w0 := by
  refine wpAnyH_inv (Inv4 S T Cs w0 H t0 t1 t2 t3 t6 t7 t8 t9 t10 s1 s2 s3 s4 u24 u25 u26 u27 u28 u29 u30 u31 u32 u33 u34 u35 u36 u37 u38 u39 u40 u41 u42 u43 u44 u45 u46 u47 u48 u49 u50 u51 u52 u53 u54) (by kernel_rfl) ?_ ?_ ?_ _ _ _ _ (by rfl) (Nat.le_trans (of_decide_eq_true (by kernel_rfl) : cntF _ ≤ 6) hf) ⟨false, false, false, false, false, false, undef, undef, undef, undef, undef, (fun _ => 99), rfl, rfl, ⟨Below.refl _ _, hh1, hh2, fun _ _ => rfl, fun h => (by cases h), fun h => (by cases h), fun h => (by cases h), fun h => (by cases h), fun h => (by cases h), fun h => (by cases h), fun h => (by cases h), fun h => (by cases h)⟩⟩
  · rintro l a X ⟨_, _, _, _, _, _, _, _, _, _, _, own, -, -, R⟩
    exact hZ X R.h1 R.h2
  · intro l a X i o hI ho h0 hdep K' hK'
    have hi : i < 12 := (Array.getElem?_eq_some_iff.1 ho).1
    have c : i = 0 ∨ i = 1 ∨ i = 2 ∨ i = 3 ∨ i = 4 ∨ i = 5 ∨ i = 6 ∨ i = 7 ∨ i = 8 ∨ i = 9 ∨ i = 10 ∨ i = 11 := by omega
    rcases c with rfl | rfl | rfl | rfl | rfl | rfl | rfl | rfl | rfl | rfl | rfl | rfl
    · obtain ⟨_, _, _, _, _, _, _, _, _, _, _, own, rfl, -, -⟩ := hI
      exact Bool.noConfusion (show true = false from h0)
    · obtain ⟨_, _, _, _, _, _, _, _, _, _, _, own, rfl, -, -⟩ := hI
      exact Bool.noConfusion (show true = false from h0)
    · cases (show some ({ dst := some 57, op := Op.call { callee := Callee.builtin Builtin.append, args := #[Operand.const (Value.slice none 0 0), Operand.tmp 56], argTypes := #[22, 22] }, type := 22, pos := "headssafe.go:260", after := #[{ on := 1, ground := Ground.data }], guard := none } : Oper) = some o from ho)
      exact s4_2 S T Cs w0 H t0 t1 t2 t3 t6 t7 t8 t9 t10 s1 s2 s3 s4 u24 u25 u26 u27 u28 u29 u30 u31 u32 u33 u34 u35 u36 u37 u38 u39 u40 u41 u42 u43 u44 u45 u46 u47 u48 u49 u50 u51 u52 u53 u54 hH lS lT lC va vt vc ca ct cc e1 e3 e2 hs1 hs3 hs2 _ l a X hI h0 hdep K' hK'
    · obtain ⟨_, _, _, _, _, _, _, _, _, _, _, own, rfl, -, -⟩ := hI
      exact Bool.noConfusion (show true = false from h0)
    · obtain ⟨_, _, _, _, _, _, _, _, _, _, _, own, rfl, -, -⟩ := hI
      exact Bool.noConfusion (show true = false from h0)
    · cases (show some ({ dst := some 60, op := Op.call { callee := Callee.builtin Builtin.append, args := #[Operand.tmp 57, Operand.tmp 59], argTypes := #[22, 22] }, type := 22, pos := "headssafe.go:260", after := #[{ on := 2, ground := Ground.data }, { on := 4, ground := Ground.data }, { on := 2, ground := Ground.chain }], guard := none } : Oper) = some o from ho)
      exact s4_5 S T Cs w0 H t0 t1 t2 t3 t6 t7 t8 t9 t10 s1 s2 s3 s4 u24 u25 u26 u27 u28 u29 u30 u31 u32 u33 u34 u35 u36 u37 u38 u39 u40 u41 u42 u43 u44 u45 u46 u47 u48 u49 u50 u51 u52 u53 u54 hH lS lT lC va vt vc ca ct cc e1 e3 e2 hs1 hs3 hs2 _ l a X hI h0 hdep K' hK'
    · obtain ⟨_, _, _, _, _, _, _, _, _, _, _, own, rfl, -, -⟩ := hI
      exact Bool.noConfusion (show true = false from h0)
    · obtain ⟨_, _, _, _, _, _, _, _, _, _, _, own, rfl, -, -⟩ := hI
      exact Bool.noConfusion (show true = false from h0)
    · cases (show some ({ dst := some 63, op := Op.call { callee := Callee.builtin Builtin.append, args := #[Operand.const (Value.slice none 0 0), Operand.tmp 62], argTypes := #[23, 23] }, type := 23, pos := "headssafe.go:260", after := #[{ on := 7, ground := Ground.data }, { on := 5, ground := Ground.chain }], guard := none } : Oper) = some o from ho)
      exact s4_8 S T Cs w0 H t0 t1 t2 t3 t6 t7 t8 t9 t10 s1 s2 s3 s4 u24 u25 u26 u27 u28 u29 u30 u31 u32 u33 u34 u35 u36 u37 u38 u39 u40 u41 u42 u43 u44 u45 u46 u47 u48 u49 u50 u51 u52 u53 u54 hH lS lT lC va vt vc ca ct cc e1 e3 e2 hs1 hs3 hs2 _ l a X hI h0 hdep K' hK'
    · cases (show some ({ dst := some 64, op := Op.build 25 #[(0, Operand.tmp 60), (1, Operand.tmp 63)], type := 25, pos := "headssafe.go:260", after := #[{ on := 5, ground := Ground.data }, { on := 8, ground := Ground.data }], guard := none } : Oper) = some o from ho)
      exact s4_9 S T Cs w0 H t0 t1 t2 t3 t6 t7 t8 t9 t10 s1 s2 s3 s4 u24 u25 u26 u27 u28 u29 u30 u31 u32 u33 u34 u35 u36 u37 u38 u39 u40 u41 u42 u43 u44 u45 u46 u47 u48 u49 u50 u51 u52 u53 u54 hH lS lT lC va vt vc ca ct cc e1 e3 e2 hs1 hs3 hs2 _ l a X hI h0 hdep K' hK'
    · cases (show some ({ dst := some 11, op := Op.alloc 25, type := 0, pos := "headssafe.go:260", after := #[], guard := none } : Oper) = some o from ho)
      exact s4_10 S T Cs w0 H t0 t1 t2 t3 t6 t7 t8 t9 t10 s1 s2 s3 s4 u24 u25 u26 u27 u28 u29 u30 u31 u32 u33 u34 u35 u36 u37 u38 u39 u40 u41 u42 u43 u44 u45 u46 u47 u48 u49 u50 u51 u52 u53 u54 hH lS lT lC va vt vc ca ct cc e1 e3 e2 hs1 hs3 hs2 _ l a X hI h0 hdep K' hK'
    · cases (show some ({ dst := none, op := Op.store 25 (Operand.tmp 11) (Operand.tmp 64), type := 0, pos := "headssafe.go:260", after := #[{ on := 10, ground := Ground.data }, { on := 9, ground := Ground.data }, { on := 8, ground := Ground.chain }, { on := 0, ground := Ground.phase }, { on := 1, ground := Ground.phase }, { on := 2, ground := Ground.phase }, { on := 3, ground := Ground.phase }, { on := 4, ground := Ground.phase }, { on := 5, ground := Ground.phase }, { on := 6, ground := Ground.phase }, { on := 7, ground := Ground.phase }, { on := 8, ground := Ground.phase }, { on := 9, ground := Ground.phase }, { on := 10, ground := Ground.phase }], guard := none } : Oper) = some o from ho)
      exact s4_11 S T Cs w0 H t0 t1 t2 t3 t6 t7 t8 t9 t10 s1 s2 s3 s4 u24 u25 u26 u27 u28 u29 u30 u31 u32 u33 u34 u35 u36 u37 u38 u39 u40 u41 u42 u43 u44 u45 u46 u47 u48 u49 u50 u51 u52 u53 u54 hH lS lT lC va vt vc ca ct cc e1 e3 e2 hs1 hs3 hs2 _ l a X hI h0 hdep K' hK'
  · rintro l a X ⟨b2, b5, b8, b9, b10, b11, x57, x60, x63, x64, x11, own, rfl, rfl, R⟩ hall
    have e7 : b11 = true := hall 11
    subst e7
    obtain ⟨r5, r6⟩ := R.d11 rfl
    subst r5 r6
    obtain ⟨k8, k64⟩ := R.d9 rfl
    subst k8
    have k5 : b5 = true := R.d8 rfl
    subst k5
    obtain ⟨p, kp, hp1, hp2, hp3, -, hz⟩ := R.bb rfl
    have G := R.g2 rfl
    have C := R.c1 rfl
    obtain ⟨a2, c2, k2⟩ := G.sl
    obtain ⟨a3, c3, k3⟩ := C.sl
    subst k2 k3 kp
    exact hfin a2 a3 c2 c3 p X R.hb G.ow C.ow (hz rfl) hp1 (fun q hq => ⟨fun e => by subst e; have := G.wh _ hq; omega, fun h => by have := G.wh q hq; have := C.wh q h; omega⟩) (fun q hq e => by subst e; have := C.wh _ hq; omega) R.h1 R.h2 _ _
end Go.Proofs.Ytbonmajnkbggcaa
