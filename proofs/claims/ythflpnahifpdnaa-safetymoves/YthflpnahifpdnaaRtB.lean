import Derived.Test.YthflpnahifpdnaaStA
import Derived.Test.YthflpnahifpdnaaGrE
import Derived.Deep.RegionHeld3
namespace Go.Proofs.Ythflpnahifpdnaa
open Go.RowKit
set_option linter.unusedVariables false


theorem dis_new {B e sz n m c : Nat} {X : World} {va v : Value} {g1 : Nat} {xs : List Value} (hv : X.ownsRow B e sz v n xs) (d : ∀ q, va.ownBlock = some q → v.ownBlock ≠ some q) (hat : va.ownBlock = some g1 ∨ X.heap.size ≤ g1) : ∀ q, (Value.slice (some ⟨g1, 0, none⟩) m c).ownBlock = some q → v.ownBlock ≠ some q := by
  intro q hq hv'
  have e : g1 = q := by injection hq
  subst e
  rcases hat with h | h
  · exact d _ h hv'
  · have := (own_lt hv _ hv').2; omega
/-- Three rows, each in a block of its own. -/
structure T3 (B : Nat) (w : World) (va vb vc : Value) (k1 k2 k3 : Nat) (x1 x2 x3 : List Value) : Prop where
  o1 : w.ownsRow B 3 1 va k1 x1
  o2 : w.ownsRow B 21 1 vb k2 x2
  o3 : w.ownsRow B 21 1 vc k3 x3
  d12 : ∀ q, va.ownBlock = some q → vb.ownBlock ≠ some q
  d13 : ∀ q, va.ownBlock = some q → vc.ownBlock ≠ some q
  d23 : ∀ q, vb.ownBlock = some q → vc.ownBlock ≠ some q
theorem T3.only {B : Nat} {S : Nat → Prop} {w w' : World} {va vb vc : Value} {k1 k2 k3 : Nat} {x1 x2 x3 : List Value} (h : T3 B w va vb vc k1 k2 k3 x1 x2 x3) (O : Only S w w') (hS : ∀ q, B ≤ q → ¬ S q) : T3 B w' va vb vc k1 k2 k3 x1 x2 x3 :=
  ⟨own_only2 h.o1 O (fun q hq => hS q (own_lt h.o1 q hq).1), own_only2 h.o2 O (fun q hq => hS q (own_lt h.o2 q hq).1), own_only2 h.o3 O (fun q hq => hS q (own_lt h.o3 q hq).1), h.d12, h.d13, h.d23⟩
theorem T3.below {B : Nat} {w w' : World} {va vb vc : Value} {k1 k2 k3 : Nat} {x1 x2 x3 : List Value} (h : T3 B w va vb vc k1 k2 k3 x1 x2 x3) (hb : Below w.heap.size w w') : T3 B w' va vb vc k1 k2 k3 x1 x2 x3 :=
  ⟨own_bel h.o1 hb, own_bel h.o2 hb, own_bel h.o3 hb, h.d12, h.d13, h.d23⟩
theorem T3.app1 {B m c : Nat} {w w' : World} {va vb vc : Value} {k1 k2 k3 g : Nat} {x1 x2 x3 y : List Value} (h : T3 B w va vb vc k1 k2 k3 x1 x2 x3) (O : Only (fun q => va.ownBlock = some q) w w') (hat : va.ownBlock = some g ∨ w.heap.size ≤ g) (hn : w'.ownsRow B 3 1 (.slice (some ⟨g, 0, none⟩) m c) m y) : T3 B w' (.slice (some ⟨g, 0, none⟩) m c) vb vc m k2 k3 y x2 x3 :=
  ⟨hn, own_only2 h.o2 O (fun q hq hs => h.d12 q hs hq), own_only2 h.o3 O (fun q hq hs => h.d13 q hs hq), dis_new h.o2 h.d12 hat, dis_new h.o3 h.d13 hat, h.d23⟩
theorem T3.app2 {B m c : Nat} {w w' : World} {va vb vc : Value} {k1 k2 k3 g : Nat} {x1 x2 x3 y : List Value} (h : T3 B w va vb vc k1 k2 k3 x1 x2 x3) (O : Only (fun q => vb.ownBlock = some q) w w') (hat : vb.ownBlock = some g ∨ w.heap.size ≤ g) (hn : w'.ownsRow B 21 1 (.slice (some ⟨g, 0, none⟩) m c) m y) : T3 B w' va (.slice (some ⟨g, 0, none⟩) m c) vc k1 m k3 x1 y x3 :=
  ⟨own_only2 h.o1 O (fun q hq hs => h.d12 q hq hs), hn, own_only2 h.o3 O (fun q hq hs => h.d23 q hs hq), fun q hq hq' => dis_new h.o1 (fun q a b => h.d12 q b a) hat q hq' hq, h.d13, dis_new h.o3 h.d23 hat⟩
theorem T3.app3 {B m c : Nat} {w w' : World} {va vb vc : Value} {k1 k2 k3 g : Nat} {x1 x2 x3 y : List Value} (h : T3 B w va vb vc k1 k2 k3 x1 x2 x3) (O : Only (fun q => vc.ownBlock = some q) w w') (hat : vc.ownBlock = some g ∨ w.heap.size ≤ g) (hn : w'.ownsRow B 21 1 (.slice (some ⟨g, 0, none⟩) m c) m y) : T3 B w' va vb (.slice (some ⟨g, 0, none⟩) m c) k1 k2 m x1 x2 y :=
  ⟨own_only2 h.o1 O (fun q hq hs => h.d13 q hq hs), own_only2 h.o2 O (fun q hq hs => h.d23 q hq hs), hn, h.d12, fun q hq hq' => dis_new h.o1 (fun q a b => h.d13 q b a) hat q hq' hq, fun q hq hq' => dis_new h.o2 (fun q a b => h.d23 q b a) hat q hq' hq⟩
theorem valR_snoc (n : Nat) (f : Nat → Int) : valR n f ++ [.int .i64 (f n)] = valR (n + 1) f := by unfold valR; rw [List.range_succ]; simp
theorem v32_snoc (n : Nat) (f : Nat → Int) : v32 n f ++ [.int .i32 (f n)] = v32 (n + 1) f := by unfold v32; rw [List.range_succ]; simp
end Go.Proofs.Ythflpnahifpdnaa
