import Derived.Test.YthflpnahifpdnaaCpH
import Derived.Test.YthflpnahifpdnaaInR
import Derived.Deep.AppendLies
namespace Go.Proofs.Ythflpnahifpdnaa
open Go.RowKit
set_option linter.unusedVariables false


def updO (own : Nat → Nat) (H k : Nat) : Nat → Nat := fun q => if q < H then own q else k
theorem updO_old {own : Nat → Nat} {H k q : Nat} (h : q < H) : updO own H k q = own q := if_pos h
theorem updO_new {own : Nat → Nat} {H k q : Nat} (h : H ≤ q) : updO own H k q = k := if_neg (by omega)
/-- A list that is to be grown by one: what is known of it. -/
structure Ch (own : Nat → Nat) (w : World) (B k e sz n : Nat) (xs ms : List Value) (v xb xa : Value) (bv bb ba : Bool) : Prop where
  pre : bv = true → ba = false → w.ownsRow B e sz v n xs ∧ ∀ q, v.ownBlock = some q → own q = k
  bs : bb = true → ba = false → ∃ g, xb = .slice (some ⟨g, 0, none⟩) 1 1 ∧ Has w g ms.toArray ∧ own g = k ∧ B ≤ g
  post : ba = true → ∃ g d, xa = .slice (some ⟨g, 0, none⟩) (n + 1) d ∧ w.ownsRow B e sz xa (n + 1) (xs ++ ms) ∧ own g = k
theorem Ch.move {own own' : Nat → Nat} {w w' : World} {B k e sz n : Nat} {xs ms : List Value} {v xb xa : Value} {bv bb ba : Bool} {S : Nat → Prop} (h : Ch own w B k e sz n xs ms v xb xa bv bb ba) (O : Only S w w') (hS : ∀ q, own q = k → ¬ S q) (ho : ∀ q, q < w.heap.size → own' q = own q) : Ch own' w' B k e sz n xs ms v xb xa bv bb ba := by
  refine ⟨fun h1 h2 => ?_, fun h1 h2 => ?_, fun h1 => ?_⟩
  · obtain ⟨p, q⟩ := h.pre h1 h2
    exact ⟨own_only2 p O (fun b hb => hS b (q b hb)), fun b hb => (ho b (own_lt p b hb).2).trans (q b hb)⟩
  · obtain ⟨g, e, hg, hk, hB⟩ := h.bs h1 h2
    exact ⟨g, e, hg.only O (hS g hk), (ho g hg.1).trans hk, hB⟩
  · obtain ⟨g, d, rfl, p, q⟩ := h.post h1
    exact ⟨g, d, rfl, own_only2 p O (fun b hb => by injection hb with hb; subst hb; exact hS g q), (ho g (own_lt p g rfl).2).trans q⟩
theorem Ch.other {own : Nat → Nat} {w w' : World} {B k j e sz n : Nat} {xs ms : List Value} {v xb xa : Value} {bv bb ba : Bool} (h : Ch own w B k e sz n xs ms v xb xa bv bb ba) (O : Only (fun q => own q = j) w w') (hj : k ≠ j) : Ch (updO own w.heap.size j) w' B k e sz n xs ms v xb xa bv bb ba :=
  h.move O (fun q hq hs => hj (hq.symm.trans hs)) (fun q hq => updO_old hq)
/-- The mark is laid down. -/
theorem Ch.build {own : Nat → Nat} {w : World} {B k e sz n : Nat} {xs ms : List Value} {v xb xa : Value} {bv : Bool} (h : Ch own w B k e sz n xs ms v xb xa bv false false) (t : TypeId) (hB : B ≤ w.heap.size) : Ch (updO own w.heap.size k) (w.alloc (.cells ms.toArray t)) B k e sz n xs ms v (.slice (some ⟨w.heap.size, 0, none⟩) 1 1) xa bv true false := by
  refine ⟨fun h1 h2 => ?_, fun h1 h2 => ?_, fun h1 => by cases h1⟩
  · obtain ⟨p, q⟩ := h.pre h1 h2
    exact ⟨p.alloc _, fun b hb => (updO_old (own_lt p b hb).2).trans (q b hb)⟩
  · exact ⟨_, rfl, Has.new _ _ _ rfl, updO_new (Nat.le_refl _), hB⟩
/-- The list is grown. -/
theorem Ch.app {own : Nat → Nat} {w : World} {B k e sz n : Nat} {xs ms : List Value} {v xb xa : Value} (h : Ch own w B k e sz n xs ms v xb xa true true false) (hB : B ≤ w.heap.size) (hl : ms.length = sz) (h1c : ∀ u ∈ ms, u.oneCell' = true)
    {ops : Array Oper} {o : Oper} {a : Act} {K : Act → World → Prop} {Q' : Exit → Act → World → Prop} {E : Prop} (hgd : o.guard = none) (s x : Operand) (t : TypeId) (ho : o.op = .call { callee := .builtin .append, args := #[s, x], argTypes := #[t, t] }) (i : TypeInfo) (z : Value) (bytes : Nat) (ht : Try.prog.underlying t = some (.slice e)) (hi : Try.prog.info? e = some i) (hz : i.zero = some z) (hs : i.size = sz) (hbt : i.bytes = bytes) (hz1 : z.cells.size = sz) (hsz : 0 < sz)
    (es : a.eval s = v) (ex : a.eval x = xb) (hmax : n + 1 ≤ maxLen) (hbytes : (n + 1) * bytes ≤ 140737488355328)
    (hK : ∀ g d w', Ch (updO own w.heap.size k) w' B k e sz n xs ms v xb (.slice (some ⟨g, 0, none⟩) (n + 1) d) true true true → Only (fun q => own q = k) w w' → K (a.put o.dst (.slice (some ⟨g, 0, none⟩) (n + 1) d)) w') :
    if Region.wanted o (yielded ops a.tmps) = true then Oper.wp Try.prog o a w K Q' else E := by
  obtain ⟨p, q⟩ := h.pre rfl rfl
  obtain ⟨g, rfl, hM, hk, hBg⟩ := h.bs rfl rfl
  refine step_append_lies w hgd s x t ho B e i z sz bytes ht hi hz hs hbt hz1 hsz v n xs es p ⟨g, 0, none⟩ 1 1 ms ex (by rw [hl]; simp) (newsOf hM) h1c (by decide) hmax hbytes hB _ rfl ?_
  intro g1 d1 Y nG hg hat hlt
  have O : Only (fun q => own q = k) w Y := only_grown (Only.refl _ _) hg (fun b hb => .inl (q b hb))
  refine hK g1 d1 Y ⟨fun _ h => (by cases h), fun _ h => (by cases h), fun _ => ⟨g1, d1, rfl, nG, ?_⟩⟩ O
  rcases hat with h | h
  · rw [updO_old (own_lt p g1 h).2]; exact q g1 h
  · exact updO_new (by omega)
end Go.Proofs.Ythflpnahifpdnaa
