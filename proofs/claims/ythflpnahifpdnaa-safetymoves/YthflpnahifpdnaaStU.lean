import Derived.Test.YthflpnahifpdnaaRtB
import Derived.Test.YthflpnahifpdnaaSpO
namespace Go.Proofs.Ythflpnahifpdnaa
open Go.RowKit
set_option linter.unusedVariables false


def lst64 (n : Nat) (f : Nat → Int) : List Int := (List.range n).map f
theorem lst_len (n : Nat) (f : Nat → Int) : (lst64 n f).length = n := by simp [lst64]
theorem cells_64 (n : Nat) (f : Nat → Int) : cellsF n64 (lst64 n f) = valR n f := by
  unfold cellsF lst64 valR n64
  rw [List.flatMap_map]
  induction (List.range n) with
  | nil => rfl
  | cons x l ih => simp [List.flatMap_cons, ih]
theorem cells_32 (n : Nat) (f : Nat → Int) : cellsF n32 (lst64 n f) = v32 n f := by
  unfold cellsF lst64 v32 n32
  rw [List.flatMap_map]
  induction (List.range n) with
  | nil => rfl
  | cons x l ih => simp [List.flatMap_cons, ih]
theorem own_fl {cs : Int → List Value} (hl : ∀ x, (cs x).length = 1) {w : World} {base e n : Nat} {v : Value} {L : List Int} (hL : L.length = n) (h : w.ownsRow base e 1 v n (cellsF cs L)) : Fl 1 cs w v L := by
  subst hL
  rcases Nat.eq_zero_or_pos L.length with h0 | h0
  · have hn : L = [] := List.length_eq_zero_iff.1 h0
    subst hn
    rcases h.2 with ⟨rfl, _⟩ | ⟨g, cap, cur, rfl, _⟩
    · exact .inl ⟨rfl, rfl⟩
    · exact .inr ⟨⟨g, 0, none⟩, cap, rfl, Nat.zero_le _, .inl rfl⟩
  · obtain ⟨g, cap, rfl, hc, _, hg⟩ := own_block h h0
    refine .inr ⟨⟨g, 0, none⟩, cap, rfl, hc, .inr ⟨rfl, hg, fun i hi j u hu => ?_⟩⟩
    have hj : j < 1 := by have := (List.getElem?_eq_some_iff.1 hu).1; rw [hl] at this; exact this
    show w.cell? ⟨g, 0 + i * 1 + j, none⟩ = some u
    rw [Nat.zero_add]
    exact own_reads h rfl _ _ (by rw [cellsF_get hl L i j hi hj]; exact hu)
theorem T3.f1 {B : Nat} {w : World} {va vb vc : Value} {n k2 k3 : Nat} {f : Nat → Int} {x2 x3 : List Value} (h : T3 B w va vb vc n k2 k3 (valR n f) x2 x3) : Fl 1 n64 w va (lst64 n f) := own_fl n64_len (lst_len _ _) (by rw [cells_64]; exact h.o1)
theorem T3.f2 {B : Nat} {w : World} {va vb vc : Value} {n k1 k3 : Nat} {f : Nat → Int} {x1 x3 : List Value} (h : T3 B w va vb vc k1 n k3 x1 (v32 n f) x3) : Fl 1 n32 w vb (lst64 n f) := own_fl n32_len (lst_len _ _) (by rw [cells_32]; exact h.o2)
theorem T3.f3 {B : Nat} {w : World} {va vb vc : Value} {n k1 k2 : Nat} {f : Nat → Int} {x1 x2 : List Value} (h : T3 B w va vb vc k1 k2 n x1 x2 (v32 n f)) : Fl 1 n32 w vc (lst64 n f) := own_fl n32_len (lst_len _ _) (by rw [cells_32]; exact h.o3)
/-- Heads with a code, in memory of their own. -/
def PostU (n : Nat) (f g h : Nat → Int) (c : Int) (X : World) (e : Ending) (w' : World) : Prop :=
  (∃ a1 c1 a2 c2 a3 c3, e = .returned (.tuple #[.agg #[.slice a1 n c1, .slice a2 n c2, .slice a3 n c3], .int .i64 c]) ∧ T3 X.heap.size w' (.slice a1 n c1) (.slice a2 n c2) (.slice a3 n c3) n n n (valR n f) (v32 n g) (v32 n h)) ∧ Below X.heap.size X w'
theorem zero_post {c : Int} {X : World} {e : Ending} {w' : World} (h : e = .returned (.tuple #[.agg #[.slice none 0 0, .slice none 0 0, .slice none 0 0], .int .i64 c]) ∧ Below X.heap.size X w') : PostU 0 (fun _ => 0) (fun _ => 0) (fun _ => 0) c X e w' :=
  ⟨⟨none, 0, none, 0, none, 0, h.1, ⟨rfl, .inl ⟨rfl, rfl⟩⟩, ⟨rfl, .inl ⟨rfl, rfl⟩⟩, ⟨rfl, .inl ⟨rfl, rfl⟩⟩, fun q h => (by cases h), fun q h => (by cases h), fun q h => (by cases h)⟩, h.2⟩
theorem t3_of {B : Nat} {w : World} {r p0 p1 n c1 c2 c3 : Nat} {x1 x2 x3 : List Value} (h1 : w.ownsRow B 3 1 (.slice (some ⟨r, 0, none⟩) n c1) n x1) (h2 : w.ownsRow B 21 1 (.slice (some ⟨p0, 0, none⟩) n c2) n x2) (h3 : w.ownsRow B 21 1 (.slice (some ⟨p1, 0, none⟩) n c3) n x3) (d1 : r ≠ p0) (d2 : r ≠ p1) (d3 : p0 ≠ p1) : T3 B w (.slice (some ⟨r, 0, none⟩) n c1) (.slice (some ⟨p0, 0, none⟩) n c2) (.slice (some ⟨p1, 0, none⟩) n c3) n n n x1 x2 x3 :=
  ⟨h1, h2, h3, fun q a b => d1 (by injection a with a; injection b with b; exact a.trans b.symm), fun q a b => d2 (by injection a with a; injection b with b; exact a.trans b.symm), fun q a b => d3 (by injection a with a; injection b with b; exact a.trans b.symm)⟩
theorem t3_post {n : Nat} {f g h : Nat → Int} {c : Int} {X : World} {e : Ending} {w' : World} (hh : (∃ ua ub uc, e = .returned (.tuple #[.agg #[ua, ub, uc], .int .i64 c]) ∧ T3 X.heap.size w' ua ub uc n n n (valR n f) (v32 n g) (v32 n h)) ∧ Below X.heap.size X w') : PostU n f g h c X e w' := by
  obtain ⟨⟨ua, ub, uc, rfl, T⟩, hb⟩ := hh
  obtain ⟨a1, c1, rfl⟩ := own_form T.o1
  obtain ⟨a2, c2, rfl⟩ := own_form T.o2
  obtain ⟨a3, c3, rfl⟩ := own_form T.o3
  exact ⟨⟨a1, c1, a2, c2, a3, c3, rfl, T⟩, hb⟩
/-- What is spoilt lies elsewhere. -/
theorem T3.spared {B : Nat} {w w' : World} {va vb vc : Value} {k1 k2 k3 : Nat} {x1 x2 x3 : List Value} {S : Nat → Prop} (h : T3 B w va vb vc k1 k2 k3 x1 x2 x3) (O : Only S w w') (hS : ∀ q, B ≤ q → q < w.heap.size → va.ownBlock = some q ∨ vb.ownBlock = some q ∨ vc.ownBlock = some q → ¬ S q) : T3 B w' va vb vc k1 k2 k3 x1 x2 x3 :=
  ⟨own_only2 h.o1 O (fun q hq => hS q (own_lt h.o1 q hq).1 (own_lt h.o1 q hq).2 (.inl hq)), own_only2 h.o2 O (fun q hq => hS q (own_lt h.o2 q hq).1 (own_lt h.o2 q hq).2 (.inr (.inl hq))), own_only2 h.o3 O (fun q hq => hS q (own_lt h.o3 q hq).1 (own_lt h.o3 q hq).2 (.inr (.inr hq))), h.d12, h.d13, h.d23⟩
theorem T3.blk {B : Nat} {w : World} {va vb vc : Value} {k1 k2 k3 : Nat} {x1 x2 x3 : List Value} (h : T3 B w va vb vc k1 k2 k3 x1 x2 x3) {q : Nat} (hq : blk3 va vb vc q) : B ≤ q ∧ q < w.heap.size := by
  rcases hq with hq | hq | hq
  · exact own_lt h.o1 q hq
  · exact own_lt h.o2 q hq
  · exact own_lt h.o3 q hq
end Go.Proofs.Ythflpnahifpdnaa
