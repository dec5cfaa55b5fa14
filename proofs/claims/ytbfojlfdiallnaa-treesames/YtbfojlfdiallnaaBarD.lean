import Derived.Test.YtbfojlfdiallnaaBarB
import Derived.Test.YtbfojlfdiallnaaBarC
import Derived.Deep.RegionHeld3
import Derived.Deep.RegionLaw
import Derived.Deep.AppendSrc
import Derived.Deep.Upon
namespace Go.Proofs.Ytbfojlfdiallnaa
open Go.RowKit
set_option linter.unusedVariables false

theorem run_copy {P : Program} (w : World) (t ty : TypeId) (e : TypeId) (i : TypeInfo) (z : Value) (size bytes : Nat) (ht : P.underlying t = some (.slice e)) (hi : P.info? e = some i) (hz : i.zero = some z)
    (hsize : i.size = size) (hby : i.bytes = bytes) (hzs : z.cells.size = size) (hsz : 0 < size) (va : Option Addr) (m c : Nat) (news : List Value) (hl : news.length = m * size)
    (hnews : ∀ ad, va = some ad → ∀ j u, news[j]? = some u → w.cell? (ad.add j) = some u) (h1 : ∀ u ∈ news, u.oneCell' = true) (hva : va = none → m = 0) (h63 : m ≤ maxLen) (hbytes : m * bytes ≤ 140737488355328) :
    ∃ a' c' w', (Builtin.append_ #[t, t] ty #[.slice none 0 0, .slice va m c]).run P w = .ok (.slice a' m c') w' ∧ w'.ownsRow w.heap.size e size (.slice a' m c') m news ∧ Below w.heap.size w w' := by
  rcases Nat.eq_zero_or_pos m with h0 | hm
  · subst h0
    have hnil : news = [] := List.length_eq_zero_iff.1 (by simpa using hl)
    subst hnil
    have hsrc : Src P i.size t (.slice va 0 c) 0 [] w := by
      cases va with
      | none => exact Src.ofNil w ht c
      | some ad => exact Src.ofSlice w ht ad 0 c [] (by simp) (fun j u hu => by simp at hu) (fun u hu => by cases hu)
    exact ⟨none, 0, w, run_append_nothing (P := P) w t t ty e i ht hi none 0 0 (Nat.le_refl _) (.slice va 0 c) hsrc, World.ownsRow_nil _ _ _ _, Below.refl _ _⟩
  · cases va with
    | none => exact absurd (hva rfl) (by omega)
    | some ad =>
      obtain ⟨g, cap, w', hr, h2, h3, _, _⟩ := run_append_lies (P := P) w t ty w.heap.size e i z size bytes ht hi hz hsize hby hzs hsz (.slice none 0 0) 0 [] (World.ownsRow_nil _ _ _ _) ad m c news hl (hnews ad rfl) h1 hm (by omega) (by rw [Nat.zero_add]; exact hbytes) (Nat.le_refl _) _ rfl
      rw [Nat.zero_add] at hr h2
      exact ⟨_, _, w', hr, h2, grown_none h3⟩
theorem step_copy {P : Program} {w : World} {ops : Array Oper} {o : Oper} {a : Act} {K : Act → World → Prop} {Q : Exit → Act → World → Prop} {E : Prop} (hgd : o.guard = none) (s x : Operand) (t : TypeId)
    (ho : o.op = .call { callee := .builtin .append, args := #[s, x], argTypes := #[t, t] })
    (e : TypeId) (i : TypeInfo) (z : Value) (size bytes : Nat) (ht : P.underlying t = some (.slice e)) (hi : P.info? e = some i) (hz : i.zero = some z)
    (hsize : i.size = size) (hby : i.bytes = bytes) (hzs : z.cells.size = size) (hsz : 0 < size) (va : Option Addr) (m c : Nat) (news : List Value) (hs : a.eval s = .slice none 0 0) (hx : a.eval x = .slice va m c) (hl : news.length = m * size)
    (hnews : ∀ ad, va = some ad → ∀ j u, news[j]? = some u → w.cell? (ad.add j) = some u) (h1 : ∀ u ∈ news, u.oneCell' = true) (hva : va = none → m = 0) (h63 : m ≤ maxLen) (hbytes : m * bytes ≤ 140737488355328)
    (h : ∀ a' c' w', w'.ownsRow w.heap.size e size (.slice a' m c') m news → Below w.heap.size w w' → K (a.put o.dst (.slice a' m c')) w') :
    if Region.wanted o (yielded ops a.tmps) = true then Oper.wp P o a w K Q else E := by
  have hw : Region.wanted o (yielded ops a.tmps) = true := by simp [Region.wanted, hgd]
  rw [if_pos hw]
  obtain ⟨a', c', w', hr, h2, h3⟩ := run_copy (P := P) w t o.type e i z size bytes ht hi hz hsize hby hzs hsz va m c news hl hnews h1 hva h63 hbytes
  unfold Oper.wp execOp
  simp only [ho, resolve, invoke, builtin, Sem.run_bind, Sem.run_pure, Result.andThen_ok, List.map_toArray, List.map_cons, List.map_nil, hs, hx, hr]
  exact h a' c' w' h2 h3
theorem wpList_copyv {P : Program} {w : World} {ops : Array Oper} {rest : List Oper} {o : Oper} {a : Act} {Q : Exit → Act → World → Prop} (hgd : o.guard = none) (s x : Operand) (t : TypeId)
    (ho : o.op = .call { callee := .builtin .append, args := #[s, x], argTypes := #[t, t] })
    (e : TypeId) (i : TypeInfo) (z : Value) (size bytes : Nat) (ht : P.underlying t = some (.slice e)) (hi : P.info? e = some i) (hz : i.zero = some z)
    (hsize : i.size = size) (hby : i.bytes = bytes) (hzs : z.cells.size = size) (hsz : 0 < size) (va : Option Addr) (m c : Nat) (news : List Value) (hs : a.eval s = .slice none 0 0) (hx : a.eval x = .slice va m c) (hl : news.length = m * size)
    (hnews : ∀ ad, va = some ad → ∀ j u, news[j]? = some u → w.cell? (ad.add j) = some u) (h1 : ∀ u ∈ news, u.oneCell' = true) (hva : va = none → m = 0) (h63 : m ≤ maxLen) (hbytes : m * bytes ≤ 140737488355328)
    (h : ∀ a' c' w', w'.ownsRow w.heap.size e size (.slice a' m c') m news → Below w.heap.size w w' → wpList P ops Q rest (a.put o.dst (.slice a' m c')) w') :
    wpList P ops Q (o :: rest) a w := by
  refine wpList_plain hgd fun K hK => ?_
  obtain ⟨a', c', w', hr, h2, h3⟩ := run_copy (P := P) w t o.type e i z size bytes ht hi hz hsize hby hzs hsz va m c news hl hnews h1 hva h63 hbytes
  unfold Oper.wp execOp
  simp only [ho, resolve, invoke, builtin, Sem.run_bind, Sem.run_pure, Result.andThen_ok, List.map_toArray, List.map_cons, List.map_nil, hs, hx, hr]
  exact hK _ _ (h a' c' w' h2 h3)
/-- The cells of a list of texts. -/
def cellsT (L : List ByteArray) : List Value := L.map Value.string
theorem cellsT_len (L : List ByteArray) : (cellsT L).length = L.length * 1 := by simp [cellsT]
theorem cellsT_one (L : List ByteArray) : ∀ u ∈ cellsT L, u.oneCell' = true := by
  intro u hu
  obtain ⟨x, _, rfl⟩ := List.mem_map.1 hu
  rfl
theorem cellsT_els (L : List ByteArray) (S : Nat → Prop) (w : World) : Els 1 TxR S w (cellsT L) L :=
  ⟨cellsT_len L, fun i hi => ⟨[.string L[i]], rfl, rfl, fun j hj => by
    obtain rfl : j = 0 := by omega
    simp [cellsT, hi]⟩⟩
theorem Txs.news {S : Nat → Prop} {w : World} {va : Option Addr} {c : Nat} {L : List ByteArray} (h : Txs S w (.slice va L.length c) L) : (∀ ad, va = some ad → ∀ j u, (cellsT L)[j]? = some u → w.cell? (ad.add j) = some u) ∧ (va = none → L.length = 0) := by
  rcases h with ⟨e, h⟩ | ⟨ad, cap, e, _, _, h | ⟨hs, _, hg, hx⟩⟩
  · subst h; exact ⟨fun ad _ j u hu => by simp [cellsT] at hu, fun _ => rfl⟩
  · subst h; exact ⟨fun ad _ j u hu => by simp [cellsT] at hu, fun _ => rfl⟩
  · cases e
    refine ⟨fun ad' e j u hu => ?_, fun e => by cases e⟩
    cases e
    obtain ⟨b, o, s⟩ := ad
    cases hs
    have hj : j < L.length := by have := (List.getElem?_eq_some_iff.1 hu).1; simpa [cellsT] using this
    obtain ⟨cs, _, rfl, h3⟩ := hx j hj
    have hu' : u = .string L[j] := by simp [cellsT, hj] at hu; exact hu.symm
    subst hu'
    have := h3 0 _ rfl
    rw [Go.WideShapes.add_plain]
    simpa using this
theorem keepS {w w' : World} {v0 v1 v2 v3 v4 : Value} (h1 : Has w' w.heap.size #[v0, v1, v2, v3, v4]) : w'.cell? ⟨w.heap.size, 0, none⟩ = some v0 ∧ w'.cell? ⟨w.heap.size, 1, none⟩ = some v1 ∧ w'.cell? ⟨w.heap.size, 2, none⟩ = some v2 ∧ w'.cell? ⟨w.heap.size, 3, none⟩ = some v3 ∧ w'.cell? ⟨w.heap.size, 4, none⟩ = some v4 :=
  ⟨h1.2.1 0, h1.2.1 1, h1.2.1 2, h1.2.1 3, h1.2.1 4⟩
theorem has_lt {W : World} {n : Nat} {vs : Array Value} (h : Has W (n + 1) vs) : n + 2 ≤ W.heap.size := h.1
theorem Txs.of_own {w : World} {base e : Nat} {v : Value} {L : List ByteArray} {S : Nat → Prop} (h : w.ownsRow base e 1 v L.length (cellsT L)) (hS : ∀ b, base ≤ b → S b) (hl : L.length ≤ 8796093022100) : Txs S w v L :=
  Els.owned (cellsT_els L S w) h (fun g hg => hS g (own_lt h g hg).1) hl
end Go.Proofs.Ytbfojlfdiallnaa
