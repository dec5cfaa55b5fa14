import Derived.Test.YtbonmajnkbggcabLsE
import Derived.Test.YtbonmajnkbggcabRuM
import Derived.Deep.RegionHeld3
namespace Go.Proofs.Ytbonmajnkbggcab
open Go.RowKit
set_option linter.unusedVariables false


theorem Fl.onlyL {α : Type} {sz : Nat} {cs : α → List Value} {S : Nat → Prop} {w w' : World} {v : Value} {L : List α} (h : Fl sz cs w v L) (O : Only S w w') (hS : ∀ q, v.ownBlock = some q → ¬ S q) : Fl sz cs w' v L := by
  rcases h with h | ⟨ad, cap, rfl, hc, h | ⟨hs, hg, hx⟩⟩
  · exact .inl h
  · exact .inr ⟨ad, cap, rfl, hc, .inl h⟩
  · exact .inr ⟨ad, cap, rfl, hc, .inr ⟨hs, Nat.lt_of_lt_of_le hg O.size, fun i hi j u hu => (show w'.cell? ⟨ad.block, ad.off + i * sz + j, none⟩ = w.cell? ⟨ad.block, ad.off + i * sz + j, none⟩ from World.cell?_of_block (w := w) (O.block _ hg (hS _ rfl))).trans (hx i hi j u hu)⟩⟩
theorem row_cap {w : World} {base e size n d : Nat} {xs : List Value} {b : Option Addr} (h : w.ownsRow base e size (.slice b n d) n xs) : n ≤ d := by
  rcases h.2 with ⟨e1, e2⟩ | ⟨g, cap, cur, e1, _, _, h4, _⟩
  · omega
  · injection e1 with _ _ e3; omega
/-- A list that reads as it did, by its cells. -/
theorem fl_cells {cs : Int → List Value} {w : World} {a : Option Addr} {n c : Nat} {f : Nat → Int} {xs : List Value} (hcs : ∀ x, (cs x).length = 1) (hc : n ≤ c) (h0 : n = 0 ∨ ∃ g, a = some ⟨g, 0, none⟩ ∧ g < w.heap.size) (hn : a = none → n = 0 ∧ c = 0) (hx : ∀ j, j < n → ∀ u, (cs (f j))[0]? = some u → xs[j]? = some u) (hk : ∀ q, (Value.slice a n c).ownBlock = some q → ∀ j u, xs[j]? = some u → w.cell? ⟨q, j, none⟩ = some u) : Fl 1 cs w (.slice a n c) (lst64 n f) := by
  have hl := lst_len n f
  cases a with
  | none =>
    obtain ⟨rfl, rfl⟩ := hn rfl
    exact .inl ⟨rfl, by rw [← List.length_eq_zero_iff, hl]⟩
  | some ad =>
    refine .inr ⟨ad, c, by rw [hl], by rw [hl]; exact hc, ?_⟩
    rcases h0 with h0 | ⟨g, e, hg⟩
    · exact .inl (by rw [← List.length_eq_zero_iff, hl]; exact h0)
    · injection e with e
      subst e
      refine .inr ⟨rfl, hg, fun i hi j u hu => ?_⟩
      have hi' : i < n := by rw [hl] at hi; exact hi
      have hj : j = 0 := by have := (List.getElem?_eq_some_iff.1 hu).1; rw [hcs] at this; omega
      subst hj
      rw [lst_get] at hu
      have := hk g rfl i u (hx i hi' u hu)
      simpa using this
abbrev V3 := Value × Value × Value
def cs3 (t : V3) : List Value := [t.1, t.2.1, t.2.2]
theorem cs3_len (t : V3) : (cs3 t).length = 3 := rfl
/-- Heads that are held: they hold their marks. -/
structure Hx (w : World) (n : Nat) (t : V3) (m j : Nat) (S : Nat → Prop) : Prop where
  a : Fl 1 n64 w t.1 (lst64 m (mkA n (1000 * (j : Int) + 4) (j : Int)))
  i : Fl 1 n32 w t.2.1 (lst64 m (mkI n (1000 * (j : Int) + 4) (j : Int)))
  w : Fl 1 n32 w t.2.2 (lst64 m (mkW n (1000 * (j : Int) + 4) (j : Int)))
  d : ∀ q, blk3 t.1 t.2.1 t.2.2 q → S q
theorem Hx.only {w w' : World} {n m j : Nat} {t : V3} {S P : Nat → Prop} (h : Hx w n t m j S) (O : Only P w w') (hP : ∀ q, S q → ¬ P q) : Hx w' n t m j S :=
  ⟨h.a.onlyL O (fun q hq => hP q (h.d q (.inl hq))), h.i.onlyL O (fun q hq => hP q (h.d q (.inr (.inl hq)))), h.w.onlyL O (fun q hq => hP q (h.d q (.inr (.inr hq)))), h.d⟩
theorem Hx.mono {w : World} {n m j : Nat} {t : V3} {S S' : Nat → Prop} (h : Hx w n t m j S) (hS : ∀ q, S q → S' q) : Hx w n t m j S' := ⟨h.a, h.i, h.w, fun q hq => hS q (h.d q hq)⟩
/-- What stands at the head of the loop. -/
structure LI (n : Nat) (F : F3) (Hb Hp Hh Bh Z : Nat) (b1 b2 u1 u2 u3 v1 v2 v3 v9 : Value) (HL : List V3) (k : Nat) (w : World) : Prop where
  bx : Has w Hb #[b1, b2]
  hp : Has w Hp #[u1, u2, u3]
  hh : Has w Hh #[v1, v2, v3]
  tp : T3 Z w u1 u2 u3 n n n (valR n F.a) (v32 n F.i) (v32 n F.w)
  tv : T3 0 w v1 v2 v3 n n n (valR n F.a) (v32 n F.i) (v32 n F.w)
  dv : ∀ q, blk3 v1 v2 v3 q → q < Z ∧ q ≠ Hp ∧ q ≠ Hh ∧ v9.ownBlock ≠ some q
  dp : ∀ q, blk3 u1 u2 u3 q → q ≠ Hp ∧ q ≠ Hh
  row : w.ownsRow Bh 29 3 v9 (2 * k) (cellsF cs3 HL)
  hl : HL.length = 2 * k
  d9 : ∀ q, v9.ownBlock = some q → q < Z ∧ q ≠ Hp ∧ q ≠ Hh
  hx : ∀ (j : Nat) (hj : j < HL.length), Hx w n HL[j] (n + j % 2) (j / 2) (fun q => q < Z ∧ q ≠ Hp ∧ q ≠ Hh ∧ v9.ownBlock ≠ some q)
  zs : Z ≤ w.heap.size
  zb : Hb < Z ∧ Hb < Bh ∧ Hb < Hp ∧ Hb < Hh ∧ Hp ≠ Hh
theorem LI.z3 {n : Nat} {F : F3} {Hb Hp Hh Bh Z : Nat} {b1 b2 u1 u2 u3 v1 v2 v3 v9 : Value} {HL : List V3} {k : Nat} {w : World} (h : LI n F Hb Hp Hh Bh Z b1 b2 u1 u2 u3 v1 v2 v3 v9 HL k w) : ∀ q, blk3 u1 u2 u3 q → Z ≤ q ∧ q < w.heap.size := fun q hq => by
  rcases hq with hq | hq | hq
  · exact own_lt h.tp.o1 q hq
  · exact own_lt h.tp.o2 q hq
  · exact own_lt h.tp.o3 q hq
theorem kept64 {w0 w : World} {B n c : Nat} {a : Option Addr} {f f' : Nat → Int} (h : w0.ownsRow B 3 1 (.slice a n c) n (valR n f)) (hs : w0.heap.size ≤ w.heap.size) (hk : ∀ q, (Value.slice a n c).ownBlock = some q → ∀ j u, (valR n f)[j]? = some u → w.cell? ⟨q, j, none⟩ = some u) (hf : ∀ j, j < n → f j = f' j) : Fl 1 n64 w (.slice a n c) (lst64 n f') := by
  refine fl_cells n64_len (row_cap h) ?_ ?_ (xs := valR n f) ?_ hk
  · rcases Nat.eq_zero_or_pos n with h0 | h0
    · exact .inl h0
    · obtain ⟨g, cap, ev, _, _, hg⟩ := own_block h h0
      injection ev with e1
      exact .inr ⟨g, e1, by omega⟩
  · intro e
    subst e
    rcases h.2 with ⟨e1, e2⟩ | ⟨g, cap, cur, e1, _⟩
    · injection e1 with _ _ e3; exact ⟨e2, e3⟩
    · injection e1 with e1 _ _; cases e1
  · intro j hj u hu
    rw [valR_get hj, hf j hj]
    simpa [n64] using hu
theorem kept32 {w0 w : World} {B n c : Nat} {a : Option Addr} {f f' : Nat → Int} (h : w0.ownsRow B 21 1 (.slice a n c) n (v32 n f)) (hs : w0.heap.size ≤ w.heap.size) (hk : ∀ q, (Value.slice a n c).ownBlock = some q → ∀ j u, (v32 n f)[j]? = some u → w.cell? ⟨q, j, none⟩ = some u) (hf : ∀ j, j < n → f j = f' j) : Fl 1 n32 w (.slice a n c) (lst64 n f') := by
  refine fl_cells n32_len (row_cap h) ?_ ?_ (xs := v32 n f) ?_ hk
  · rcases Nat.eq_zero_or_pos n with h0 | h0
    · exact .inl h0
    · obtain ⟨g, cap, ev, _, _, hg⟩ := own_block h h0
      injection ev with e1
      exact .inr ⟨g, e1, by omega⟩
  · intro e
    subst e
    rcases h.2 with ⟨e1, e2⟩ | ⟨g, cap, cur, e1, _⟩
    · injection e1 with _ _ e3; exact ⟨e2, e3⟩
    · injection e1 with e1 _ _; cases e1
  · intro j hj u hu
    rw [v32_get hj, hf j hj]
    simpa [n32] using hu
theorem info29l : (Try.prog.info? 29).map (fun i => (i.zero, i.size, i.bytes)) = some (some (.agg #[.slice none 0 0, .slice none 0 0, .slice none 0 0]), 3, 72) := by kernel_rfl
theorem mk_snoc64 {n : Nat} {mk i : Int} : valR n (fun j => mk + (j : Int)) ++ [.int .i64 (70000 + i)] = valR (n + 1) (mkA n mk i) := by
  unfold valR
  rw [List.range_succ, List.map_append, List.map_cons, List.map_nil]
  have e : mkA n mk i n = 70000 + i := if_neg (by omega)
  rw [e]
  congr 1
  apply List.map_congr_left
  intro j hj
  have : j < n := by simpa using hj
  rw [show mkA n mk i j = mk + (j : Int) from if_pos this]
theorem mk_snocI {n : Nat} {mk i : Int} : v32 n (fun j => -mk - (j : Int)) ++ [.int .i32 (80000 + i)] = v32 (n + 1) (mkI n mk i) := by
  unfold v32
  rw [List.range_succ, List.map_append, List.map_cons, List.map_nil]
  have e : mkI n mk i n = 80000 + i := if_neg (by omega)
  rw [e]
  congr 1
  apply List.map_congr_left
  intro j hj
  have : j < n := by simpa using hj
  rw [show mkI n mk i j = -mk - (j : Int) from if_pos this]
theorem mk_snocW {n : Nat} {mk i : Int} : v32 n (fun j => -mk - 100 - (j : Int)) ++ [.int .i32 (90000 + i)] = v32 (n + 1) (mkW n mk i) := by
  unfold v32
  rw [List.range_succ, List.map_append, List.map_cons, List.map_nil]
  have e : mkW n mk i n = 90000 + i := if_neg (by omega)
  rw [e]
  congr 1
  apply List.map_congr_left
  intro j hj
  have : j < n := by simpa using hj
  rw [show mkW n mk i j = -mk - 100 - (j : Int) from if_pos this]
end Go.Proofs.Ytbonmajnkbggcab
