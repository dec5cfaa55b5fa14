import Derived.Test.YtbonmajnkbggcaaRmA
import Derived.Deep.RegionHeld3
import Derived.Deep.AppendSrc
import Derived.Deep.Upon
namespace Go.Proofs.Ytbonmajnkbggcaa
open Go.RowKit
set_option linter.unusedVariables false


/-- A list of the call's own, and who owns its block. -/
structure Row (own : Nat → Nat) (X : World) (B e sz : Nat) (v : Value) (n : Nat) (cs : List Value) (k : Nat) : Prop where
  sl : ∃ a c, v = .slice a n c
  ow : X.ownsRow B e sz v n cs
  wh : ∀ q, v.ownBlock = some q → own q = k
theorem Row.move {own own' : Nat → Nat} {X X' : World} {B e sz n k : Nat} {v : Value} {cs : List Value} {P : Nat → Prop} (h : Row own X B e sz v n cs k) (O : Only P X X') (hS : ∀ q, P q → own q ≠ k) (ho : ∀ q, q < X.heap.size → own' q = own q) : Row own' X' B e sz v n cs k :=
  ⟨h.sl, own_only2 h.ow O (fun q hq hp => hS q hp (h.wh q hq)), fun q hq => (ho q (own_lt h.ow q hq).2).trans (h.wh q hq)⟩
theorem row_cap {w : World} {base e size n d : Nat} {xs : List Value} {b : Option Addr} (h : w.ownsRow base e size (.slice b n d) n xs) : n ≤ d := by
  rcases h.2 with ⟨e1, e2⟩ | ⟨g, cap, cur, e1, _, _, h4, _⟩
  · omega
  · injection e1 with _ _ e3; omega
/-- A list is grown by another one, which may be empty. -/
theorem step_more {P : Program} {w : World} {ops : Array Oper} {o : Oper} {a : Act} {K : Act → World → Prop} {Q : Exit → Act → World → Prop} {E : Prop} (hgd : o.guard = none) (s x : Operand) (t : TypeId)
    (ho : o.op = .call { callee := .builtin .append, args := #[s, x], argTypes := #[t, t] })
    (base e : TypeId) (i : TypeInfo) (z : Value) (size bytes : Nat) (ht : P.underlying t = some (.slice e)) (hi : P.info? e = some i) (hz : i.zero = some z)
    (hsize : i.size = size) (hby : i.bytes = bytes) (hzs : z.cells.size = size) (hsz : 0 < size) (v : Value) (b : Option Addr) (d : Nat) (n : Nat) (xs : List Value) (hs : a.eval s = v) (hv : v = .slice b n d) (hcap : n ≤ d) (hown : w.ownsRow base e size v n xs)
    (va : Option Addr) (m c : Nat) (news : List Value) (hx : a.eval x = .slice va m c) (hl : news.length = m * size)
    (hnews : ∀ ad, va = some ad → ∀ j u, news[j]? = some u → w.cell? (ad.add j) = some u) (h1 : ∀ u ∈ news, u.oneCell' = true) (hva : va = none → m = 0) (h63 : n + m ≤ maxLen) (hbytes : (n + m) * bytes ≤ 140737488355328) (hbase : base ≤ w.heap.size)
    (h : ∀ v' w', (∃ a' c', v' = .slice a' (n + m) c') → w'.ownsRow base e size v' (n + m) (xs ++ news) → Only (fun q => v.ownBlock = some q) w w' → (∀ q, v'.ownBlock = some q → v.ownBlock = some q ∨ w.heap.size ≤ q) → K (a.put o.dst v') w') :
    if Region.wanted o (yielded ops a.tmps) = true then Oper.wp P o a w K Q else E := by
  have hw : Region.wanted o (yielded ops a.tmps) = true := by simp [Region.wanted, hgd]
  subst hv
  rcases Nat.eq_zero_or_pos m with h0 | hm
  · subst h0
    have hnil : news = [] := List.length_eq_zero_iff.1 (by simpa using hl)
    subst hnil
    have hsrc : Src P i.size t (.slice va 0 c) 0 [] w := by
      cases va with
      | none => exact Src.ofNil w ht c
      | some ad => exact Src.ofSlice w ht ad 0 c [] (by simp) (fun j u hu => by simp at hu) (fun u hu => by cases hu)
    have hr := run_append_nothing (P := P) w t t o.type e i ht hi b n d hcap (.slice va 0 c) hsrc
    rw [if_pos hw]
    unfold Oper.wp execOp
    simp only [ho, resolve, invoke, builtin, Sem.run_bind, Sem.run_pure, Result.andThen_ok, List.map_toArray, List.map_cons, List.map_nil, hs, hx, hr]
    exact h _ _ ⟨_, _, rfl⟩ (by rw [List.append_nil]; exact hown) (Only.refl _ _) (fun q hq => .inl hq)
  · cases va with
    | none => exact absurd (hva rfl) (by omega)
    | some ad =>
      refine step_append_lies w hgd s x t ho base e i z size bytes ht hi hz hsize hby hzs hsz (.slice b n d) n xs hs hown ad m c news hx hl (hnews ad rfl) h1 hm h63 hbytes hbase _ rfl ?_
      intro g cap w' ow gr hat _
      refine h _ _ ⟨_, _, rfl⟩ ow (only_grown (Only.refl _ _) gr (fun k hk => .inl hk)) (fun q hq => ?_)
      have e : g = q := by injection hq
      subst e
      exact hat.imp id (fun h => by omega)

theorem info58a : (Try.prog.info? 58).map (fun i => (i.zero, i.size, i.bytes)) = some (some (.agg #[.string ⟨#[]⟩, .int .i64 0, .int .i64 0, .int .i64 0, .int .i64 0]), 5, 48) := by kernel_rfl
theorem info49a : (Try.prog.info? 49).map (fun i => (i.zero, i.size, i.bytes)) = some (some (.agg #[.int .i64 0, .int .i64 0, .int .i64 0, .int .i64 0]), 4, 32) := by kernel_rfl
end Go.Proofs.Ytbonmajnkbggcaa
