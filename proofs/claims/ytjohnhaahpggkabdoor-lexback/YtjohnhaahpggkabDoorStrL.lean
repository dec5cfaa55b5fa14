import Derived.Test.YtjohnhaahpggkabDoorStrC
import Derived.Maps.AppendAt
namespace Go.Proofs.YtjohnhaahpggkabDoor
open Go.RowKit Go.Shelf
set_option linter.unusedVariables false

/-- A token's five cells. -/
def Tok.cs (x : Tok) : List Value := [.int .i64 x.t.kind, .int .i32 x.t.num, .string (bs x.t.text), .int .i64 x.line, .int .i64 x.col]
def cellsOf (ts : List Tok) : List Value := ts.flatMap Tok.cs
theorem cellsOf_len (ts : List Tok) : (cellsOf ts).length = ts.length * 5 := by
  induction ts with
  | nil => rfl
  | cons x ts ih => unfold cellsOf at *; rw [List.flatMap_cons, List.length_append, ih]; simp [Tok.cs]; omega
theorem cellsOf_snoc (ts : List Tok) (x : Tok) : cellsOf (ts ++ [x]) = cellsOf ts ++ x.cs := by unfold cellsOf; simp

theorem own_only {S : Nat → Prop} {w w' : World} {base e size n : Nat} {v : Value} {xs : List Value} (h : w.ownsRow base e size v n xs) (ho : Only S w w') (hb : ∀ k, base ≤ k → ¬ S k) : w'.ownsRow base e size v n xs := by
  refine ⟨h.1, ?_⟩
  rcases h.2 with h0 | ⟨g, cap, cur, h1, h2, h3, h4⟩
  · exact .inl h0
  · exact .inr ⟨g, cap, cur, h1, h2, (ho.block g (Array.getElem?_eq_some_iff.1 h3).1 (hb g h2)).trans h3, h4⟩

theorem cells_five {W : World} (x0 x1 x2 x3 x4 : Value) (t : TypeId) : ∀ j u, [x0, x1, x2, x3, x4][j]? = some u → (W.alloc (.cells #[x0, x1, x2, x3, x4] t)).cell? ((⟨W.heap.size, 0, none⟩ : Addr).add j) = some u := by
  intro j u h
  have := (Has.new W #[x0, x1, x2, x3, x4] t rfl).2.1 j
  have e : ((⟨W.heap.size, 0, none⟩ : Addr).add j) = ⟨W.heap.size, j, none⟩ := by
    rw [Go.WideShapes.add_plain, Nat.zero_add]
  rw [e, this]
  simpa using h
theorem info27 : (Tryd.prog.info? 27).map (fun i => (i.zero, i.size, i.bytes)) = some (some (.agg #[.int .i64 0, .int .i32 0, .string ⟨#[]⟩, .int .i64 0, .int .i64 0]), 5, 48) := by kernel_rfl

theorem Stm.inner {s : ByteArray} {i : Nat} {ts : List Tok} {z : Tok} (h : Stm s i ts z) : (∀ y ∈ ts, ¬ Ends y.t) ∧ Ends z.t := by
  induction h with
  | stop i h => exact ⟨fun y hy => by simp at hy, h⟩
  | go i ts z h hr ih => exact ⟨fun y hy => by
      rcases List.mem_cons.1 hy with e | e
      · rw [e]; exact h
      · exact ih.1 y e, ih.2⟩
theorem Whole.inner {s : ByteArray} {ts : List Tok} {z : Tok} (h : Whole s ts z) : (∀ y ∈ ts, ¬ Ends y.t) ∧ Ends z.t := by
  rcases h with ⟨_, h⟩ | ⟨_, rfl, rfl⟩
  · exact h.inner
  · exact ⟨fun y hy => by simp at hy, .inr rfl⟩
theorem bad_last {s : ByteArray} {ts pre : List Tok} {z x : Tok} (h : Whole s ts z) (hp : pre ++ [x] <+: ts ++ [z]) (hx : x.t.kind = -1) : pre = ts ∧ x = z := by
  obtain ⟨r, hr⟩ := hp
  rcases List.eq_nil_or_concat r with rfl | ⟨r', y, rfl⟩
  · simp at hr; exact hr
  · exfalso
    rw [List.concat_eq_append, ← List.append_assoc] at hr
    have e := List.append_inj_left' hr (by simp)
    exact h.inner.1 x (by rw [← e]; simp) (.inr hx)

end Go.Proofs.YtjohnhaahpggkabDoor
