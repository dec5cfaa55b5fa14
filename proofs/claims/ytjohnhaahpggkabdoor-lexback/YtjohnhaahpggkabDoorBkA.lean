import Derived.Test.YtjohnhaahpggkabDoorBkN
import Derived.Test.YtjohnhaahpggkabDoorStrL
import Derived.Deep.AppendLies
import Derived.Laws.AppendOwnNone
namespace Go.Proofs.YtjohnhaahpggkabDoor
open Go.RowKit
set_option linter.unusedVariables false
set_option linter.unusedSimpArgs false

theorem cellsOf_get : ∀ (ts : List Tok) (i j : Nat) (h : i < ts.length), j < 5 → (cellsOf ts)[i * 5 + j]? = ts[i].cs[j]?
  | t :: r, 0, j, _, hj => by
    show (t.cs ++ cellsOf r)[0 * 5 + j]? = t.cs[j]?
    rw [Nat.zero_mul, Nat.zero_add, List.getElem?_append_left (by simpa [Tok.cs] using hj)]
  | t :: r, i + 1, j, h, hj => by
    show (t.cs ++ cellsOf r)[(i + 1) * 5 + j]? = _
    have hl : t.cs.length = 5 := rfl
    rw [List.getElem?_append_right (by omega), hl, show (i + 1) * 5 + j - 5 = i * 5 + j by omega, cellsOf_get r i j (by simpa using h) hj]
    rfl
theorem cellsOf_one (L : List Tok) : ∀ u ∈ cellsOf L, u.oneCell' = true := by
  intro u hu
  unfold cellsOf at hu
  rw [List.mem_flatMap] at hu
  obtain ⟨x, _, hx⟩ := hu
  simp only [Tok.cs, List.mem_cons, List.not_mem_nil, or_false] at hx
  rcases hx with rfl | rfl | rfl | rfl | rfl <;> rfl
/-- A row of tokens, read. -/
theorem tqs_row {w : World} {base n : Nat} {v : Value} {S : List Tok} (h : w.ownsRow base 27 5 v n (cellsOf S)) (hn : n = S.length) : Tqs w v (S.map Tok.q) := by
  subst hn
  rcases h.2 with ⟨rfl, h0⟩ | ⟨g, cap, cur, rfl, _⟩
  · have : S = [] := List.eq_nil_of_length_eq_zero h0
    subst this; exact ⟨_, _, rfl, .inl rfl⟩
  · refine ⟨some ⟨g, 0, none⟩, cap, by simp, ?_⟩
    by_cases h0 : S = []
    · left; simp [h0]
    · right
      refine ⟨g, 0, rfl, (h.lt g rfl).2, fun i hi => ?_⟩
      have hi' : i < S.length := by simpa using hi
      have key : ∀ j u, j < 5 → S[i].cs[j]? = some u → w.cell? ⟨g, 0 + i * 5 + j, none⟩ = some u := by
        intro j u hj hu
        have h1 := h.cells (g := g) rfl (i * 5 + j) u (by rw [cellsOf_get S i j hi' hj]; exact hu)
        rw [Go.WideShapes.add_plain] at h1
        rw [show 0 + i * 5 + j = 0 + (i * 5 + j) by omega]; exact h1
      rw [List.getElem_map]
      exact ⟨key 0 _ (by omega) rfl, key 1 _ (by omega) rfl, key 2 _ (by omega) rfl, key 3 _ (by omega) rfl, key 4 _ (by omega) rfl⟩
theorem own_keep {w w' : World} {base e size n : Nat} {v : Value} {xs : List Value} (h : w.ownsRow base e size v n xs) (hb : ∀ g, v.ownBlock = some g → w'.heap[g]? = w.heap[g]?) : w'.ownsRow base e size v n xs := by
  refine ⟨h.1, ?_⟩
  rcases h.2 with h1 | ⟨g, cap, cur, rfl, h1, h2, h3⟩
  · exact .inl h1
  · exact .inr ⟨g, cap, cur, rfl, h1, (hb g rfl).trans h2, h3⟩
theorem own_below {w w' : World} {base e size n : Nat} {v : Value} {xs : List Value} (h : w.ownsRow base e size v n xs) (hb : Below w.heap.size w w') : w'.ownsRow base e size v n xs :=
  own_keep h (fun g hg => hb.block g (h.lt g hg).2)
theorem below_drewN (W : World) (q : Nat) : Below W.heap.size W (W.drewN q) := by
  obtain ⟨h1, h2, h3, h4⟩ := drewN_heap W q
  exact ⟨h2, h3, h4, by rw [h1]; exact Nat.le_refl _, fun k _ => by rw [h1]⟩
theorem Tqs.below {w w' : World} {v : Value} {L : List Tq} (h : Tqs w v L) (hb : Below w.heap.size w w') : Tqs w' v L := by
  obtain ⟨a, cap, rfl, h | ⟨g, o, rfl, hg, hc⟩⟩ := h
  · exact ⟨a, cap, rfl, .inl h⟩
  · refine ⟨_, cap, rfl, .inr ⟨g, o, rfl, Nat.lt_of_lt_of_le hg hb.size, fun i hi => ?_⟩⟩
    obtain ⟨h0, h1, h2, h3, h4⟩ := hc i hi
    exact ⟨(hb.cell (p := ⟨g, _, none⟩) hg).trans h0, (hb.cell (p := ⟨g, _, none⟩) hg).trans h1, (hb.cell (p := ⟨g, _, none⟩) hg).trans h2, (hb.cell (p := ⟨g, _, none⟩) hg).trans h3, (hb.cell (p := ⟨g, _, none⟩) hg).trans h4⟩
/-- append([]T(nil), row...): a row of its own, and the old one stays. -/
theorem wpList_copy {P : Program} {w : World} {ops : Array Oper} {rest : List Oper} {o : Oper} {a : Act} {Q : Exit → Act → World → Prop} (hgd : o.guard = none) (s x : Operand) (t : TypeId)
    (ho : o.op = .call { callee := .builtin .append, args := #[s, x], argTypes := #[t, t] })
    (base : Nat) (e : TypeId) (i : TypeInfo) (z : Value) (size bytes : Nat) (ht : P.underlying t = some (.slice e)) (hi : P.info? e = some i) (hz : i.zero = some z)
    (hsize : i.size = size) (hby : i.bytes = bytes) (hzs : z.cells.size = size) (hsz : 0 < size)
    (v : Value) (n : Nat) (xs : List Value) (hs : a.eval s = .slice none 0 0) (hx : a.eval x = v) (hown : w.ownsRow base e size v n xs) (hnil : n = 0 → v = .slice none 0 0)
    (h1 : ∀ u ∈ xs, u.oneCell' = true) (h63 : n ≤ maxLen) (hbytes : n * bytes ≤ 140737488355328) (hbase : base ≤ w.heap.size)
    (h : ∀ v' w', w'.ownsRow base e size v' n xs → w'.ownsRow base e size v n xs → w.grownBy w' none → (∀ g, v'.ownBlock = some g → w.heap.size ≤ g) → wpList P ops Q rest (a.put o.dst v') w') : wpList P ops Q (o :: rest) a w := by
  by_cases h0 : n = 0
  · have hv := hnil h0
    refine wpList_append_own_none hgd s x t ho base e i size ht hi (.slice none 0 0) n xs hs (by rw [hv] at hown; exact hown) (by rw [hx, hv]) ?_
    exact h _ _ (by rw [hv] at hown; exact hown) hown (World.grownBy.refl _ _) (fun g hg => by cases hg)
  · rcases hown.2 with ⟨_, h2⟩ | ⟨g, cap, cur, rfl, _⟩
    · exact absurd h2 h0
    · refine wpList_append_lies w hgd s x t ho base e i z size bytes ht hi hz hsize hby hzs hsz (.slice none 0 0) 0 [] hs (World.ownsRow_nil _ _ _ _) ⟨g, 0, none⟩ n cap xs hx hown.1 (hown.cells (g := g) rfl) h1 (by omega) (by omega) (by rw [Nat.zero_add]; exact hbytes) hbase _ rfl ?_
      intro g1 c1 w1 ho1 hg1 hat hlt
      rw [Nat.zero_add] at ho1 ⊢
      exact h _ _ ho1 (hown.kept hg1 (.inr (by intro h; cases h))) hg1 (fun g' hg' => by
        have : g1 = g' := by simpa [Value.ownBlock] using hg'
        rcases hat with h | h
        · cases h
        · omega)

set_option maxRecDepth 100000 in
set_option maxHeartbeats 4000000 in
theorem same_any (L M : List Tq) (v1 v2 : Value) (w : World) (h1 : Tqs w v1 L) (h2 : Tqs w v2 M) (hl : M.length = L.length) (he : ∀ i (a : i < L.length) (b : i < M.length), M[i].k = L[i].k ∧ M[i].n = L[i].n ∧ M[i].tx = L[i].tx) (hlen : L.length ≤ 4398046511104) :
    Calls Tryd.prog 8 #[v1, v2] w fun e w' => e = .returned (.bool true) ∧ ∃ n, w' = w.drewN n := by
  obtain ⟨a1, c1, rfl, h1⟩ := h1
  obtain ⟨a2, c2, rfl, h2⟩ := h2
  by_cases h0 : L = []
  · subst h0
    rw [hl]
    clear h1 h2 he
    go_enter Tryd.func8, Tryd.ntmps8
    go_wp2
    go_loop [5] (fun t => t = .int .i64 0) (fun _ => 0)
    case atStart => exact rfl
    case round =>
      obtain rfl := hrel
      go_wp2
      go_ret
      exact ⟨rfl, 0, rfl⟩
  · obtain ⟨g1, o1, rfl, hg1, H1⟩ := h1.resolve_left h0
    obtain ⟨g2, o2, rfl, hg2, H2⟩ := h2.resolve_left (by intro h; rw [h] at hl; exact h0 (List.eq_nil_of_length_eq_zero hl.symm))
    clear h0 h1 h2
    rw [hl]
    have HL := hid_of hl
    have HE := hid_of he
    clear hl he
    go_enter Tryd.func8, Tryd.ntmps8
    go_wp2
    go_loopw [5] (fun t wr => ∃ k q : Nat, k ≤ L.length ∧ t = .int .i64 (k : Int) ∧ wr = w.drewN q) (fun t _ => L.length - (intOf t).toNat)
    case atStart => exact ⟨0, 0, by omega, rfl, rfl⟩
    case round =>
      obtain ⟨k, q, hk, rfl, rfl⟩ := hrel
      by_cases hlt : k < L.length
      · obtain ⟨p0, p1, p2, p3, p4⟩ := H1 k hlt
        have hlt2 : k < M.length := by rw [HL.out]; exact hlt
        obtain ⟨r0, r1, r2, r3, r4⟩ := H2 k hlt2
        obtain ⟨e0, e1, e2⟩ := HE.out k hlt hlt2
        rw [e0] at r0; rw [e1] at r1; rw [e2] at r2
        have k1 : (k : Int) < (L.length : Int) := by omega
        have k0 : (0 : Int) ≤ (k : Int) := by omega
        clear e0 e1 e2 r3 r4 p3 p4 hlt2
        generalize L[k].k = x0 at *
        generalize L[k].n = x1 at *
        generalize L[k].tx = x2 at *
        clear H1 H2
        go_wp2
        go_quiet (fail)
        go_wp2
        go_roundw
        case rel => exact ⟨k + 1, q + nq, by omega, by go_num, rfl⟩
        case measure => simp [intOf]; omega
      · have k1 : ¬ (k : Int) < (L.length : Int) := by omega
        clear H1 H2
        go_wp2
        go_ret
        exact ⟨rfl, q, rfl⟩
end Go.Proofs.YtjohnhaahpggkabDoor
