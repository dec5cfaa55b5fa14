import Derived.Test.YtjohnhaahpggkabDoorJnG
import Derived.Deep.AppendLies
import Derived.Deep.RegionLaw
namespace Go.Proofs.YtjohnhaahpggkabDoor
open Go.RowKit
set_option linter.unusedVariables false
set_option linter.unusedSimpArgs false

theorem info27 : (Tryd.prog.info? 27).map (fun i => (i.zero, i.size, i.bytes)) = some (some (.agg #[.int .i64 0, .int .i32 0, .string ⟨#[]⟩, .int .i64 0, .int .i64 0]), 5, 48) := by kernel_rfl
theorem Has.blk {w w' : World} {b : Nat} {vs : Array Value} (h : Has w b vs) (hs : w.heap.size ≤ w'.heap.size) (hb : w'.heap[b]? = w.heap[b]?) : Has w' b vs :=
  ⟨Nat.lt_of_lt_of_le h.1 hs, fun i => (World.cell?_of_block (w := w) hb).trans (h.2.1 i), fun i => (World.frozen?_of_block (w := w) hb).trans (h.2.2 i)⟩
/-- Nothing is appended to nil. -/
theorem step_append_none {P : Program} {w : World} {ops : Array Oper} {o : Oper} {a : Act} {K : Act → World → Prop} {Q : Exit → Act → World → Prop} {E : Prop} (hgd : o.guard = none) (s x : Operand) (t : TypeId)
    (ho : o.op = .call { callee := .builtin .append, args := #[s, x], argTypes := #[t, t] })
    (e : TypeId) (i : TypeInfo) (ht : P.underlying t = some (.slice e)) (hi : P.info? e = some i) (va : Option Addr) (c : Nat)
    (hs : a.eval s = .slice none 0 0) (hx : a.eval x = .slice va 0 c) (h : K (a.put o.dst (.slice none 0 0)) w) :
    if Region.wanted o (yielded ops a.tmps) = true then Oper.wp P o a w K Q else E := by
  have hw : Region.wanted o (yielded ops a.tmps) = true := by simp [Region.wanted, hgd]
  rw [if_pos hw]
  have hsrc : Src P i.size t (.slice va 0 c) 0 [] w := by
    cases va with
    | none => exact Src.ofNil w ht c
    | some ad => exact Src.ofSlice w ht ad 0 c [] (by simp) (fun j u hu => by simp at hu) (fun u hu => by cases hu)
  have hr := run_append_nothing (P := P) w t t o.type e i ht hi none 0 0 (Nat.le_refl _) (.slice va 0 c) hsrc
  unfold Oper.wp execOp
  simp only [ho, resolve, invoke, builtin, Sem.run_bind, Sem.run_pure, Result.andThen_ok, List.map_toArray, List.map_cons, List.map_nil, hs, hx, hr]
  exact h
theorem cells_ten {W : World} (xs : List Value) (t : TypeId) : ∀ j u, xs[j]? = some u → (W.alloc (.cells xs.toArray t)).cell? ((⟨W.heap.size, 0, none⟩ : Addr).add j) = some u := by
  intro j u h
  have := (Has.new W xs.toArray t rfl).2.1 j
  rw [Go.WideShapes.add_plain, Nat.zero_add, this]
  simpa using h
theorem cells_ten_at {W : World} {b : Nat} (hb : b = W.heap.size) (xs : List Value) (t : TypeId) : ∀ j u, xs[j]? = some u → (W.alloc (.cells xs.toArray t)).cell? ((⟨b, 0, none⟩ : Addr).add j) = some u := by
  subst hb; exact cells_ten _ _
def Tq.cs (x : Tq) : List Value := [.int .i64 x.k, .int .i32 x.n, .string x.tx, .int .i64 x.ln, .int .i64 x.cl]
def cellsQ (ts : List Tq) : List Value := ts.flatMap Tq.cs
theorem cellsQ_len (ts : List Tq) : (cellsQ ts).length = ts.length * 5 := by
  induction ts with
  | nil => rfl
  | cons x ts ih => unfold cellsQ at *; rw [List.flatMap_cons, List.length_append, ih]; simp [Tq.cs]; omega
theorem cellsQ_app (S T : List Tq) : cellsQ (S ++ T) = cellsQ S ++ cellsQ T := by unfold cellsQ; simp
theorem cellsQ_get : ∀ (ts : List Tq) (i j : Nat) (h : i < ts.length), j < 5 → (cellsQ ts)[i * 5 + j]? = ts[i].cs[j]? := by
  intro ts
  induction ts with
  | nil => intro i j h; simp at h
  | cons x ts ih =>
    intro i j h hj
    have e : cellsQ (x :: ts) = x.cs ++ cellsQ ts := by unfold cellsQ; rw [List.flatMap_cons]
    have hl : x.cs.length = 5 := rfl
    rw [e]
    cases i with
    | zero => rw [List.getElem?_append_left (by rw [hl]; omega)]; simp
    | succ i =>
      rw [List.getElem?_append_right (by rw [hl]; omega), hl, show (i + 1) * 5 + j - 5 = i * 5 + j by omega, ih i j (by simpa using h) hj]
      simp
theorem cellsQ_one (L : List Tq) : ∀ u ∈ cellsQ L, u.oneCell' = true := by
  intro u hu
  unfold cellsQ at hu
  obtain ⟨x, _, hx⟩ := List.mem_flatMap.1 hu
  simp [Tq.cs] at hx
  rcases hx with rfl | rfl | rfl | rfl | rfl <;> rfl
/-- The list's cells, one behind the other. -/
theorem tqs_news {w : World} {ad : Addr} {cap : Nat} {L : List Tq} (h : Tqs w (.slice (some ad) L.length cap) L) : ∀ j u, (cellsQ L)[j]? = some u → w.cell? (ad.add j) = some u := by
  obtain ⟨a, c, e, hc⟩ := h
  cases e
  intro j u hu
  have hj : j < L.length * 5 := by rw [← cellsQ_len]; exact (List.getElem?_eq_some_iff.1 hu).1
  obtain ⟨g, o, e, hg, hcs⟩ := hc.resolve_left (by intro h; rw [h] at hj; simp at hj)
  cases e
  have hi : j / 5 < L.length := by omega
  have he : j = j / 5 * 5 + j % 5 := by omega
  have hm : j % 5 < 5 := Nat.mod_lt _ (by omega)
  rw [he, cellsQ_get L (j / 5) (j % 5) hi hm] at hu
  rw [Go.WideShapes.add_plain]
  obtain ⟨p0, p1, p2, p3, p4⟩ := hcs (j / 5) hi
  have hc5 : j % 5 = 0 ∨ j % 5 = 1 ∨ j % 5 = 2 ∨ j % 5 = 3 ∨ j % 5 = 4 := by omega
  rcases hc5 with h | h | h | h | h
  · rw [h] at hu; simp [Tq.cs] at hu; rw [← hu, show o + j = o + j / 5 * 5 by omega]; exact p0
  · rw [h] at hu; simp [Tq.cs] at hu; rw [← hu, show o + j = o + j / 5 * 5 + 1 by omega]; exact p1
  · rw [h] at hu; simp [Tq.cs] at hu; rw [← hu, show o + j = o + j / 5 * 5 + 2 by omega]; exact p2
  · rw [h] at hu; simp [Tq.cs] at hu; rw [← hu, show o + j = o + j / 5 * 5 + 3 by omega]; exact p3
  · rw [h] at hu; simp [Tq.cs] at hu; rw [← hu, show o + j = o + j / 5 * 5 + 4 by omega]; exact p4
/-- The first tokens of a row of the call's own. -/
theorem tqs_own {w : World} {base g cap c' : Nat} {S R : List Tq} {n : Nat} (h : w.ownsRow base 27 5 (.slice (some ⟨g, 0, none⟩) n cap) n (cellsQ (S ++ R))) (hn : n = (S ++ R).length) : Tqs w (.slice (some ⟨g, 0, none⟩) S.length c') S := by
  refine ⟨_, _, rfl, ?_⟩
  by_cases h0 : S = []
  · exact .inl h0
  · right
    refine ⟨g, 0, rfl, (h.lt g rfl).2, fun i hi => ?_⟩
    have key : ∀ j u, j < 5 → S[i].cs[j]? = some u → w.cell? ⟨g, 0 + i * 5 + j, none⟩ = some u := by
      intro j u hj hu
      have h1 := h.cells (g := g) rfl (i * 5 + j) u (by rw [cellsQ_get (S ++ R) i j (by simp; omega) hj, List.getElem_append_left hi]; exact hu)
      rw [Go.WideShapes.add_plain] at h1
      rw [show 0 + i * 5 + j = 0 + (i * 5 + j) by omega]; exact h1
    exact ⟨key 0 _ (by omega) rfl, key 1 _ (by omega) rfl, key 2 _ (by omega) rfl, key 3 _ (by omega) rfl, key 4 _ (by omega) rfl⟩
theorem Tqs.below {w w' : World} {v : Value} {L : List Tq} (h : Tqs w v L) (hb : Below w.heap.size w w') : Tqs w' v L := by
  obtain ⟨a, cap, rfl, h | ⟨g, o, rfl, hg, hc⟩⟩ := h
  · exact ⟨a, cap, rfl, .inl h⟩
  · refine ⟨_, cap, rfl, .inr ⟨g, o, rfl, Nat.lt_of_lt_of_le hg hb.size, fun i hi => ?_⟩⟩
    obtain ⟨h0, h1, h2, h3, h4⟩ := hc i hi
    exact ⟨(hb.cell (p := ⟨g, _, none⟩) hg).trans h0, (hb.cell (p := ⟨g, _, none⟩) hg).trans h1, (hb.cell (p := ⟨g, _, none⟩) hg).trans h2, (hb.cell (p := ⟨g, _, none⟩) hg).trans h3, (hb.cell (p := ⟨g, _, none⟩) hg).trans h4⟩

set_option maxRecDepth 100000 in
set_option maxHeartbeats 4000000 in
theorem alike_same (L : List Tq) (v1 v2 : Value) (w : World) (h1 : Tqs w v1 L) (h2 : Tqs w v2 L) (hlen : L.length ≤ 4398046511104) :
    Calls Tryd.prog 10 #[v1, v2] w fun e w' => e = .returned (.bool true) ∧ ∃ n, w' = w.drewN n := by
  obtain ⟨a1, c1, rfl, h1⟩ := h1
  obtain ⟨a2, c2, rfl, h2⟩ := h2
  by_cases h0 : L = []
  · subst h0
    clear h1 h2
    go_enter Tryd.func10, Tryd.ntmps10
    go_wp2
    go_loop [5] (fun t => t = .int .i64 0) (fun _ => 0)
    case atStart => exact rfl
    case round =>
      obtain rfl := hrel
      go_wp2
      go_ret
      exact ⟨rfl, 0, rfl⟩
  · obtain ⟨g1, o1, rfl, hg1, H1⟩ := h1.resolve_left h0
    obtain ⟨g2, o2, rfl, hg2, H2⟩ := h2.resolve_left h0
    clear h0 h1 h2
    go_enter Tryd.func10, Tryd.ntmps10
    go_wp2
    go_loopw [5] (fun t wr => ∃ k q : Nat, k ≤ L.length ∧ t = .int .i64 (k : Int) ∧ wr = w.drewN q) (fun t _ => L.length - (intOf t).toNat)
    case atStart => exact ⟨0, 0, by omega, rfl, rfl⟩
    case round =>
      obtain ⟨k, q, hk, rfl, rfl⟩ := hrel
      by_cases hlt : k < L.length
      · obtain ⟨p0, p1, p2, p3, p4⟩ := H1 k hlt
        obtain ⟨r0, r1, r2, r3, r4⟩ := H2 k hlt
        have k1 : (k : Int) < (L.length : Int) := by omega
        have k0 : (0 : Int) ≤ (k : Int) := by omega
        generalize L[k].k = x0 at *
        generalize L[k].n = x1 at *
        generalize L[k].tx = x2 at *
        generalize L[k].ln = x3 at *
        generalize L[k].cl = x4 at *
        clear H1 H2
        go_wp2
        go_quiet (fail)
        go_wp2
        go_roundw
        case rel => exact ⟨k + 1, q + nq, by omega, by go_num, rfl⟩
        case measure => simp [intOf]; omega
      · have k1 : ¬ (k : Int) < (L.length : Int) := by omega
        clear H1 H2
        go_wp2
        go_ret
        exact ⟨rfl, q, rfl⟩

end Go.Proofs.YtjohnhaahpggkabDoor
